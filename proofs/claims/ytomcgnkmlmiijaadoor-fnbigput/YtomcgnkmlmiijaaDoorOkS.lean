/- spec.BigOk, by the same contract. -/
import Derived.Test.YtomcgnkmlmiijaaDoorGh
namespace Go.Proofs.YtomcgnkmlmiijaaDoor
open Go.RowKit

theorem specBigOk_any (w : World) (neg : Bool) (v : Value) (l : List Int) (hr : Reads w v l) :
    Calls Tryd.prog 9 #[.agg #[.bool neg, v]] w fun e w' => e = .returned (.bool (okB neg l)) ∧ Below w.heap.size w w' := by
  go_enter Tryd.func9, Tryd.ntmps9
  go_wp2_with fail
  refine (l1Ok_any _ neg v l (hr.alloc _)).mono ?_
  rintro e w1 ⟨rfl, hb⟩
  go_wp2
  go_ret
  exact ⟨rfl, ((Below.refl _ _).alloc (Nat.le_refl _) _).trans (hb.mono (by simp))⟩

end Go.Proofs.YtomcgnkmlmiijaaDoor
