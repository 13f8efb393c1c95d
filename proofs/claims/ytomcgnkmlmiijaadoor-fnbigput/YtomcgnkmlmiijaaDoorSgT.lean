/- What stands ahead of a number's figures. -/
import Derived.Test.YtomcgnkmlmiijaaDoorTxS
namespace Go.Proofs.YtomcgnkmlmiijaaDoor
open Go.RowKit

/-- What stands ahead of a number's figures. -/
def sgT (p : Bool) : List UInt8 := if p then [45] else []

theorem signText_any (w : World) (p : Bool) (v : Value) : Calls Tryd.prog 17 #[.agg #[.bool p, v]] w fun e w' => e = .returned (.string ⟨(sgT p).toArray⟩) ∧ Below w.heap.size w w' := by
  cases p
  all_goals
    go_enter Tryd.func17, Tryd.ntmps17
    go_wp2
    go_ret
    exact ⟨rfl, (Below.refl _ _).alloc (Nat.le_refl _) _⟩

end Go.Proofs.YtomcgnkmlmiijaaDoor
