/- DecOk of the specification. -/
import Derived.Test.YthnkmjkgcnhlfaaGreatDoorH13
namespace Go.Proofs.YthnkmjkgcnhlfaaGreatDoor
open Go.RowKit

theorem specDecOk_any (w : World) (p : Bool) (v : Value) (l : List Int) (s : Int) (hr : Reads w v l) :
    Calls Tryz.prog 44 #[.agg #[.bool p, v, .int .i64 s]] w fun e w' => e = .returned (.bool (decB p l s)) ∧ Below w.heap.size w w' := by
  have C := hide (fun W (hr : Reads W v l) => l2Ok_any W p v l s hr)
  have HR := hide hr
  obtain ⟨ao, b, off, cap, rfl, hr0⟩ := hr
  clear hr0
  generalize decB p l s = q at *
  go_enter Tryz.func44, Tryz.ntmps44
  go_wp2_with fail
  refine (unhide C _ ((unhide HR).alloc _)).mono ?_
  rintro e w1 ⟨rfl, b1⟩
  go_wp2
  go_ret
  exact ⟨rfl, ((Below.refl _ _).alloc (Nat.le_refl _) _).trans (b1.mono (by simp))⟩

end Go.Proofs.YthnkmjkgcnhlfaaGreatDoor
