/- One limb of the specification, by a contract. -/
import Derived.Test.YtjamogkenghonaaGreatDoorSpA0
namespace Go.Proofs.YtjamogkenghonaaGreatDoor
open Go.RowKit
set_option maxRecDepth 100000


theorem l1Limb_any (w : World) (v : Value) (l : List Int) (i : Nat) (hr : Reads w v l) (hi : i ≤ 8000000) :
    Calls Tryz.prog 84 #[v, .int .i64 i] w fun e w' => e = .returned (.int .i64 (l.getD i 0)) ∧ w' = w := by
  obtain ⟨ao, b, off, cap, rfl, hr⟩ := hr
  have h1 := hr.le
  have h2 := hr.big
  unfold maxLen at h2
  by_cases h : i < l.length
  · have hc := hr.cell i h
    rw [getD_at h]
    have hat := hr.at_ (by omega)
    subst hat
    clear hr
    go_enter Tryz.func84, Tryz.ntmps84
    go_wp2
    go_ret
    exact ⟨rfl, rfl⟩
  · rw [getD_past (by omega)]
    clear hr
    go_enter Tryz.func84, Tryz.ntmps84
    go_wp2
    go_ret
    exact ⟨rfl, rfl⟩

end Go.Proofs.YtjamogkenghonaaGreatDoor
