/- Whether a decimal may have that scale. -/
import Derived.Test.YtnegndajejhflaaDoorProg
import Derived.WalkKit
import Derived.WalkSmall
import Derived.WalkLawsBesides
import Derived.Below
import Derived.Deep.QuietTactic
import Derived.BigQuiet
namespace Go.Proofs.YtnegndajejhflaaDoor
open Go.RowKit

theorem scaleOk_any (w : World) (s : Int) : Calls Tryd.prog 44 #[.int .i64 s] w fun e w' => e = .returned (.bool (decide (0 ≤ s ∧ s ≤ 12))) ∧ w' = w := by
  by_cases h : 0 ≤ s
  · have h' : decide (0 ≤ s) = true := by simpa using h
    by_cases k : s ≤ 12
    · rw [decide_eq_true ⟨h, k⟩]
      have k' : decide (s ≤ 12) = true := by simpa using k
      go_enter Tryd.func44, Tryd.ntmps44
      go_wp2
      go_ret
      exact ⟨rfl, rfl⟩
    · rw [decide_eq_false (fun e => k e.2)]
      have k' : decide (s ≤ 12) = false := by simpa using k
      go_enter Tryd.func44, Tryd.ntmps44
      go_wp2
      go_ret
      exact ⟨rfl, rfl⟩
  · have h' : decide (0 ≤ s) = false := by simpa using h
    rw [decide_eq_false (fun e => h e.1)]
    go_enter Tryd.func44, Tryd.ntmps44
    go_wp2
    go_ret
    exact ⟨rfl, rfl⟩

end Go.Proofs.YtnegndajejhflaaDoor
