/- DayParts of the specification. -/
import Derived.Test.YtekmbpkbnknbeaaDayX
import Derived.Test.YtekmbpkbnknbeaaDayPa
namespace Go.Proofs.Ytekmbpkbnknbeaa
open Go.RowKit

theorem specDayParts_any (w : World) (n : Int) : Calls Try.prog 17 #[.int .i64 n] w fun e w' => e = .returned (.tuple #[.int .i64 (partY n), .int .i64 (partM n), .int .i64 (partD n), .bool (decide (IsDay n))]) ∧ w' = w := by
  have C0 := specIs_any w n
  by_cases h : IsDay n
  · rw [decide_eq_true (show 1 ≤ n ∧ n ≤ 3652059 from h)] at C0
    have C1 := specYear_any w n h.1 h.2
    have C2 := specMonth_any w n h.1 h.2
    have C3 := specDay_any w n h.1 h.2
    rw [decide_eq_true h, show partY n = (moN n : Int) / 12 + 1 from if_pos h, show partM n = (moN n : Int) % 12 + 1 from if_pos h, show partD n = dyN n from if_pos h]
    generalize (moN n : Int) / 12 + 1 = y at *
    generalize (moN n : Int) % 12 + 1 = z at *
    generalize dyN n = a at *
    clear h
    go_enter Try.func17, Try.ntmps17
    go_wp2_with fail
    refine C0.mono ?_
    rintro e w1 ⟨rfl, rfl⟩
    go_wp2_with fail
    refine C1.mono ?_
    rintro e w1 ⟨rfl, rfl⟩
    go_wp2_with fail
    refine C2.mono ?_
    rintro e w1 ⟨rfl, rfl⟩
    go_wp2_with fail
    refine C3.mono ?_
    rintro e w1 ⟨rfl, rfl⟩
    go_wp2
    (try simp only [Exit.inBlock, Exit.then])
    refine bodyPost_ret (results_tmp4 rfl _ _ _) rfl ?_
    exact ⟨rfl, rfl⟩
  · rw [decide_eq_false (show ¬ (1 ≤ n ∧ n ≤ 3652059) from h)] at C0
    rw [decide_eq_false h, show partY n = 0 from if_neg h, show partM n = 0 from if_neg h, show partD n = 0 from if_neg h]
    clear h
    go_enter Try.func17, Try.ntmps17
    go_wp2_with fail
    refine C0.mono ?_
    rintro e w1 ⟨rfl, rfl⟩
    go_wp2
    (try simp only [Exit.inBlock, Exit.then])
    refine bodyPost_ret (results_tmp4 rfl _ _ _) rfl ?_
    exact ⟨rfl, rfl⟩

end Go.Proofs.Ytekmbpkbnknbeaa
