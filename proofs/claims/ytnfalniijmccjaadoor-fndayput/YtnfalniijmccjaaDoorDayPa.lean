/- DayParts of the program. -/
import Derived.Test.YtnfalniijmccjaaDoorDayXa
namespace Go.Proofs.YtnfalniijmccjaaDoor
open Go.RowKit


theorem results_tmp4 {fn : Func} {t u v x : Tmp} (h : fn.results = #[.tmp t, .tmp u, .tmp v, .tmp x]) (tmps : Array Value) (P : Program) (w : World) :
    (results fn tmps).run P w = .ok (.tuple #[tmps.getD t undef, tmps.getD u undef, tmps.getD v undef, tmps.getD x undef]) w := by
  simp [results, h]

theorem implDayParts_any (w : World) (n : Int) : Calls Tryd.prog 36 #[.int .i64 n] w fun e w' => e = .returned (.tuple #[.int .i64 (partY n), .int .i64 (partM n), .int .i64 (partD n), .bool (decide (IsDay n))]) ∧ w' = w := by
  have C0 := dayOk_any w n
  by_cases h : IsDay n
  · rw [decide_eq_true (show 1 ≤ n ∧ n ≤ 3652059 from h)] at C0
    have hlt := moN_lt h.1 h.2
    have C1 := monthAt_any w n h.1 h.2
    have C2 := year_any w (moN n) (by omega)
    have C3 := inYear_any w (moN n) (by omega)
    have C4 := ahead_any w (moN n) (by omega)
    rw [decide_eq_true h, show partY n = (moN n : Int) / 12 + 1 from if_pos h, show partM n = (moN n : Int) % 12 + 1 from if_pos h, show partD n = n - ahead (moN n) from if_pos h]
    have ha := moN_ahead h.1 h.2
    have h0 := ahead_nonneg (moN n)
    have hn := h.2
    generalize (moN n : Int) / 12 + 1 = y at *
    generalize (moN n : Int) % 12 + 1 = z at *
    generalize ahead (moN n) = a at *
    generalize moN n = k at *
    clear h
    go_enter Tryd.func36, Tryd.ntmps36
    go_wp2_with fail
    refine C0.mono ?_
    rintro e w1 ⟨rfl, rfl⟩
    go_wp2_with fail
    refine C1.mono ?_
    rintro e w1 ⟨rfl, rfl⟩
    go_wp2_with fail
    refine C2.mono ?_
    rintro e w1 ⟨rfl, rfl⟩
    go_wp2_with fail
    refine C3.mono ?_
    rintro e w1 ⟨rfl, rfl⟩
    go_wp2_with fail
    refine C4.mono ?_
    rintro e w1 ⟨rfl, rfl⟩
    go_wp2
    (try simp only [Exit.inBlock, Exit.then])
    refine bodyPost_ret (results_tmp4 rfl _ _ _) rfl ?_
    exact ⟨rfl, rfl⟩
  · rw [decide_eq_false (show ¬ (1 ≤ n ∧ n ≤ 3652059) from h)] at C0
    rw [decide_eq_false h, show partY n = 0 from if_neg h, show partM n = 0 from if_neg h, show partD n = 0 from if_neg h]
    clear h
    go_enter Tryd.func36, Tryd.ntmps36
    go_wp2_with fail
    refine C0.mono ?_
    rintro e w1 ⟨rfl, rfl⟩
    go_wp2
    (try simp only [Exit.inBlock, Exit.then])
    refine bodyPost_ret (results_tmp4 rfl _ _ _) rfl ?_
    exact ⟨rfl, rfl⟩

end Go.Proofs.YtnfalniijmccjaaDoor
