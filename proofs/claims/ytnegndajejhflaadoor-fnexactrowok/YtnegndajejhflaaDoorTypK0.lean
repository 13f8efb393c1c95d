/- Types that are ok, by contracts. -/
import Derived.Test.YtnegndajejhflaaDoorScK
namespace Go.Proofs.YtnegndajejhflaaDoor
open Go.RowKit


/-- A type is ok. -/
@[reducible] def TypeIs (k d s : Int) : Prop := if k = 2 then (1 ≤ d ∧ d ≤ 30) ∧ (0 ≤ s ∧ s ≤ 12) ∧ s ≤ d else (1 ≤ k ∧ k ≤ 5) ∧ d = 0 ∧ s = 0

theorem inT_any (w : World) (n a b : Int) : Calls Tryd.prog 34 #[.int .i64 n, .int .i64 a, .int .i64 b] w fun e w' => e = .returned (.bool (decide (a ≤ n ∧ n ≤ b))) ∧ w' = w := by
  by_cases h : a ≤ n
  · have h' : decide (a ≤ n) = true := by simpa using h
    by_cases k : n ≤ b
    · rw [show decide (a ≤ n ∧ n ≤ b) = true by simp [h, k]]
      go_enter Tryd.func34, Tryd.ntmps34
      go_wp2
      go_ret
      exact ⟨rfl, rfl⟩
    · rw [show decide (a ≤ n ∧ n ≤ b) = false by simp; omega]
      have k' : decide (n ≤ b) = false := by simp; omega
      go_enter Tryd.func34, Tryd.ntmps34
      go_wp2
      go_ret
      exact ⟨rfl, rfl⟩
  · have h' : decide (a ≤ n) = false := by simpa using h
    rw [show decide (a ≤ n ∧ n ≤ b) = false by simp; omega]
    go_enter Tryd.func34, Tryd.ntmps34
    go_wp2
    go_ret
    exact ⟨rfl, rfl⟩

theorem implTypeOk_any (w : World) (k d s : Int) : Calls Tryd.prog 26 #[.agg #[.int .i64 k, .int .i64 d, .int .i64 s]] w fun e w' => e = .returned (.bool (decide (TypeIs k d s))) ∧ w' = w.alloc (.cells #[.int .i64 k, .int .i64 d, .int .i64 s] 42) := by
  have CS := fun W => scaleOk_any W s
  by_cases hk : k = 2
  · subst hk
    by_cases g0 : 1 ≤ d
    · have t0 : decide (1 ≤ d) = true := by simpa using g0
      by_cases g1 : d ≤ 30
      · have t1 : decide (d ≤ 30) = true := by simpa using g1
        by_cases g2 : 0 ≤ s ∧ s ≤ 12
        · rw [decide_eq_true g2] at CS
          by_cases g3 : s ≤ d
          · have t3 : decide (s ≤ d) = true := by simpa using g3
            rw [decide_eq_true (show TypeIs _ _ _ from by unfold TypeIs; rw [if_pos rfl]; exact ⟨⟨g0, g1⟩, g2, g3⟩)]
            go_enter Tryd.func26, Tryd.ntmps26
            go_wp2_with fail
            refine (CS _).mono ?_
            rintro e w1 ⟨rfl, rfl⟩
            go_wp2
            go_ret
            exact ⟨rfl, rfl⟩
          · have t3 : decide (s ≤ d) = false := by simpa using g3
            rw [decide_eq_false (show ¬ TypeIs _ _ _ from by unfold TypeIs; rw [if_pos rfl]; exact fun e => g3 e.2.2)]
            go_enter Tryd.func26, Tryd.ntmps26
            go_wp2_with fail
            refine (CS _).mono ?_
            rintro e w1 ⟨rfl, rfl⟩
            go_wp2
            go_ret
            exact ⟨rfl, rfl⟩
        · rw [decide_eq_false g2] at CS
          rw [decide_eq_false (show ¬ TypeIs _ _ _ from by unfold TypeIs; rw [if_pos rfl]; exact fun e => g2 e.2.1)]
          go_enter Tryd.func26, Tryd.ntmps26
          go_wp2_with fail
          refine (CS _).mono ?_
          rintro e w1 ⟨rfl, rfl⟩
          go_wp2
          go_ret
          exact ⟨rfl, rfl⟩
      · have t1 : decide (d ≤ 30) = false := by simpa using g1
        rw [decide_eq_false (show ¬ TypeIs _ _ _ from by unfold TypeIs; rw [if_pos rfl]; exact fun e => g1 e.1.2)]
        go_enter Tryd.func26, Tryd.ntmps26
        go_wp2
        go_ret
        exact ⟨rfl, rfl⟩
    · have t0 : decide (1 ≤ d) = false := by simpa using g0
      rw [decide_eq_false (show ¬ TypeIs _ _ _ from by unfold TypeIs; rw [if_pos rfl]; exact fun e => g0 e.1.1)]
      go_enter Tryd.func26, Tryd.ntmps26
      go_wp2
      go_ret
      exact ⟨rfl, rfl⟩
  · have tk : (k == 2) = false := by simpa using hk
    by_cases g0 : 0 < k
    · have t0 : decide (0 < k) = true := by simpa using g0
      by_cases g1 : k ≤ 5
      · have t1 : decide (k ≤ 5) = true := by simpa using g1
        by_cases g2 : d = 0
        · subst g2
          by_cases g3 : s = 0
          · subst g3
            rw [decide_eq_true (show TypeIs _ _ _ from by unfold TypeIs; rw [if_neg hk]; exact ⟨⟨by omega, g1⟩, rfl, rfl⟩)]
            go_enter Tryd.func26, Tryd.ntmps26
            go_wp2
            go_ret
            exact ⟨rfl, rfl⟩
          · have t3 : (s == 0) = false := by simpa using g3
            rw [decide_eq_false (show ¬ TypeIs _ _ _ from by unfold TypeIs; rw [if_neg hk]; exact fun e => g3 e.2.2)]
            go_enter Tryd.func26, Tryd.ntmps26
            go_wp2
            go_ret
            exact ⟨rfl, rfl⟩
        · have t2 : (d == 0) = false := by simpa using g2
          rw [decide_eq_false (show ¬ TypeIs _ _ _ from by unfold TypeIs; rw [if_neg hk]; exact fun e => g2 e.2.1)]
          go_enter Tryd.func26, Tryd.ntmps26
          go_wp2
          go_ret
          exact ⟨rfl, rfl⟩
      · have t1 : decide (k ≤ 5) = false := by simpa using g1
        rw [decide_eq_false (show ¬ TypeIs _ _ _ from by unfold TypeIs; rw [if_neg hk]; exact fun e => g1 e.1.2)]
        go_enter Tryd.func26, Tryd.ntmps26
        go_wp2
        go_ret
        exact ⟨rfl, rfl⟩
    · have t0 : decide (0 < k) = false := by simpa using g0
      rw [decide_eq_false (show ¬ TypeIs _ _ _ from by unfold TypeIs; rw [if_neg hk]; exact fun e => g0 (by have := e.1.1; omega))]
      go_enter Tryd.func26, Tryd.ntmps26
      go_wp2
      go_ret
      exact ⟨rfl, rfl⟩

theorem specL4TypeOk_any (w : World) (k d s : Int) : Calls Tryd.prog 21 #[.agg #[.int .i64 k, .int .i64 d, .int .i64 s]] w fun e w' => e = .returned (.bool (decide (TypeIs k d s))) ∧ w' = w.alloc (.cells #[.int .i64 k, .int .i64 d, .int .i64 s] 42) := by
  have CD := fun W => inT_any W d 1 30
  have CS := fun W => inT_any W s 0 12
  have CK := fun W => inT_any W k 1 5
  by_cases hk : k = 2
  · subst hk
    by_cases g0 : 1 ≤ d ∧ d ≤ 30
    · rw [decide_eq_true g0] at CD
      by_cases g1 : 0 ≤ s ∧ s ≤ 12
      · rw [decide_eq_true g1] at CS
        by_cases g2 : s ≤ d
        · have t2 : decide (s ≤ d) = true := by simpa using g2
          rw [decide_eq_true (show TypeIs _ _ _ from by unfold TypeIs; rw [if_pos rfl]; exact ⟨g0, g1, g2⟩)]
          go_enter Tryd.func21, Tryd.ntmps21
          go_wp2_with fail
          refine (CD _).mono ?_
          rintro e w1 ⟨rfl, rfl⟩
          go_wp2_with fail
          refine (CS _).mono ?_
          rintro e w1 ⟨rfl, rfl⟩
          go_wp2
          go_ret
          exact ⟨rfl, rfl⟩
        · have t2 : decide (s ≤ d) = false := by simpa using g2
          rw [decide_eq_false (show ¬ TypeIs _ _ _ from by unfold TypeIs; rw [if_pos rfl]; exact fun e => g2 e.2.2)]
          go_enter Tryd.func21, Tryd.ntmps21
          go_wp2_with fail
          refine (CD _).mono ?_
          rintro e w1 ⟨rfl, rfl⟩
          go_wp2_with fail
          refine (CS _).mono ?_
          rintro e w1 ⟨rfl, rfl⟩
          go_wp2
          go_ret
          exact ⟨rfl, rfl⟩
      · rw [decide_eq_false g1] at CS
        rw [decide_eq_false (show ¬ TypeIs _ _ _ from by unfold TypeIs; rw [if_pos rfl]; exact fun e => g1 e.2.1)]
        go_enter Tryd.func21, Tryd.ntmps21
        go_wp2_with fail
        refine (CD _).mono ?_
        rintro e w1 ⟨rfl, rfl⟩
        go_wp2_with fail
        refine (CS _).mono ?_
        rintro e w1 ⟨rfl, rfl⟩
        go_wp2
        go_ret
        exact ⟨rfl, rfl⟩
    · rw [decide_eq_false g0] at CD
      rw [decide_eq_false (show ¬ TypeIs _ _ _ from by unfold TypeIs; rw [if_pos rfl]; exact fun e => g0 e.1)]
      go_enter Tryd.func21, Tryd.ntmps21
      go_wp2_with fail
      refine (CD _).mono ?_
      rintro e w1 ⟨rfl, rfl⟩
      go_wp2
      go_ret
      exact ⟨rfl, rfl⟩
  · have tk : (k == 2) = false := by simpa using hk
    by_cases g0 : 1 ≤ k ∧ k ≤ 5
    · rw [decide_eq_true g0] at CK
      by_cases g1 : d = 0
      · subst g1
        by_cases g2 : s = 0
        · subst g2
          rw [decide_eq_true (show TypeIs _ _ _ from by unfold TypeIs; rw [if_neg hk]; exact ⟨g0, rfl, rfl⟩)]
          go_enter Tryd.func21, Tryd.ntmps21
          go_wp2_with fail
          refine (CK _).mono ?_
          rintro e w1 ⟨rfl, rfl⟩
          go_wp2
          go_ret
          exact ⟨rfl, rfl⟩
        · have t2 : (s == 0) = false := by simpa using g2
          rw [decide_eq_false (show ¬ TypeIs _ _ _ from by unfold TypeIs; rw [if_neg hk]; exact fun e => g2 e.2.2)]
          go_enter Tryd.func21, Tryd.ntmps21
          go_wp2_with fail
          refine (CK _).mono ?_
          rintro e w1 ⟨rfl, rfl⟩
          go_wp2
          go_ret
          exact ⟨rfl, rfl⟩
      · have t1 : (d == 0) = false := by simpa using g1
        rw [decide_eq_false (show ¬ TypeIs _ _ _ from by unfold TypeIs; rw [if_neg hk]; exact fun e => g1 e.2.1)]
        go_enter Tryd.func21, Tryd.ntmps21
        go_wp2_with fail
        refine (CK _).mono ?_
        rintro e w1 ⟨rfl, rfl⟩
        go_wp2
        go_ret
        exact ⟨rfl, rfl⟩
    · rw [decide_eq_false g0] at CK
      rw [decide_eq_false (show ¬ TypeIs _ _ _ from by unfold TypeIs; rw [if_neg hk]; exact fun e => g0 e.1)]
      go_enter Tryd.func21, Tryd.ntmps21
      go_wp2_with fail
      refine (CK _).mono ?_
      rintro e w1 ⟨rfl, rfl⟩
      go_wp2
      go_ret
      exact ⟨rfl, rfl⟩

end Go.Proofs.YtnegndajejhflaaDoor
