/- TypeOk of the program and of the specification. -/
import Derived.Test.YtekmbpkbnknbeaaProg
import Derived.WalkKit
import Derived.WalkSmall
import Derived.WalkLawsBesides
import Derived.Below
import Derived.Deep.QuietTactic
import Derived.BigQuiet
namespace Go.Proofs.Ytekmbpkbnknbeaa
open Go.RowKit

/-- A type is ok. -/
@[reducible] def TypeIs (k d s : Int) : Prop := if k = 2 then (1 ≤ d ∧ d ≤ 30) ∧ (0 ≤ s ∧ s ≤ 12) ∧ s ≤ d else (1 ≤ k ∧ k ≤ 5) ∧ d = 0 ∧ s = 0

theorem inT_any (w : World) (n a b : Int) : Calls Try.prog 42 #[.int .i64 n, .int .i64 a, .int .i64 b] w fun e w' => e = .returned (.bool (decide (a ≤ n ∧ n ≤ b))) ∧ w' = w := by
  by_cases h : a ≤ n
  · have h' : decide (a ≤ n) = true := by simpa using h
    by_cases k : n ≤ b
    · rw [show decide (a ≤ n ∧ n ≤ b) = true by simp [h, k]]
      go_enter Try.func42, Try.ntmps42
      go_wp2
      go_ret
      exact ⟨rfl, rfl⟩
    · rw [show decide (a ≤ n ∧ n ≤ b) = false by simp; omega]
      have k' : decide (n ≤ b) = false := by simp; omega
      go_enter Try.func42, Try.ntmps42
      go_wp2
      go_ret
      exact ⟨rfl, rfl⟩
  · have h' : decide (a ≤ n) = false := by simpa using h
    rw [show decide (a ≤ n ∧ n ≤ b) = false by simp; omega]
    go_enter Try.func42, Try.ntmps42
    go_wp2
    go_ret
    exact ⟨rfl, rfl⟩

theorem scaleOk_any (w : World) (s : Int) : Calls Try.prog 61 #[.int .i64 s] w fun e w' => e = .returned (.bool (decide (0 ≤ s ∧ s ≤ 12))) ∧ w' = w := by
  by_cases h : 0 ≤ s
  · have h' : decide (0 ≤ s) = true := by simpa using h
    by_cases k : s ≤ 12
    · rw [decide_eq_true ⟨h, k⟩]
      have k' : decide (s ≤ 12) = true := by simpa using k
      go_enter Try.func61, Try.ntmps61
      go_wp2
      go_ret
      exact ⟨rfl, rfl⟩
    · rw [decide_eq_false (fun e => k e.2)]
      have k' : decide (s ≤ 12) = false := by simpa using k
      go_enter Try.func61, Try.ntmps61
      go_wp2
      go_ret
      exact ⟨rfl, rfl⟩
  · have h' : decide (0 ≤ s) = false := by simpa using h
    rw [decide_eq_false (fun e => h e.1)]
    go_enter Try.func61, Try.ntmps61
    go_wp2
    go_ret
    exact ⟨rfl, rfl⟩

theorem toType_any (w : World) (k d s : Int) : Calls Try.prog 32 #[.agg #[.int .i64 k, .int .i64 d, .int .i64 s]] w fun e w' => e = .returned (.agg #[.int .i64 k, .int .i64 d, .int .i64 s]) ∧
    w' = ((w.alloc (.cells #[.int .i64 k, .int .i64 d, .int .i64 s] 43)).alloc (.cells #[.int .i64 k, .int .i64 d, .int .i64 s] 45)).alloc (.cells #[.int .i64 k, .int .i64 d, .int .i64 s] 45) := by
  go_enter Try.func32, Try.ntmps32
  go_wp2
  refine bodyPost_ret (v := .agg #[.int .i64 k, .int .i64 d, .int .i64 s]) (by simp [results, Try.results32, go_sem]) rfl ⟨rfl, rfl⟩

theorem implTypeOk_any (w : World) (k d s : Int) : Calls Try.prog 33 #[.agg #[.int .i64 k, .int .i64 d, .int .i64 s]] w fun e w' => e = .returned (.bool (decide (TypeIs k d s))) ∧ w' = w.alloc (.cells #[.int .i64 k, .int .i64 d, .int .i64 s] 45) := by
  have CS := fun W => scaleOk_any W s
  by_cases hk : k = 2
  · subst hk
    by_cases g0 : 1 ≤ d
    · have t0 : decide (1 ≤ d) = true := by simpa using g0
      by_cases g1 : d ≤ 30
      · have t1 : decide (d ≤ 30) = true := by simpa using g1
        by_cases g2 : 0 ≤ s ∧ s ≤ 12
        · rw [decide_eq_true g2] at CS
          by_cases g3 : s ≤ d
          · have t3 : decide (s ≤ d) = true := by simpa using g3
            rw [decide_eq_true (show TypeIs _ _ _ from by unfold TypeIs; rw [if_pos rfl]; exact ⟨⟨g0, g1⟩, g2, g3⟩)]
            go_enter Try.func33, Try.ntmps33
            go_wp2_with fail
            refine (CS _).mono ?_
            rintro e w1 ⟨rfl, rfl⟩
            go_wp2
            go_ret
            exact ⟨rfl, rfl⟩
          · have t3 : decide (s ≤ d) = false := by simpa using g3
            rw [decide_eq_false (show ¬ TypeIs _ _ _ from by unfold TypeIs; rw [if_pos rfl]; exact fun e => g3 e.2.2)]
            go_enter Try.func33, Try.ntmps33
            go_wp2_with fail
            refine (CS _).mono ?_
            rintro e w1 ⟨rfl, rfl⟩
            go_wp2
            go_ret
            exact ⟨rfl, rfl⟩
        · rw [decide_eq_false g2] at CS
          rw [decide_eq_false (show ¬ TypeIs _ _ _ from by unfold TypeIs; rw [if_pos rfl]; exact fun e => g2 e.2.1)]
          go_enter Try.func33, Try.ntmps33
          go_wp2_with fail
          refine (CS _).mono ?_
          rintro e w1 ⟨rfl, rfl⟩
          go_wp2
          go_ret
          exact ⟨rfl, rfl⟩
      · have t1 : decide (d ≤ 30) = false := by simpa using g1
        rw [decide_eq_false (show ¬ TypeIs _ _ _ from by unfold TypeIs; rw [if_pos rfl]; exact fun e => g1 e.1.2)]
        go_enter Try.func33, Try.ntmps33
        go_wp2
        go_ret
        exact ⟨rfl, rfl⟩
    · have t0 : decide (1 ≤ d) = false := by simpa using g0
      rw [decide_eq_false (show ¬ TypeIs _ _ _ from by unfold TypeIs; rw [if_pos rfl]; exact fun e => g0 e.1.1)]
      go_enter Try.func33, Try.ntmps33
      go_wp2
      go_ret
      exact ⟨rfl, rfl⟩
  · have tk : (k == 2) = false := by simpa using hk
    by_cases g0 : 0 < k
    · have t0 : decide (0 < k) = true := by simpa using g0
      by_cases g1 : k ≤ 5
      · have t1 : decide (k ≤ 5) = true := by simpa using g1
        by_cases g2 : d = 0
        · subst g2
          by_cases g3 : s = 0
          · subst g3
            rw [decide_eq_true (show TypeIs _ _ _ from by unfold TypeIs; rw [if_neg hk]; exact ⟨⟨by omega, g1⟩, rfl, rfl⟩)]
            go_enter Try.func33, Try.ntmps33
            go_wp2
            go_ret
            exact ⟨rfl, rfl⟩
          · have t3 : (s == 0) = false := by simpa using g3
            rw [decide_eq_false (show ¬ TypeIs _ _ _ from by unfold TypeIs; rw [if_neg hk]; exact fun e => g3 e.2.2)]
            go_enter Try.func33, Try.ntmps33
            go_wp2
            go_ret
            exact ⟨rfl, rfl⟩
        · have t2 : (d == 0) = false := by simpa using g2
          rw [decide_eq_false (show ¬ TypeIs _ _ _ from by unfold TypeIs; rw [if_neg hk]; exact fun e => g2 e.2.1)]
          go_enter Try.func33, Try.ntmps33
          go_wp2
          go_ret
          exact ⟨rfl, rfl⟩
      · have t1 : decide (k ≤ 5) = false := by simpa using g1
        rw [decide_eq_false (show ¬ TypeIs _ _ _ from by unfold TypeIs; rw [if_neg hk]; exact fun e => g1 e.1.2)]
        go_enter Try.func33, Try.ntmps33
        go_wp2
        go_ret
        exact ⟨rfl, rfl⟩
    · have t0 : decide (0 < k) = false := by simpa using g0
      rw [decide_eq_false (show ¬ TypeIs _ _ _ from by unfold TypeIs; rw [if_neg hk]; exact fun e => g0 (by have := e.1.1; omega))]
      go_enter Try.func33, Try.ntmps33
      go_wp2
      go_ret
      exact ⟨rfl, rfl⟩

theorem specL4TypeOk_any (w : World) (k d s : Int) : Calls Try.prog 60 #[.agg #[.int .i64 k, .int .i64 d, .int .i64 s]] w fun e w' => e = .returned (.bool (decide (TypeIs k d s))) ∧ w' = w.alloc (.cells #[.int .i64 k, .int .i64 d, .int .i64 s] 45) := by
  have CD := fun W => inT_any W d 1 30
  have CS := fun W => inT_any W s 0 12
  have CK := fun W => inT_any W k 1 5
  by_cases hk : k = 2
  · subst hk
    by_cases g0 : 1 ≤ d ∧ d ≤ 30
    · rw [decide_eq_true g0] at CD
      by_cases g1 : 0 ≤ s ∧ s ≤ 12
      · rw [decide_eq_true g1] at CS
        by_cases g2 : s ≤ d
        · have t2 : decide (s ≤ d) = true := by simpa using g2
          rw [decide_eq_true (show TypeIs _ _ _ from by unfold TypeIs; rw [if_pos rfl]; exact ⟨g0, g1, g2⟩)]
          go_enter Try.func60, Try.ntmps60
          go_wp2_with fail
          refine (CD _).mono ?_
          rintro e w1 ⟨rfl, rfl⟩
          go_wp2_with fail
          refine (CS _).mono ?_
          rintro e w1 ⟨rfl, rfl⟩
          go_wp2
          go_ret
          exact ⟨rfl, rfl⟩
        · have t2 : decide (s ≤ d) = false := by simpa using g2
          rw [decide_eq_false (show ¬ TypeIs _ _ _ from by unfold TypeIs; rw [if_pos rfl]; exact fun e => g2 e.2.2)]
          go_enter Try.func60, Try.ntmps60
          go_wp2_with fail
          refine (CD _).mono ?_
          rintro e w1 ⟨rfl, rfl⟩
          go_wp2_with fail
          refine (CS _).mono ?_
          rintro e w1 ⟨rfl, rfl⟩
          go_wp2
          go_ret
          exact ⟨rfl, rfl⟩
      · rw [decide_eq_false g1] at CS
        rw [decide_eq_false (show ¬ TypeIs _ _ _ from by unfold TypeIs; rw [if_pos rfl]; exact fun e => g1 e.2.1)]
        go_enter Try.func60, Try.ntmps60
        go_wp2_with fail
        refine (CD _).mono ?_
        rintro e w1 ⟨rfl, rfl⟩
        go_wp2_with fail
        refine (CS _).mono ?_
        rintro e w1 ⟨rfl, rfl⟩
        go_wp2
        go_ret
        exact ⟨rfl, rfl⟩
    · rw [decide_eq_false g0] at CD
      rw [decide_eq_false (show ¬ TypeIs _ _ _ from by unfold TypeIs; rw [if_pos rfl]; exact fun e => g0 e.1)]
      go_enter Try.func60, Try.ntmps60
      go_wp2_with fail
      refine (CD _).mono ?_
      rintro e w1 ⟨rfl, rfl⟩
      go_wp2
      go_ret
      exact ⟨rfl, rfl⟩
  · have tk : (k == 2) = false := by simpa using hk
    by_cases g0 : 1 ≤ k ∧ k ≤ 5
    · rw [decide_eq_true g0] at CK
      by_cases g1 : d = 0
      · subst g1
        by_cases g2 : s = 0
        · subst g2
          rw [decide_eq_true (show TypeIs _ _ _ from by unfold TypeIs; rw [if_neg hk]; exact ⟨g0, rfl, rfl⟩)]
          go_enter Try.func60, Try.ntmps60
          go_wp2_with fail
          refine (CK _).mono ?_
          rintro e w1 ⟨rfl, rfl⟩
          go_wp2
          go_ret
          exact ⟨rfl, rfl⟩
        · have t2 : (s == 0) = false := by simpa using g2
          rw [decide_eq_false (show ¬ TypeIs _ _ _ from by unfold TypeIs; rw [if_neg hk]; exact fun e => g2 e.2.2)]
          go_enter Try.func60, Try.ntmps60
          go_wp2_with fail
          refine (CK _).mono ?_
          rintro e w1 ⟨rfl, rfl⟩
          go_wp2
          go_ret
          exact ⟨rfl, rfl⟩
      · have t1 : (d == 0) = false := by simpa using g1
        rw [decide_eq_false (show ¬ TypeIs _ _ _ from by unfold TypeIs; rw [if_neg hk]; exact fun e => g1 e.2.1)]
        go_enter Try.func60, Try.ntmps60
        go_wp2_with fail
        refine (CK _).mono ?_
        rintro e w1 ⟨rfl, rfl⟩
        go_wp2
        go_ret
        exact ⟨rfl, rfl⟩
    · rw [decide_eq_false g0] at CK
      rw [decide_eq_false (show ¬ TypeIs _ _ _ from by unfold TypeIs; rw [if_neg hk]; exact fun e => g0 e.1)]
      go_enter Try.func60, Try.ntmps60
      go_wp2_with fail
      refine (CK _).mono ?_
      rintro e w1 ⟨rfl, rfl⟩
      go_wp2
      go_ret
      exact ⟨rfl, rfl⟩

theorem specTypeOk_any (w : World) (k d s : Int) : Calls Try.prog 31 #[.agg #[.int .i64 k, .int .i64 d, .int .i64 s]] w fun e w' => e = .returned (.bool (decide (TypeIs k d s))) ∧ w' = (w.alloc (.cells #[.int .i64 k, .int .i64 d, .int .i64 s] 45)).alloc (.cells #[.int .i64 k, .int .i64 d, .int .i64 s] 45) := by
  have C := fun W => specL4TypeOk_any W k d s
  generalize decide (TypeIs k d s) = b at *
  go_enter Try.func31, Try.ntmps31
  go_wp2_with fail
  refine (C _).mono ?_
  rintro e w1 ⟨rfl, rfl⟩
  go_wp2
  go_ret
  exact ⟨rfl, rfl⟩

theorem xTypeOk_walk (w : World) (k d s : Int) :
    Calls Try.prog 10 #[.agg #[.int .i64 k, .int .i64 d, .int .i64 s]] w fun e w' => e = .returned (.bool true) ∧ Below w.heap.size w w' := by
  have C1 := fun W => specTypeOk_any W k d s
  have C2 := fun W => implTypeOk_any W k d s
  have C0 := fun W => toType_any W k d s
  generalize decide (TypeIs k d s) = b at *
  have hb : (!(b == b)) = false := by simp
  go_enter Try.func10, Try.ntmps10
  go_wp2_with fail
  refine (C0 _).mono ?_
  rintro e w1 ⟨rfl, rfl⟩
  go_wp2_with fail
  refine (C1 _).mono ?_
  rintro e w2 ⟨rfl, rfl⟩
  go_wp2_with fail
  refine (C0 _).mono ?_
  rintro e w1 ⟨rfl, rfl⟩
  go_wp2_with fail
  refine (C2 _).mono ?_
  rintro e w2 ⟨rfl, rfl⟩
  go_wp2
  go_ret
  refine ⟨rfl, ?_⟩
  repeat (first | exact Below.refl _ _ | refine Below.alloc ?_ (by first | exact Nat.le_refl _ | (simp only [World.size_alloc]; omega)) _)

end Go.Proofs.Ytekmbpkbnknbeaa
