/- SpanOk of the program and of the specification. Each contract says which blocks its call lays. -/
import Derived.Test.YtnegndajejhflaaDoorProg
import Derived.WalkKit
import Derived.WalkSmall
import Derived.WalkLawsBesides
import Derived.Below
import Derived.Deep.QuietTactic
import Derived.BigQuiet
namespace Go.Proofs.YtnegndajejhflaaDoor
open Go.RowKit

theorem inK_any (w : World) (n a b : Int) : Calls Tryd.prog 34 #[.int .i64 n, .int .i64 a, .int .i64 b] w fun e w' => e = .returned (.bool (decide (a ≤ n ∧ n ≤ b))) ∧ w' = w := by
  by_cases h : a ≤ n
  · have h' : decide (a ≤ n) = true := by simpa using h
    by_cases k : n ≤ b
    · rw [show decide (a ≤ n ∧ n ≤ b) = true by simp [h, k]]
      go_enter Tryd.func34, Tryd.ntmps34
      go_wp2
      go_ret
      exact ⟨rfl, rfl⟩
    · rw [show decide (a ≤ n ∧ n ≤ b) = false by simp; omega]
      have k' : decide (n ≤ b) = false := by simp; omega
      go_enter Tryd.func34, Tryd.ntmps34
      go_wp2
      go_ret
      exact ⟨rfl, rfl⟩
  · have h' : decide (a ≤ n) = false := by simpa using h
    rw [show decide (a ≤ n ∧ n ≤ b) = false by simp; omega]
    go_enter Tryd.func34, Tryd.ntmps34
    go_wp2
    go_ret
    exact ⟨rfl, rfl⟩

/-- A span is ok. -/
@[reducible] def SpanIs (m d : Int) : Prop := (-120000 ≤ m ∧ m ≤ 120000) ∧ -4000000 ≤ d ∧ d ≤ 4000000

theorem implSpanOk_any (w : World) (m d : Int) : Calls Tryd.prog 113 #[.agg #[.int .i64 m, .int .i64 d]] w fun e w' => e = .returned (.bool (decide (SpanIs m d))) ∧ w' = w.alloc (.cells #[.int .i64 m, .int .i64 d] 38) := by
  by_cases h1 : -120000 ≤ m
  · have t1 : decide (-120000 ≤ m) = true := by simpa using h1
    by_cases h2 : m ≤ 120000
    · have t2 : decide (m ≤ 120000) = true := by simpa using h2
      by_cases h3 : -4000000 ≤ d
      · have t3 : decide (-4000000 ≤ d) = true := by simpa using h3
        by_cases h4 : d ≤ 4000000
        · have t4 : decide (d ≤ 4000000) = true := by simpa using h4
          rw [decide_eq_true (show SpanIs m d from ⟨⟨h1, h2⟩, h3, h4⟩)]
          go_enter Tryd.func113, Tryd.ntmps113
          go_wp2
          go_ret
          exact ⟨rfl, rfl⟩
        · have t4 : decide (d ≤ 4000000) = false := by simpa using h4
          rw [decide_eq_false (show ¬ SpanIs m d from fun h => h4 h.2.2)]
          go_enter Tryd.func113, Tryd.ntmps113
          go_wp2
          go_ret
          exact ⟨rfl, rfl⟩
      · have t3 : decide (-4000000 ≤ d) = false := by simpa using h3
        rw [decide_eq_false (show ¬ SpanIs m d from fun h => h3 h.2.1)]
        go_enter Tryd.func113, Tryd.ntmps113
        go_wp2
        go_ret
        exact ⟨rfl, rfl⟩
    · have t2 : decide (m ≤ 120000) = false := by simpa using h2
      rw [decide_eq_false (show ¬ SpanIs m d from fun h => h2 h.1.2)]
      go_enter Tryd.func113, Tryd.ntmps113
      go_wp2
      go_ret
      exact ⟨rfl, rfl⟩
  · have t1 : decide (-120000 ≤ m) = false := by simpa using h1
    rw [decide_eq_false (show ¬ SpanIs m d from fun h => h1 h.1.1)]
    go_enter Tryd.func113, Tryd.ntmps113
    go_wp2
    go_ret
    exact ⟨rfl, rfl⟩

theorem specL3SpanOk_any (w : World) (m d : Int) : Calls Tryd.prog 38 #[.agg #[.int .i64 m, .int .i64 d]] w fun e w' => e = .returned (.bool (decide (SpanIs m d))) ∧ w' = w.alloc (.cells #[.int .i64 m, .int .i64 d] 38) := by
  have C1 := fun W => inK_any W m (-120000) 120000
  have C2 := fun W => inK_any W d (-4000000) 4000000
  by_cases h1 : -120000 ≤ m ∧ m ≤ 120000
  · rw [decide_eq_true h1] at C1
    by_cases h2 : -4000000 ≤ d ∧ d ≤ 4000000
    · rw [decide_eq_true h2] at C2
      rw [decide_eq_true (show SpanIs m d from ⟨h1, h2⟩)]
      clear h1 h2
      go_enter Tryd.func38, Tryd.ntmps38
      go_wp2_with fail
      refine (C1 _).mono ?_
      rintro e w1 ⟨rfl, rfl⟩
      go_wp2_with fail
      refine (C2 _).mono ?_
      rintro e w2 ⟨rfl, rfl⟩
      go_wp2
      go_ret
      exact ⟨rfl, rfl⟩
    · rw [decide_eq_false h2] at C2
      rw [decide_eq_false (show ¬ SpanIs m d from fun h => h2 h.2)]
      clear h1 h2
      go_enter Tryd.func38, Tryd.ntmps38
      go_wp2_with fail
      refine (C1 _).mono ?_
      rintro e w1 ⟨rfl, rfl⟩
      go_wp2_with fail
      refine (C2 _).mono ?_
      rintro e w2 ⟨rfl, rfl⟩
      go_wp2
      go_ret
      exact ⟨rfl, rfl⟩
  · rw [decide_eq_false h1] at C1
    rw [decide_eq_false (show ¬ SpanIs m d from fun h => h1 h.1)]
    clear h1
    go_enter Tryd.func38, Tryd.ntmps38
    go_wp2_with fail
    refine (C1 _).mono ?_
    rintro e w1 ⟨rfl, rfl⟩
    go_wp2
    go_ret
    exact ⟨rfl, rfl⟩

end Go.Proofs.YtnegndajejhflaaDoor
