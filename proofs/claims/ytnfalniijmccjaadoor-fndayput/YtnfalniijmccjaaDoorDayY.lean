/- DayOf of the program and of the specification, by contracts. -/
import Derived.Test.YtnfalniijmccjaaDoorDayJ
import Derived.Test.YtnfalniijmccjaaDoorDayXa
namespace Go.Proofs.YtnfalniijmccjaaDoor
open Go.RowKit


theorem monthOf_in (w : World) {y m : Int} (h : YM y m) : Calls Tryd.prog 76 #[.int .i64 y, .int .i64 m] w fun e w' => e = .returned (.tuple #[.int .i64 (moOf y m : Nat), .bool true]) ∧ w' = w := by
  have C := monthOf_any w y m
  rw [if_pos (show 1 ≤ y ∧ y ≤ 9999 ∧ 1 ≤ m ∧ m ≤ 12 from h), decide_eq_true (show 1 ≤ y ∧ y ≤ 9999 ∧ 1 ≤ m ∧ m ≤ 12 from h), ← moOf_cast h] at C
  exact C

theorem monthOf_out (w : World) {y m : Int} (h : ¬ YM y m) : Calls Tryd.prog 76 #[.int .i64 y, .int .i64 m] w fun e w' => e = .returned (.tuple #[.int .i64 0, .bool false]) ∧ w' = w := by
  have C := monthOf_any w y m
  rw [if_neg (show ¬ (1 ≤ y ∧ y ≤ 9999 ∧ 1 ≤ m ∧ m ≤ 12) from h), decide_eq_false (show ¬ (1 ≤ y ∧ y ≤ 9999 ∧ 1 ≤ m ∧ m ≤ 12) from h)] at C
  exact C

theorem implDayLast_any (w : World) (y m : Int) : Calls Tryd.prog 75 #[.int .i64 y, .int .i64 m] w fun e w' => e = .returned (.int .i64 (lastR y m)) ∧ w' = w := by
  by_cases h : YM y m
  · rw [show lastR y m = lastD y m from if_pos h]
    have C1 := monthOf_in w h
    have C2 := last_any w (moOf y m) (by have := moOf_lt h; omega)
    rw [moOf_last h] at C2
    generalize moOf y m = k at *
    generalize lastD y m = z at *
    clear h
    go_enter Tryd.func75, Tryd.ntmps75
    go_wp2_with fail
    refine C1.mono ?_
    rintro e w1 ⟨rfl, rfl⟩
    go_wp2_with fail
    refine C2.mono ?_
    rintro e w1 ⟨rfl, rfl⟩
    go_wp2
    go_ret
    exact ⟨rfl, rfl⟩
  · rw [show lastR y m = 0 from if_neg h]
    have C1 := monthOf_out w h
    clear h
    go_enter Tryd.func75, Tryd.ntmps75
    go_wp2_with fail
    refine C1.mono ?_
    rintro e w1 ⟨rfl, rfl⟩
    go_wp2
    go_ret
    exact ⟨rfl, rfl⟩

theorem implDayOf_any (w : World) (y m d : Int) : Calls Tryd.prog 40 #[.int .i64 y, .int .i64 m, .int .i64 d] w fun e w' => e = .returned (.int .i64 (dayR y m d)) ∧ w' = w := by
  have C1 := implDayLast_any w y m
  by_cases h0 : d < 1
  · rw [show dayR y m d = 0 from if_neg (fun h => by have := h.2.1; omega)]
    have h0' : decide (d < 1) = true := by simpa using h0
    go_enter Tryd.func40, Tryd.ntmps40
    (try (go_wp2_with fail))
    (try (refine C1.mono ?_))
    (try (rintro e w1 ⟨rfl, rfl⟩))
    go_wp2
    go_ret
    exact ⟨rfl, rfl⟩
  · have h0' : decide (d < 1) = false := by simpa using h0
    by_cases h1 : lastR y m < d
    · rw [show dayR y m d = 0 from if_neg (fun h => by unfold lastR at h1; rw [if_pos h.1] at h1; have := h.2.2; omega)]
      have h1' : decide (lastR y m < d) = true := by simpa using h1
      generalize lastR y m = z at *
      go_enter Tryd.func40, Tryd.ntmps40
      go_wp2_with fail
      refine C1.mono ?_
      rintro e w1 ⟨rfl, rfl⟩
      go_wp2
      go_ret
      exact ⟨rfl, rfl⟩
    · have h1' : decide (lastR y m < d) = false := by simpa using h1
      have h : YM y m := Classical.byContradiction fun h => by unfold lastR at h1; rw [if_neg h] at h1; omega
      have hl : d ≤ lastD y m := by unfold lastR at h1; rw [if_pos h] at h1; omega
      rw [show dayR y m d = ahead (moOf y m) + d from if_pos ⟨h, by omega, hl⟩]
      have hb := lastD_bounds y m
      have C2 := monthOf_in w h
      have C3 := day_any w (moOf y m) d (by have := moOf_lt h; omega) (by omega) (by omega)
      unfold dayIn at C3
      rw [moOf_last h, Int.min_eq_left hl] at C3
      generalize lastR y m = z at *
      generalize ahead (moOf y m) + d = r at *
      generalize moOf y m = k at *
      clear h hl hb
      go_enter Tryd.func40, Tryd.ntmps40
      go_wp2_with fail
      refine C1.mono ?_
      rintro e w1 ⟨rfl, rfl⟩
      go_wp2_with fail
      refine C2.mono ?_
      rintro e w1 ⟨rfl, rfl⟩
      go_wp2_with fail
      refine C3.mono ?_
      rintro e w1 ⟨rfl, rfl⟩
      go_wp2
      go_ret
      exact ⟨rfl, rfl⟩

theorem specDayOf_any (w : World) (y m d : Int) : Calls Tryd.prog 80 #[.int .i64 y, .int .i64 m, .int .i64 d] w fun e w' => e = .returned (.int .i64 (dayR y m d)) ∧ w' = w := by
  have C1 := in_any w y 1 9999
  have C2 := in_any w m 1 12
  by_cases h1 : 1 ≤ y ∧ y ≤ 9999
  · rw [decide_eq_true h1] at C1
    by_cases h2 : 1 ≤ m ∧ m ≤ 12
    · rw [decide_eq_true h2] at C2
      have h : YM y m := ⟨h1.1, h1.2, h2.1, h2.2⟩
      have C3 := specLast_any w y m (by omega) h2.1 h2.2
      by_cases h3 : d < 1
      · rw [show dayR y m d = 0 from if_neg (fun h => by have := h.2.1; omega)]
        have h3' : decide (d < 1) = true := by simpa using h3
        clear h h1 h2
        go_enter Tryd.func80, Tryd.ntmps80
        go_wp2_with fail
        refine C1.mono ?_
        rintro e w1 ⟨rfl, rfl⟩
        go_wp2_with fail
        refine C2.mono ?_
        rintro e w1 ⟨rfl, rfl⟩
        go_wp2
        go_ret
        exact ⟨rfl, rfl⟩
      · have h3' : decide (d < 1) = false := by simpa using h3
        by_cases h4 : lastD y m < d
        · rw [show dayR y m d = 0 from if_neg (fun h => by have := h.2.2; omega)]
          have h4' : decide (lastD y m < d) = true := by simpa using h4
          generalize lastD y m = z at *
          clear h h1 h2
          go_enter Tryd.func80, Tryd.ntmps80
          go_wp2_with fail
          refine C1.mono ?_
          rintro e w1 ⟨rfl, rfl⟩
          go_wp2_with fail
          refine C2.mono ?_
          rintro e w1 ⟨rfl, rfl⟩
          go_wp2_with fail
          refine C3.mono ?_
          rintro e w1 ⟨rfl, rfl⟩
          go_wp2
          go_ret
          exact ⟨rfl, rfl⟩
        · have h4' : decide (lastD y m < d) = false := by simpa using h4
          rw [show dayR y m d = ahead (moOf y m) + d from if_pos ⟨h, by omega, by omega⟩]
          have hk := moOf_lt h
          have hc := moOf_cast h
          have hb := lastD_bounds y m
          have C4 := specOf_any w (moOf y m) y m d (by omega) (by omega) (by omega) (by omega) (by omega)
          generalize lastD y m = z at *
          generalize ahead (moOf y m) + d = r at *
          clear h h1 h2 hk hc hb
          go_enter Tryd.func80, Tryd.ntmps80
          go_wp2_with fail
          refine C1.mono ?_
          rintro e w1 ⟨rfl, rfl⟩
          go_wp2_with fail
          refine C2.mono ?_
          rintro e w1 ⟨rfl, rfl⟩
          go_wp2_with fail
          refine C3.mono ?_
          rintro e w1 ⟨rfl, rfl⟩
          go_wp2_with fail
          refine C4.mono ?_
          rintro e w1 ⟨rfl, rfl⟩
          go_wp2
          go_ret
          exact ⟨rfl, rfl⟩
    · rw [decide_eq_false h2] at C2
      rw [show dayR y m d = 0 from if_neg (fun h => h2 ⟨h.1.2.2.1, h.1.2.2.2⟩)]
      clear h1 h2
      go_enter Tryd.func80, Tryd.ntmps80
      go_wp2_with fail
      refine C1.mono ?_
      rintro e w1 ⟨rfl, rfl⟩
      go_wp2_with fail
      refine C2.mono ?_
      rintro e w1 ⟨rfl, rfl⟩
      go_wp2
      go_ret
      exact ⟨rfl, rfl⟩
  · rw [decide_eq_false h1] at C1
    rw [show dayR y m d = 0 from if_neg (fun h => h1 ⟨h.1.1, h.1.2.1⟩)]
    clear h1
    go_enter Tryd.func80, Tryd.ntmps80
    go_wp2_with fail
    refine C1.mono ?_
    rintro e w1 ⟨rfl, rfl⟩
    go_wp2
    go_ret
    exact ⟨rfl, rfl⟩

end Go.Proofs.YtnfalniijmccjaaDoor
