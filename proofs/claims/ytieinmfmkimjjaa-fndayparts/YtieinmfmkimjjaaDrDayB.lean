/- Draws of days: DrawDayParts, DrawDayWeek, DrawDayOf, DrawDayLast, DrawDayUntil. -/
import Derived.Test.YtieinmfmkimjjaaDrDay
namespace Go.Proofs.Ytieinmfmkimjjaa
open Go.RowKit

theorem drawDayParts_any (w : World) (v : Value) (h : Byt w v) : Calls Try.prog 11 #[v] w fun e w' => ∃ x : Int, e = .returned (.int .i64 x) ∧ Below w.heap.size w w' := by
  have C0 := hide (l1Open_any w v h)
  go_enter Try.func11, Try.ntmps11
  go_wp2_with fail
  refine (unhide C0).mono ?_
  rintro e w1 ⟨rfl, r1, b1, z1⟩
  clear C0
  go_wp2_with fail
  refine (l14AnyDay_any _ _ _ r1 (by omega)).mono ?_
  rintro e w2 ⟨x, q, rfl, r2, _, g2⟩
  go_wp2
  go_ret
  exact ⟨x, rfl, grown_below_trans b1 (Nat.le_refl _) g2⟩

theorem drawDayWeek_any (w : World) (v : Value) (h : Byt w v) : Calls Try.prog 18 #[v] w fun e w' => ∃ x : Int, e = .returned (.int .i64 x) ∧ Below w.heap.size w w' := by
  have C0 := hide (l1Open_any w v h)
  go_enter Try.func18, Try.ntmps18
  go_wp2_with fail
  refine (unhide C0).mono ?_
  rintro e w1 ⟨rfl, r1, b1, z1⟩
  clear C0
  go_wp2_with fail
  refine (l14AnyDay_any _ _ _ r1 (by omega)).mono ?_
  rintro e w2 ⟨x, q, rfl, r2, _, g2⟩
  go_wp2
  go_ret
  exact ⟨x, rfl, grown_below_trans b1 (Nat.le_refl _) g2⟩

theorem drawDayOf_any (w : World) (v : Value) (h : Byt w v) : Calls Try.prog 15 #[v] w fun e w' => ∃ y m d : Int, e = .returned (.tuple #[.int .i64 y, .int .i64 m, .int .i64 d]) ∧ Below w.heap.size w w' := by
  have C0 := hide (l1Open_any w v h)
  go_enter Try.func15, Try.ntmps15
  go_wp2_with fail
  refine (unhide C0).mono ?_
  rintro e w1 ⟨rfl, r1, b1, z1⟩
  clear C0
  go_wp2_with fail
  refine (pick_any _ _ _ 250 r1 (by omega) (by omega) (by omega)).mono ?_
  rintro e w2 ⟨x2, rfl, hx2, r2, g2⟩
  go_wp2_with fail
  refine (one_lit _ _ _ [1, 4, 100, 400, 1900, 2000, 2023, 2024, 9999, 0, 10000, 1 + (x2 : Int) * 40] _ rfl r2 (by omega) (by simp) (by simp)).mono ?_
  rintro e w3 ⟨x3, rfl, hx3, r3, g3⟩
  go_wp2_with fail
  refine (pick_any _ _ _ 14 r3 (by omega) (by omega) (by omega)).mono ?_
  rintro e w4 ⟨x4, rfl, hx4, r4, g4⟩
  go_wp2_with fail
  refine (pick_any _ _ _ 32 r4 (by omega) (by omega) (by omega)).mono ?_
  rintro e w5 ⟨x5, rfl, hx5, r5, g5⟩
  go_wp2_with fail
  refine (one_lit _ _ _ [0, 1, 28, 29, 30, 31, 32, (x5 : Int)] _ rfl r5 (by omega) (by simp) (by simp)).mono ?_
  rintro e w6 ⟨x6, rfl, hx6, r6, g6⟩
  go_wp2
  go_ret3
  exact ⟨_, _, _, rfl, grown_below_trans b1 (Nat.le_refl _) (grown_trans (grown_trans (grown_trans (grown_trans g2 g3) g4) g5) g6)⟩

theorem drawDayLast_any (w : World) (v : Value) (h : Byt w v) : Calls Try.prog 21 #[v] w fun e w' => ∃ y m : Int, e = .returned (.tuple #[.int .i64 y, .int .i64 m]) ∧ Below w.heap.size w w' := by
  have C0 := hide (drawDayOf_any w v h)
  go_enter Try.func21, Try.ntmps21
  go_wp2_with fail
  refine (unhide C0).mono ?_
  rintro e w1 ⟨y, m, d, rfl, b1⟩
  go_wp2
  go_ret2
  exact ⟨y, m, rfl, b1⟩

theorem drawDayUntil_any (w : World) (v : Value) (h : Byt w v) : Calls Try.prog 26 #[v] w fun e w' => ∃ a b : Int, e = .returned (.tuple #[.int .i64 a, .int .i64 b]) ∧ Below w.heap.size w w' := by
  have C0 := hide (l1Open_any w v h)
  go_enter Try.func26, Try.ntmps26
  go_wp2_with fail
  refine (unhide C0).mono ?_
  rintro e w1 ⟨rfl, r1, b1, z1⟩
  clear C0
  go_wp2_with fail
  refine (l14AnyDay_any _ _ _ r1 (by omega)).mono ?_
  rintro e w2 ⟨a, q, rfl, r2, hq, g2⟩
  go_wp2_with fail
  refine (l14AnyDay_any _ _ _ r2 (by omega)).mono ?_
  rintro e w3 ⟨b, q', rfl, r3, hq', g3⟩
  by_cases hab : b < a
  · have t : decide (b < a) = true := by simpa using hab
    go_wp2_with fail
    refine (pick_any _ _ _ 6 r3 (by omega) (by omega) (by omega)).mono ?_
    rintro e w4 ⟨x, rfl, hx, r4, g4⟩
    by_cases h0 : (0 : Int) < x
    · have t0 : decide ((0 : Int) < x) = true := by simpa using h0
      go_wp2
      go_ret2
      exact ⟨b, a, rfl, grown_below_trans b1 (Nat.le_refl _) (grown_trans (grown_trans g2 g3) g4)⟩
    · have t0 : decide ((0 : Int) < x) = false := by simpa using h0
      go_wp2
      go_ret2
      exact ⟨a, b, rfl, grown_below_trans b1 (Nat.le_refl _) (grown_trans (grown_trans g2 g3) g4)⟩
  · have t : decide (b < a) = false := by simpa using hab
    go_wp2
    go_ret2
    exact ⟨a, b, rfl, grown_below_trans b1 (Nat.le_refl _) (grown_trans g2 g3)⟩

end Go.Proofs.Ytieinmfmkimjjaa
