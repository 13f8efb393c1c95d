/- Drawn days: l14Day, l14AnyDay draw some number. -/
import Derived.Test.YtnfalniijmccjaaDoorRdA
import Derived.Test.YtnfalniijmccjaaDoorDayS
namespace Go.Proofs.YtnfalniijmccjaaDoor
open Go.RowKit

/-- What a call answers that draws a number from the reader at R. -/
def DrawsInt (w : World) (R p k : Nat) (e : Ending) (w' : World) : Prop := ∃ (x : Int) (q : Nat), e = .returned (.int .i64 x) ∧ RD w' R q ∧ q ≤ p + k ∧ w.grownBy w' (some R)

theorem ofDraw (w : World) (y m d : Int) (hy1 : 1 ≤ y) (hy2 : y ≤ 9999) (hm1 : 1 ≤ m) (hm2 : m ≤ 12) (hd1 : 1 ≤ d) (hd2 : d ≤ 31) :
    Calls Tryd.prog 79 #[.int .i64 y, .int .i64 m, .int .i64 d] w fun e w' => e = .returned (.int .i64 (ahead (12 * (y - 1) + m - 1).toNat + d)) ∧ w' = w :=
  specOf_any w (12 * (y - 1) + m - 1).toNat y m d (by omega) (by omega) (by omega) (by omega) (by omega)

theorem l14Day_any (w : World) (R p : Nat) (hr : RD w R p) (hp : p ≤ 90000) : Calls Tryd.prog 45 #[.pointer (some ⟨R, 0, none⟩)] w (DrawsInt w R p 4) := by
  have C := hide (pick_any w R p 6 hr (by omega) (by omega) (by omega))
  go_enter Tryd.func45, Tryd.ntmps45
  go_wp2_with fail
  refine (unhide C).mono ?_
  rintro e w1 ⟨x, rfl, hx, r1, g1⟩
  clear C
  have hx' : x = 0 ∨ x = 1 ∨ x = 2 ∨ x = 3 ∨ 4 ≤ x := by omega
  rcases hx' with rfl | rfl | rfl | rfl | hx4
  · clear hx
    go_wp2_with fail
    refine (one_lit _ R _ [1, 2, 31, 59, 60, 3652059, 3652058, 366] _ rfl r1 (by omega) (by simp) (by simp)).mono ?_
    rintro e w2 ⟨x2, rfl, hx2, r2, g2⟩
    go_wp2
    go_ret
    exact ⟨x2, _, rfl, r2, by omega, grown_trans g1 g2⟩
  · clear hx
    go_wp2_with fail
    refine (one_lit _ R _ [4, 1900, 2000, 2023, 2024, 2100, 9999] _ rfl r1 (by omega) (by simp) (by simp)).mono ?_
    rintro e w2 ⟨x2, rfl, hx2, r2, g2⟩
    have k2 : 1 ≤ x2 ∧ x2 ≤ 9999 := by simp only [List.mem_cons, List.not_mem_nil, or_false] at hx2; omega
    clear hx2
    go_wp2_with fail
    refine (one_lit _ R _ [1, 2, 2, 3, 12] _ rfl r2 (by omega) (by simp) (by simp)).mono ?_
    rintro e w3 ⟨x3, rfl, hx3, r3, g3⟩
    have k3 : 1 ≤ x3 ∧ x3 ≤ 12 := by simp only [List.mem_cons, List.not_mem_nil, or_false] at hx3; omega
    clear hx3
    have C := ofDraw w3 x2 x3 28 (by omega) (by omega) (by omega) (by omega) (by omega) (by omega)
    go_wp2_with fail
    refine C.mono ?_
    rintro e w4 ⟨rfl, rfl⟩
    go_wp2
    go_ret
    exact ⟨_, _, rfl, r3, by omega, grown_trans (grown_trans g1 g2) g3⟩
  · clear hx
    go_wp2_with fail
    refine (one_lit _ R _ [4, 2000, 2024, 9996] _ rfl r1 (by omega) (by simp) (by simp)).mono ?_
    rintro e w2 ⟨x2, rfl, hx2, r2, g2⟩
    have k2 : 1 ≤ x2 ∧ x2 ≤ 9999 := by simp only [List.mem_cons, List.not_mem_nil, or_false] at hx2; omega
    clear hx2
    have C := ofDraw w2 x2 2 29 (by omega) (by omega) (by omega) (by omega) (by omega) (by omega)
    go_wp2_with fail
    refine C.mono ?_
    rintro e w4 ⟨rfl, rfl⟩
    go_wp2
    go_ret
    exact ⟨_, _, rfl, r2, by omega, grown_trans g1 g2⟩
  · clear hx
    go_wp2_with fail
    refine (one_lit _ R _ [1, 2023, 2024, 9999] _ rfl r1 (by omega) (by simp) (by simp)).mono ?_
    rintro e w2 ⟨x2, rfl, hx2, r2, g2⟩
    have k2 : 1 ≤ x2 ∧ x2 ≤ 9999 := by simp only [List.mem_cons, List.not_mem_nil, or_false] at hx2; omega
    clear hx2
    go_wp2_with fail
    refine (one_lit _ R _ [1, 3, 5, 8, 10, 12] _ rfl r2 (by omega) (by simp) (by simp)).mono ?_
    rintro e w3 ⟨x3, rfl, hx3, r3, g3⟩
    have k3 : 1 ≤ x3 ∧ x3 ≤ 12 := by simp only [List.mem_cons, List.not_mem_nil, or_false] at hx3; omega
    clear hx3
    have C := ofDraw w3 x2 x3 31 (by omega) (by omega) (by omega) (by omega) (by omega) (by omega)
    go_wp2_with fail
    refine C.mono ?_
    rintro e w4 ⟨rfl, rfl⟩
    go_wp2
    go_ret
    exact ⟨_, _, rfl, r3, by omega, grown_trans (grown_trans g1 g2) g3⟩
  · have t0 : ((x : Int) == 0) = false := by simp; omega
    have t1 : ((x : Int) == 1) = false := by simp; omega
    have t2 : ((x : Int) == 2) = false := by simp; omega
    have t3 : ((x : Int) == 3) = false := by simp; omega
    clear hx hx4
    go_wp2_with fail
    refine (pick_any _ R _ 8 r1 (by omega) (by omega) (by omega)).mono ?_
    rintro e w2 ⟨y, rfl, hy, r2, g2⟩
    go_wp2_with fail
    refine (pick_any _ R _ 12 r2 (by omega) (by omega) (by omega)).mono ?_
    rintro e w3 ⟨m, rfl, hm, r3, g3⟩
    go_wp2_with fail
    refine (pick_any _ R _ 28 r3 (by omega) (by omega) (by omega)).mono ?_
    rintro e w4 ⟨d, rfl, hd, r4, g4⟩
    have C := ofDraw w4 (2020 + (y : Int)) (1 + (m : Int)) (1 + (d : Int)) (by omega) (by omega) (by omega) (by omega) (by omega) (by omega)
    go_wp2_with fail
    refine C.mono ?_
    rintro e w5 ⟨rfl, rfl⟩
    go_wp2
    go_ret
    exact ⟨_, _, rfl, r4, by omega, grown_trans (grown_trans (grown_trans g1 g2) g3) g4⟩

theorem l14AnyDay_any (w : World) (R p : Nat) (hr : RD w R p) (hp : p ≤ 80000) : Calls Tryd.prog 34 #[.pointer (some ⟨R, 0, none⟩)] w (DrawsInt w R p 5) := by
  have C := hide (pick_any w R p 20 hr (by omega) (by omega) (by omega))
  go_enter Tryd.func34, Tryd.ntmps34
  go_wp2_with fail
  refine (unhide C).mono ?_
  rintro e w1 ⟨x, rfl, hx, r1, g1⟩
  clear C
  by_cases h0 : x = 0
  · subst h0
    go_wp2_with fail
    refine (one_lit _ R _ [0, -1, 3652060] _ rfl r1 (by omega) (by simp) (by simp)).mono ?_
    rintro e w2 ⟨x2, rfl, hx2, r2, g2⟩
    go_wp2
    go_ret
    exact ⟨x2, _, rfl, r2, by omega, grown_trans g1 g2⟩
  · have t0 : ((x : Int) == 0) = false := by simp; omega
    clear h0 hx
    go_wp2_with fail
    refine (l14Day_any _ R _ r1 (by omega)).mono ?_
    rintro e w2 ⟨y, q, rfl, r2, hq, g2⟩
    go_wp2
    go_ret
    exact ⟨y, _, rfl, r2, by omega, grown_trans g1 g2⟩

end Go.Proofs.YtnfalniijmccjaaDoor
