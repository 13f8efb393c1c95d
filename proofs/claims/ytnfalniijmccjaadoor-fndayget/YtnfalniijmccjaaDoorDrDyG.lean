/- A day that is one is drawn: l14Day by a contract; the text of a day: DrawDayGet. -/
import Derived.Test.YtnfalniijmccjaaDoorDrDay
import Derived.Test.YtnfalniijmccjaaDoorDrGet0
import Derived.Test.YtnfalniijmccjaaDoorDyW
namespace Go.Proofs.YtnfalniijmccjaaDoor
open Go.RowKit
set_option maxRecDepth 100000

def DrawsDayI (w : World) (R p k : Nat) (e : Ending) (w' : World) : Prop := ∃ (x : Int) (q : Nat), IsDay x ∧ e = .returned (.int .i64 x) ∧ RD w' R q ∧ q ≤ p + k ∧ w.grownBy w' (some R)

theorem day_in {k : Nat} {d : Int} (hk : k ≤ 119987) (h1 : 1 ≤ d) (h2 : d ≤ 31) : IsDay (ahead k + d) := by
  have h0 := ahead_nonneg k
  unfold IsDay
  by_cases h : k = 119987
  · subst h
    rw [ahead_last]
    omega
  · have a := ahead_succ k
    have b := ahead_succ (k + 1)
    have c := ahead_le (show k + 1 + 1 ≤ 119988 by omega)
    rw [ahead_end] at c
    have := lastM_bounds k
    have := lastM_bounds (k + 1)
    omega

theorem l14Day_is (w : World) (R p : Nat) (hr : RD w R p) (hp : p ≤ 90000) : Calls Tryd.prog 45 #[.pointer (some ⟨R, 0, none⟩)] w (DrawsDayI w R p 4) := by
  have C := hide (pick_any w R p 6 hr (by omega) (by omega) (by omega))
  go_enter Tryd.func45, Tryd.ntmps45
  go_wp2_with fail
  refine (unhide C).mono ?_
  rintro e w1 ⟨x, rfl, hx, r1, g1⟩
  clear C
  have hx' : x = 0 ∨ x = 1 ∨ x = 2 ∨ x = 3 ∨ 4 ≤ x := by omega
  rcases hx' with rfl | rfl | rfl | rfl | hx4
  · clear hx
    go_wp2_with fail
    refine (one_lit _ R _ [1, 2, 31, 59, 60, 3652059, 3652058, 366] _ rfl r1 (by omega) (by simp) (by simp)).mono ?_
    rintro e w2 ⟨x2, rfl, hx2, r2, g2⟩
    go_wp2
    go_ret
    exact ⟨x2, _, (by simp only [List.mem_cons, List.not_mem_nil, or_false] at hx2; omega), rfl, r2, by omega, grown_trans g1 g2⟩
  · clear hx
    go_wp2_with fail
    refine (one_lit _ R _ [4, 1900, 2000, 2023, 2024, 2100, 9999] _ rfl r1 (by omega) (by simp) (by simp)).mono ?_
    rintro e w2 ⟨x2, rfl, hx2, r2, g2⟩
    have k2 : 1 ≤ x2 ∧ x2 ≤ 9999 := by simp only [List.mem_cons, List.not_mem_nil, or_false] at hx2; omega
    clear hx2
    go_wp2_with fail
    refine (one_lit _ R _ [1, 2, 2, 3, 12] _ rfl r2 (by omega) (by simp) (by simp)).mono ?_
    rintro e w3 ⟨x3, rfl, hx3, r3, g3⟩
    have k3 : 1 ≤ x3 ∧ x3 ≤ 12 := by simp only [List.mem_cons, List.not_mem_nil, or_false] at hx3; omega
    clear hx3
    have C := ofDraw w3 x2 x3 28 (by omega) (by omega) (by omega) (by omega) (by omega) (by omega)
    go_wp2_with fail
    refine C.mono ?_
    rintro e w4 ⟨rfl, rfl⟩
    go_wp2
    go_ret
    exact ⟨_, _, day_in (by omega) (by omega) (by omega), rfl, r3, by omega, grown_trans (grown_trans g1 g2) g3⟩
  · clear hx
    go_wp2_with fail
    refine (one_lit _ R _ [4, 2000, 2024, 9996] _ rfl r1 (by omega) (by simp) (by simp)).mono ?_
    rintro e w2 ⟨x2, rfl, hx2, r2, g2⟩
    have k2 : 1 ≤ x2 ∧ x2 ≤ 9999 := by simp only [List.mem_cons, List.not_mem_nil, or_false] at hx2; omega
    clear hx2
    have C := ofDraw w2 x2 2 29 (by omega) (by omega) (by omega) (by omega) (by omega) (by omega)
    go_wp2_with fail
    refine C.mono ?_
    rintro e w4 ⟨rfl, rfl⟩
    go_wp2
    go_ret
    exact ⟨_, _, day_in (by omega) (by omega) (by omega), rfl, r2, by omega, grown_trans g1 g2⟩
  · clear hx
    go_wp2_with fail
    refine (one_lit _ R _ [1, 2023, 2024, 9999] _ rfl r1 (by omega) (by simp) (by simp)).mono ?_
    rintro e w2 ⟨x2, rfl, hx2, r2, g2⟩
    have k2 : 1 ≤ x2 ∧ x2 ≤ 9999 := by simp only [List.mem_cons, List.not_mem_nil, or_false] at hx2; omega
    clear hx2
    go_wp2_with fail
    refine (one_lit _ R _ [1, 3, 5, 8, 10, 12] _ rfl r2 (by omega) (by simp) (by simp)).mono ?_
    rintro e w3 ⟨x3, rfl, hx3, r3, g3⟩
    have k3 : 1 ≤ x3 ∧ x3 ≤ 12 := by simp only [List.mem_cons, List.not_mem_nil, or_false] at hx3; omega
    clear hx3
    have C := ofDraw w3 x2 x3 31 (by omega) (by omega) (by omega) (by omega) (by omega) (by omega)
    go_wp2_with fail
    refine C.mono ?_
    rintro e w4 ⟨rfl, rfl⟩
    go_wp2
    go_ret
    exact ⟨_, _, day_in (by omega) (by omega) (by omega), rfl, r3, by omega, grown_trans (grown_trans g1 g2) g3⟩
  · have t0 : ((x : Int) == 0) = false := by simp; omega
    have t1 : ((x : Int) == 1) = false := by simp; omega
    have t2 : ((x : Int) == 2) = false := by simp; omega
    have t3 : ((x : Int) == 3) = false := by simp; omega
    clear hx hx4
    go_wp2_with fail
    refine (pick_any _ R _ 8 r1 (by omega) (by omega) (by omega)).mono ?_
    rintro e w2 ⟨y, rfl, hy, r2, g2⟩
    go_wp2_with fail
    refine (pick_any _ R _ 12 r2 (by omega) (by omega) (by omega)).mono ?_
    rintro e w3 ⟨m, rfl, hm, r3, g3⟩
    go_wp2_with fail
    refine (pick_any _ R _ 28 r3 (by omega) (by omega) (by omega)).mono ?_
    rintro e w4 ⟨d, rfl, hd, r4, g4⟩
    have C := ofDraw w4 (2020 + (y : Int)) (1 + (m : Int)) (1 + (d : Int)) (by omega) (by omega) (by omega) (by omega) (by omega) (by omega)
    go_wp2_with fail
    refine C.mono ?_
    rintro e w5 ⟨rfl, rfl⟩
    go_wp2
    go_ret
    exact ⟨_, _, day_in (by omega) (by omega) (by omega), rfl, r4, by omega, grown_trans (grown_trans (grown_trans g1 g2) g3) g4⟩

theorem drawDayGet_any (w : World) (v : Value) (h : Byt w v) :
    Calls Tryd.prog 14 #[v] w fun e w' => ∃ t : ByteArray, e = .returned (.string t) ∧ t.size ≤ 2000 ∧ Below w.heap.size w w' := by
  have C0 := hide (l1Open_any w v h)
  go_enter Tryd.func14, Tryd.ntmps14
  go_wp2_with fail
  refine (unhide C0).mono ?_
  rintro e w1 ⟨rfl, r1, b1, z1⟩
  clear C0
  go_wp2_with fail
  refine (pick_any w1 _ 0 8 r1 (by omega) (by omega) (by omega)).mono ?_
  rintro e w2 ⟨x, rfl, hx, r2, g2⟩
  clear r1
  by_cases hx0 : x = 0
  · subst hx0
    go_wp2_with fail
    refine (of_lit _ _ _ [⟨#[]⟩, ⟨#[50, 48, 50, 51, 45, 48, 50, 45, 50, 57]⟩, ⟨#[48, 48, 48, 48, 45, 48, 49, 45, 48, 49]⟩, ⟨#[50, 48, 50, 52, 45, 49, 51, 45, 48, 49]⟩, ⟨#[50, 48, 50, 52, 45, 49, 45, 49]⟩, ⟨#[49, 48, 48, 48, 48, 45, 48, 49, 45, 48, 49]⟩, ⟨#[50, 48, 50, 52, 45, 48, 50, 45, 51, 48]⟩] _ rfl r2 (by omega) (by simp) (by simp)).mono ?_
    rintro e w5 ⟨y, rfl, hy, r5, g5⟩
    have ky : y.size ≤ 65 := by
      simp only [List.mem_cons, List.not_mem_nil, or_false] at hy
      rcases hy with rfl | rfl | rfl | rfl | rfl | rfl | rfl <;> decide
    clear hy
    go_wp2
    go_ret
    exact ⟨y, rfl, by omega, grown_below_trans b1 (Nat.le_refl _) (grown_trans g2 g5)⟩
  · have hx1 : ((x : Int) == 0) = false := by rw [beq_eq_false_iff_ne]; omega
    go_wp2_with fail
    refine (l14Day_is w2 _ 1 r2 (by omega)).mono ?_
    rintro e w3 ⟨z, q, hz, rfl, r3, hq, g3⟩
    have HT := hide (show (dayT z).size ≤ 500 by rw [dayT_size hz]; omega)
    have C3 := hide (l3Put_any w3 z hz.1 hz.2)
    generalize dayT z = T at *
    clear r2 hz
    go_wp2_with fail
    refine (unhide C3).mono ?_
    rintro e w4 ⟨rfl, b4⟩
    have r4 := r3.later b4
    have g4 := grown_trans (grown_trans g2 g3) (grown_below (r := some w.heap.size) b4)
    clear C3 b4 r3 g2 g3
    go_wp2_with fail
    refine (l14Bent_any w4 _ q T r4 (by omega) (unhide HT)).mono ?_
    rintro e w5 ⟨t, rfl, ht, g5⟩
    go_wp2
    go_ret
    exact ⟨t, rfl, ht, grown_below_trans b1 (Nat.le_refl _) (grown_trans g4 g5)⟩

end Go.Proofs.YtnfalniijmccjaaDoor
