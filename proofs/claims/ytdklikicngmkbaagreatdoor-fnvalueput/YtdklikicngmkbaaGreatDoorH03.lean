/- Drawn days: l14Day, l14AnyDay draw some number. Drawn days that are days: l14Day. Drawn spans: l14Span, l14AnySpan. Drawn spans that are ok: l14Span. -/
import Derived.Test.YtdklikicngmkbaaGreatDoorH00
import Derived.Test.YtdklikicngmkbaaGreatDoorG12
import Derived.Test.YtdklikicngmkbaaGreatDoorG14
import Derived.Test.YtdklikicngmkbaaGreatDoorG13
namespace Go.Proofs.YtdklikicngmkbaaGreatDoor
open Go.RowKit

/-- What a call answers that draws a number from the reader at R. -/
def DrawsInt (w : World) (R p k : Nat) (e : Ending) (w' : World) : Prop := ∃ (x : Int) (q : Nat), e = .returned (.int .i64 x) ∧ RD w' R q ∧ q ≤ p + k ∧ w.grownBy w' (some R)

theorem ofDraw (w : World) (y m d : Int) (hy1 : 1 ≤ y) (hy2 : y ≤ 9999) (hm1 : 1 ≤ m) (hm2 : m ≤ 12) (hd1 : 1 ≤ d) (hd2 : d ≤ 31) :
    Calls Tryz.prog 153 #[.int .i64 y, .int .i64 m, .int .i64 d] w fun e w' => e = .returned (.int .i64 (ahead (12 * (y - 1) + m - 1).toNat + d)) ∧ w' = w :=
  specOf_any w (12 * (y - 1) + m - 1).toNat y m d (by omega) (by omega) (by omega) (by omega) (by omega)

theorem l14Day_any (w : World) (R p : Nat) (hr : RD w R p) (hp : p ≤ 90000) : Calls Tryz.prog 102 #[.pointer (some ⟨R, 0, none⟩)] w (DrawsInt w R p 4) := by
  have C := hide (pick_any w R p 6 hr (by omega) (by omega) (by omega))
  go_enter Tryz.func102, Tryz.ntmps102
  go_wp2_with fail
  refine (unhide C).mono ?_
  rintro e w1 ⟨x, rfl, hx, r1, g1⟩
  clear C
  have hx' : x = 0 ∨ x = 1 ∨ x = 2 ∨ x = 3 ∨ 4 ≤ x := by omega
  rcases hx' with rfl | rfl | rfl | rfl | hx4
  · clear hx
    go_wp2_with fail
    refine (one_lit _ R _ [1, 2, 31, 59, 60, 3652059, 3652058, 366] _ rfl r1 (by omega) (by simp) (by simp)).mono ?_
    rintro e w2 ⟨x2, rfl, hx2, r2, g2⟩
    go_wp2
    go_ret
    exact ⟨x2, _, rfl, r2, by omega, grown_trans g1 g2⟩
  · clear hx
    go_wp2_with fail
    refine (one_lit _ R _ [4, 1900, 2000, 2023, 2024, 2100, 9999] _ rfl r1 (by omega) (by simp) (by simp)).mono ?_
    rintro e w2 ⟨x2, rfl, hx2, r2, g2⟩
    have k2 : 1 ≤ x2 ∧ x2 ≤ 9999 := by simp only [List.mem_cons, List.not_mem_nil, or_false] at hx2; omega
    clear hx2
    go_wp2_with fail
    refine (one_lit _ R _ [1, 2, 2, 3, 12] _ rfl r2 (by omega) (by simp) (by simp)).mono ?_
    rintro e w3 ⟨x3, rfl, hx3, r3, g3⟩
    have k3 : 1 ≤ x3 ∧ x3 ≤ 12 := by simp only [List.mem_cons, List.not_mem_nil, or_false] at hx3; omega
    clear hx3
    have C := ofDraw w3 x2 x3 28 (by omega) (by omega) (by omega) (by omega) (by omega) (by omega)
    go_wp2_with fail
    refine C.mono ?_
    rintro e w4 ⟨rfl, rfl⟩
    go_wp2
    go_ret
    exact ⟨_, _, rfl, r3, by omega, grown_trans (grown_trans g1 g2) g3⟩
  · clear hx
    go_wp2_with fail
    refine (one_lit _ R _ [4, 2000, 2024, 9996] _ rfl r1 (by omega) (by simp) (by simp)).mono ?_
    rintro e w2 ⟨x2, rfl, hx2, r2, g2⟩
    have k2 : 1 ≤ x2 ∧ x2 ≤ 9999 := by simp only [List.mem_cons, List.not_mem_nil, or_false] at hx2; omega
    clear hx2
    have C := ofDraw w2 x2 2 29 (by omega) (by omega) (by omega) (by omega) (by omega) (by omega)
    go_wp2_with fail
    refine C.mono ?_
    rintro e w4 ⟨rfl, rfl⟩
    go_wp2
    go_ret
    exact ⟨_, _, rfl, r2, by omega, grown_trans g1 g2⟩
  · clear hx
    go_wp2_with fail
    refine (one_lit _ R _ [1, 2023, 2024, 9999] _ rfl r1 (by omega) (by simp) (by simp)).mono ?_
    rintro e w2 ⟨x2, rfl, hx2, r2, g2⟩
    have k2 : 1 ≤ x2 ∧ x2 ≤ 9999 := by simp only [List.mem_cons, List.not_mem_nil, or_false] at hx2; omega
    clear hx2
    go_wp2_with fail
    refine (one_lit _ R _ [1, 3, 5, 8, 10, 12] _ rfl r2 (by omega) (by simp) (by simp)).mono ?_
    rintro e w3 ⟨x3, rfl, hx3, r3, g3⟩
    have k3 : 1 ≤ x3 ∧ x3 ≤ 12 := by simp only [List.mem_cons, List.not_mem_nil, or_false] at hx3; omega
    clear hx3
    have C := ofDraw w3 x2 x3 31 (by omega) (by omega) (by omega) (by omega) (by omega) (by omega)
    go_wp2_with fail
    refine C.mono ?_
    rintro e w4 ⟨rfl, rfl⟩
    go_wp2
    go_ret
    exact ⟨_, _, rfl, r3, by omega, grown_trans (grown_trans g1 g2) g3⟩
  · have t0 : ((x : Int) == 0) = false := by simp; omega
    have t1 : ((x : Int) == 1) = false := by simp; omega
    have t2 : ((x : Int) == 2) = false := by simp; omega
    have t3 : ((x : Int) == 3) = false := by simp; omega
    clear hx hx4
    go_wp2_with fail
    refine (pick_any _ R _ 8 r1 (by omega) (by omega) (by omega)).mono ?_
    rintro e w2 ⟨y, rfl, hy, r2, g2⟩
    go_wp2_with fail
    refine (pick_any _ R _ 12 r2 (by omega) (by omega) (by omega)).mono ?_
    rintro e w3 ⟨m, rfl, hm, r3, g3⟩
    go_wp2_with fail
    refine (pick_any _ R _ 28 r3 (by omega) (by omega) (by omega)).mono ?_
    rintro e w4 ⟨d, rfl, hd, r4, g4⟩
    have C := ofDraw w4 (2020 + (y : Int)) (1 + (m : Int)) (1 + (d : Int)) (by omega) (by omega) (by omega) (by omega) (by omega) (by omega)
    go_wp2_with fail
    refine C.mono ?_
    rintro e w5 ⟨rfl, rfl⟩
    go_wp2
    go_ret
    exact ⟨_, _, rfl, r4, by omega, grown_trans (grown_trans (grown_trans g1 g2) g3) g4⟩

theorem l14AnyDay_any (w : World) (R p : Nat) (hr : RD w R p) (hp : p ≤ 80000) : Calls Tryz.prog 59 #[.pointer (some ⟨R, 0, none⟩)] w (DrawsInt w R p 5) := by
  have C := hide (pick_any w R p 20 hr (by omega) (by omega) (by omega))
  go_enter Tryz.func59, Tryz.ntmps59
  go_wp2_with fail
  refine (unhide C).mono ?_
  rintro e w1 ⟨x, rfl, hx, r1, g1⟩
  clear C
  by_cases h0 : x = 0
  · subst h0
    go_wp2_with fail
    refine (one_lit _ R _ [0, -1, 3652060] _ rfl r1 (by omega) (by simp) (by simp)).mono ?_
    rintro e w2 ⟨x2, rfl, hx2, r2, g2⟩
    go_wp2
    go_ret
    exact ⟨x2, _, rfl, r2, by omega, grown_trans g1 g2⟩
  · have t0 : ((x : Int) == 0) = false := by simp; omega
    clear h0 hx
    go_wp2_with fail
    refine (l14Day_any _ R _ r1 (by omega)).mono ?_
    rintro e w2 ⟨y, q, rfl, r2, hq, g2⟩
    go_wp2
    go_ret
    exact ⟨y, _, rfl, r2, by omega, grown_trans g1 g2⟩

end Go.Proofs.YtdklikicngmkbaaGreatDoor

namespace Go.Proofs.YtdklikicngmkbaaGreatDoor
open Go.RowKit
set_option maxRecDepth 100000
set_option linter.unusedSimpArgs false


def DrawsDayI (w : World) (R p k : Nat) (e : Ending) (w' : World) : Prop := ∃ (x : Int) (q : Nat), IsDay x ∧ e = .returned (.int .i64 x) ∧ RD w' R q ∧ q ≤ p + k ∧ w.grownBy w' (some R)

theorem day_in {k : Nat} {d : Int} (hk : k ≤ 119987) (h1 : 1 ≤ d) (h2 : d ≤ 31) : IsDay (ahead k + d) := by
  have h0 := ahead_nonneg k
  unfold IsDay
  by_cases h : k = 119987
  · subst h
    rw [ahead_last]
    omega
  · have a := ahead_succ k
    have b := ahead_succ (k + 1)
    have c := ahead_le (show k + 1 + 1 ≤ 119988 by omega)
    rw [ahead_end] at c
    have := lastM_bounds k
    have := lastM_bounds (k + 1)
    omega

theorem l14Day_is (w : World) (R p : Nat) (hr : RD w R p) (hp : p ≤ 90000) : Calls Tryz.prog 102 #[.pointer (some ⟨R, 0, none⟩)] w (DrawsDayI w R p 4) := by
  have C := hide (pick_any w R p 6 hr (by omega) (by omega) (by omega))
  go_enter Tryz.func102, Tryz.ntmps102
  go_wp2_with fail
  refine (unhide C).mono ?_
  rintro e w1 ⟨x, rfl, hx, r1, g1⟩
  clear C
  have hx' : x = 0 ∨ x = 1 ∨ x = 2 ∨ x = 3 ∨ 4 ≤ x := by omega
  rcases hx' with rfl | rfl | rfl | rfl | hx4
  · clear hx
    go_wp2_with fail
    refine (one_lit _ R _ [1, 2, 31, 59, 60, 3652059, 3652058, 366] _ rfl r1 (by omega) (by simp) (by simp)).mono ?_
    rintro e w2 ⟨x2, rfl, hx2, r2, g2⟩
    go_wp2
    go_ret
    exact ⟨x2, _, (by simp only [List.mem_cons, List.not_mem_nil, or_false] at hx2; omega), rfl, r2, by omega, grown_trans g1 g2⟩
  · clear hx
    go_wp2_with fail
    refine (one_lit _ R _ [4, 1900, 2000, 2023, 2024, 2100, 9999] _ rfl r1 (by omega) (by simp) (by simp)).mono ?_
    rintro e w2 ⟨x2, rfl, hx2, r2, g2⟩
    have k2 : 1 ≤ x2 ∧ x2 ≤ 9999 := by simp only [List.mem_cons, List.not_mem_nil, or_false] at hx2; omega
    clear hx2
    go_wp2_with fail
    refine (one_lit _ R _ [1, 2, 2, 3, 12] _ rfl r2 (by omega) (by simp) (by simp)).mono ?_
    rintro e w3 ⟨x3, rfl, hx3, r3, g3⟩
    have k3 : 1 ≤ x3 ∧ x3 ≤ 12 := by simp only [List.mem_cons, List.not_mem_nil, or_false] at hx3; omega
    clear hx3
    have C := ofDraw w3 x2 x3 28 (by omega) (by omega) (by omega) (by omega) (by omega) (by omega)
    go_wp2_with fail
    refine C.mono ?_
    rintro e w4 ⟨rfl, rfl⟩
    go_wp2
    go_ret
    exact ⟨_, _, day_in (by omega) (by omega) (by omega), rfl, r3, by omega, grown_trans (grown_trans g1 g2) g3⟩
  · clear hx
    go_wp2_with fail
    refine (one_lit _ R _ [4, 2000, 2024, 9996] _ rfl r1 (by omega) (by simp) (by simp)).mono ?_
    rintro e w2 ⟨x2, rfl, hx2, r2, g2⟩
    have k2 : 1 ≤ x2 ∧ x2 ≤ 9999 := by simp only [List.mem_cons, List.not_mem_nil, or_false] at hx2; omega
    clear hx2
    have C := ofDraw w2 x2 2 29 (by omega) (by omega) (by omega) (by omega) (by omega) (by omega)
    go_wp2_with fail
    refine C.mono ?_
    rintro e w4 ⟨rfl, rfl⟩
    go_wp2
    go_ret
    exact ⟨_, _, day_in (by omega) (by omega) (by omega), rfl, r2, by omega, grown_trans g1 g2⟩
  · clear hx
    go_wp2_with fail
    refine (one_lit _ R _ [1, 2023, 2024, 9999] _ rfl r1 (by omega) (by simp) (by simp)).mono ?_
    rintro e w2 ⟨x2, rfl, hx2, r2, g2⟩
    have k2 : 1 ≤ x2 ∧ x2 ≤ 9999 := by simp only [List.mem_cons, List.not_mem_nil, or_false] at hx2; omega
    clear hx2
    go_wp2_with fail
    refine (one_lit _ R _ [1, 3, 5, 8, 10, 12] _ rfl r2 (by omega) (by simp) (by simp)).mono ?_
    rintro e w3 ⟨x3, rfl, hx3, r3, g3⟩
    have k3 : 1 ≤ x3 ∧ x3 ≤ 12 := by simp only [List.mem_cons, List.not_mem_nil, or_false] at hx3; omega
    clear hx3
    have C := ofDraw w3 x2 x3 31 (by omega) (by omega) (by omega) (by omega) (by omega) (by omega)
    go_wp2_with fail
    refine C.mono ?_
    rintro e w4 ⟨rfl, rfl⟩
    go_wp2
    go_ret
    exact ⟨_, _, day_in (by omega) (by omega) (by omega), rfl, r3, by omega, grown_trans (grown_trans g1 g2) g3⟩
  · have t0 : ((x : Int) == 0) = false := by simp; omega
    have t1 : ((x : Int) == 1) = false := by simp; omega
    have t2 : ((x : Int) == 2) = false := by simp; omega
    have t3 : ((x : Int) == 3) = false := by simp; omega
    clear hx hx4
    go_wp2_with fail
    refine (pick_any _ R _ 8 r1 (by omega) (by omega) (by omega)).mono ?_
    rintro e w2 ⟨y, rfl, hy, r2, g2⟩
    go_wp2_with fail
    refine (pick_any _ R _ 12 r2 (by omega) (by omega) (by omega)).mono ?_
    rintro e w3 ⟨m, rfl, hm, r3, g3⟩
    go_wp2_with fail
    refine (pick_any _ R _ 28 r3 (by omega) (by omega) (by omega)).mono ?_
    rintro e w4 ⟨d, rfl, hd, r4, g4⟩
    have C := ofDraw w4 (2020 + (y : Int)) (1 + (m : Int)) (1 + (d : Int)) (by omega) (by omega) (by omega) (by omega) (by omega) (by omega)
    go_wp2_with fail
    refine C.mono ?_
    rintro e w5 ⟨rfl, rfl⟩
    go_wp2
    go_ret
    exact ⟨_, _, day_in (by omega) (by omega) (by omega), rfl, r4, by omega, grown_trans (grown_trans (grown_trans g1 g2) g3) g4⟩

end Go.Proofs.YtdklikicngmkbaaGreatDoor

namespace Go.Proofs.YtdklikicngmkbaaGreatDoor
open Go.RowKit

/-- What a call answers that draws a span from the reader at R. -/
def DrawsSpan (w : World) (R p k : Nat) (e : Ending) (w' : World) : Prop := ∃ (m d : Int) (q : Nat), e = .returned (.agg #[.int .i64 m, .int .i64 d]) ∧ RD w' R q ∧ q ≤ p + k ∧ w.grownBy w' (some R)

/-- A box of a span, at block B, that the call laid. -/
structure SBx (W : World) (B : Nat) (m d : Int) : Prop where
  c0 : W.cell? ⟨B, 0, none⟩ = some (.int .i64 m)
  c1 : W.cell? ⟨B, 1, none⟩ = some (.int .i64 d)
  f0 : W.frozen? ⟨B, 0, none⟩ = false
  f1 : W.frozen? ⟨B, 1, none⟩ = false
  lt : B < W.heap.size
theorem SBx.start (w : World) (m d : Int) : SBx (w.alloc (.cells #[.int .i64 m, .int .i64 d] 29)) w.heap.size m d :=
  ⟨by simp [go_sem], by simp [go_sem], by simp, by simp, by simp⟩
theorem SBx.later {W W' : World} {B : Nat} {m d : Int} {r : Option Nat} (h : SBx W B m d) (g : W.grownBy W' r) (hne : some B ≠ r) : SBx W' B m d := by
  have hb := g.block B h.lt hne
  exact ⟨(World.cell?_of_block (w := W) (a := ⟨B, 0, none⟩) hb).trans h.c0, (World.cell?_of_block (w := W) (a := ⟨B, 1, none⟩) hb).trans h.c1,
    (World.frozen?_of_block (w := W) (a := ⟨B, 0, none⟩) hb).trans h.f0, (World.frozen?_of_block (w := W) (a := ⟨B, 1, none⟩) hb).trans h.f1, Nat.lt_of_lt_of_le h.lt g.size⟩
theorem SBx.alloc {W : World} {B : Nat} {m d : Int} (h : SBx W B m d) (o : Obj) : SBx (W.alloc o) B m d := h.later (grown_alloc W o none) (by simp)

theorem l14Span_any (w : World) (R p : Nat) (hr : RD w R p) (hp : p ≤ 90000) : Calls Tryz.prog 103 #[.pointer (some ⟨R, 0, none⟩)] w (DrawsSpan w R p 3) := by
  have hR := hr.lt
  have hne : some w.heap.size ≠ some R := by simp; omega
  have C := hide (pick_any (w.alloc (.cells #[.int .i64 0, .int .i64 0] 29)) R p 5 (hr.alloc _) (by omega) (by omega) (by omega))
  have K0 : w.grownBy (w.alloc (.cells #[.int .i64 0, .int .i64 0] 29)) (some R) := grown_alloc _ _ _
  have S0 := SBx.start w 0 0
  go_enter Tryz.func103, Tryz.ntmps103
  go_wp2_with fail
  refine (unhide C).mono ?_
  rintro e w1 ⟨x, rfl, hx, r1, g1⟩
  clear C
  have S1 := S0.later g1 hne
  have K1 := hide (grown_trans K0 g1)
  clear S0 K0 g1
  have hx' : x = 0 ∨ x = 1 ∨ x = 2 ∨ 3 ≤ x := by omega
  rcases hx' with rfl | rfl | rfl | hx4
  · clear hx
    go_wp2_with fail
    refine (one_lit _ R _ [0, 120000, -120000, 119987, -119988] _ rfl r1 (by omega) (by simp) (by simp)).mono ?_
    rintro e w2 ⟨x2, rfl, hx2, r2, g2⟩
    have S2 := S1.later g2 hne
    have K2 := hide (grown_trans (unhide K1) g2)
    clear hx2 S1 K1 g2
    go_wp2_with fail
    refine (one_lit _ R _ [0, 4000000, -4000000] _ rfl r2 (by omega) (by simp) (by simp)).mono ?_
    rintro e w3 ⟨x3, rfl, hx3, r3, g3⟩
    have S3 := S2.later g3 hne
    have K3 := hide (grown_trans (unhide K2) g3)
    clear hx3 S2 K2 g3
    obtain ⟨c0, c1, f0, f1, lt⟩ := S3
    go_wp2
    refine bodyPost_ret (v := .agg #[.int .i64 (x2), .int .i64 (x3)]) (by simp [results, Tryz.results103, go_sem, c0, c1]) rfl ⟨_, _, _, rfl, (r3.set (by exact hR) _).set (by exact hR) _, by omega, grown_set (grown_set (unhide K3) (Nat.le_refl _) _) (Nat.le_refl _) _⟩
  · clear hx
    go_wp2_with fail
    refine (pick_any _ R _ 30 r1 (by omega) (by omega) (by omega)).mono ?_
    rintro e w2 ⟨x2, rfl, hx2, r2, g2⟩
    have S2 := S1.later g2 hne
    have K2 := hide (grown_trans (unhide K1) g2)
    clear S1 K1 g2
    obtain ⟨c0, c1, f0, f1, lt⟩ := S2
    go_wp2
    refine bodyPost_ret (v := .agg #[.int .i64 ((x2 : Int) - 15), .int .i64 (0)]) (by simp [results, Tryz.results103, go_sem, c0, c1]) rfl ⟨_, _, _, rfl, (r2.set (by exact hR) _).set (by exact hR) _, by omega, grown_set (grown_set (unhide K2) (Nat.le_refl _) _) (Nat.le_refl _) _⟩
  · clear hx
    go_wp2_with fail
    refine (pick_any _ R _ 80 r1 (by omega) (by omega) (by omega)).mono ?_
    rintro e w2 ⟨x2, rfl, hx2, r2, g2⟩
    have S2 := S1.later g2 hne
    have K2 := hide (grown_trans (unhide K1) g2)
    clear S1 K1 g2
    obtain ⟨c0, c1, f0, f1, lt⟩ := S2
    go_wp2
    refine bodyPost_ret (v := .agg #[.int .i64 (0), .int .i64 ((x2 : Int) - 40)]) (by simp [results, Tryz.results103, go_sem, c0, c1]) rfl ⟨_, _, _, rfl, (r2.set (by exact hR) _).set (by exact hR) _, by omega, grown_set (grown_set (unhide K2) (Nat.le_refl _) _) (Nat.le_refl _) _⟩
  · have t0 : ((x : Int) == 0) = false := by simp; omega
    have t1 : ((x : Int) == 1) = false := by simp; omega
    have t2 : ((x : Int) == 2) = false := by simp; omega
    clear hx hx4
    go_wp2_with fail
    refine (pick_any _ R _ 60 r1 (by omega) (by omega) (by omega)).mono ?_
    rintro e w2 ⟨x2, rfl, hx2, r2, g2⟩
    have S2 := S1.later g2 hne
    have K2 := hide (grown_trans (unhide K1) g2)
    clear S1 K1 g2
    go_wp2_with fail
    refine (pick_any _ R _ 60 r2 (by omega) (by omega) (by omega)).mono ?_
    rintro e w3 ⟨x3, rfl, hx3, r3, g3⟩
    have S3 := S2.later g3 hne
    have K3 := hide (grown_trans (unhide K2) g3)
    clear S2 K2 g3
    obtain ⟨c0, c1, f0, f1, lt⟩ := S3
    go_wp2
    refine bodyPost_ret (v := .agg #[.int .i64 ((x2 : Int) - 30), .int .i64 ((x3 : Int) - 30)]) (by simp [results, Tryz.results103, go_sem, c0, c1]) rfl ⟨_, _, _, rfl, (r3.set (by exact hR) _).set (by exact hR) _, by omega, grown_set (grown_set (unhide K3) (Nat.le_refl _) _) (Nat.le_refl _) _⟩

theorem SBx.set0 {W : World} {B : Nat} {m d : Int} (h : SBx W B m d) (x : Int) : SBx (W.setCell ⟨B, 0, none⟩ (.int .i64 x)) B x d := by
  obtain ⟨c0, c1, f0, f1, lt⟩ := h
  exact ⟨by simp [go_sem, c0], by simp [go_sem, c1], by simp [f0], by simp [f1], by simpa using lt⟩
theorem SBx.set1 {W : World} {B : Nat} {m d : Int} (h : SBx W B m d) (x : Int) : SBx (W.setCell ⟨B, 1, none⟩ (.int .i64 x)) B m x := by
  obtain ⟨c0, c1, f0, f1, lt⟩ := h
  exact ⟨by simp [go_sem, c0], by simp [go_sem, c1], by simp [f0], by simp [f1], by simpa using lt⟩
theorem SBx.other {W : World} {B : Nat} {m d : Int} (h : SBx W B m d) {a : Addr} (ha : B ≠ a.block) (u : Value) : SBx (W.setCell a u) B m d := by
  have hb : (W.setCell a u).heap[B]? = W.heap[B]? := Below.heap_setCell W a u B ha
  exact ⟨(World.cell?_of_block (w := W) (a := ⟨B, 0, none⟩) hb).trans h.c0, (World.cell?_of_block (w := W) (a := ⟨B, 1, none⟩) hb).trans h.c1,
    (World.frozen?_of_block (w := W) (a := ⟨B, 0, none⟩) hb).trans h.f0, (World.frozen?_of_block (w := W) (a := ⟨B, 1, none⟩) hb).trans h.f1, by simpa using h.lt⟩

theorem l14AnySpan_any (w : World) (R p : Nat) (hr : RD w R p) (hp : p ≤ 80000) : Calls Tryz.prog 60 #[.pointer (some ⟨R, 0, none⟩)] w (DrawsSpan w R p 7) := by
  have hR := hr.lt
  have hne : some w.heap.size ≠ some R := by simp; omega
  have C := hide (l14Span_any (w.alloc (.cells #[.int .i64 0, .int .i64 0] 29)) R p (hr.alloc _) (by omega))
  have K0 : w.grownBy (w.alloc (.cells #[.int .i64 0, .int .i64 0] 29)) (some R) := grown_alloc _ _ _
  have S0 := SBx.start w 0 0
  go_enter Tryz.func60, Tryz.ntmps60
  go_wp2_with fail
  refine (unhide C).mono ?_
  rintro e w1 ⟨m, d, q, rfl, r1, hq, g1⟩
  clear C
  have S1 := (S0.later g1 hne).alloc (.cells #[.int .i64 m, .int .i64 d] 29)
  have y1 := (S0.later g1 hne).lt
  have T1 := SBx.start w1 m d
  have K1 := hide (grown_trans (grown_trans K0 g1) (grown_alloc w1 (.cells #[.int .i64 m, .int .i64 d] 29) _))
  have R1 := r1.alloc (.cells #[.int .i64 m, .int .i64 d] 29)
  have hnf : some w1.heap.size ≠ some R := by simp; omega
  clear S0 K0 g1 r1
  go_wp2_with fail
  refine (pick_any _ R _ 20 R1 (by omega) (by omega) (by omega)).mono ?_
  rintro e w2 ⟨x, rfl, hx, r2, g2⟩
  have S2 := S1.later g2 hne
  have T2 := T1.later g2 hnf
  have K2 := hide (grown_trans (unhide K1) g2)
  clear S1 T1 K1 R1 g2
  have SS := hide S2
  clear S2
  by_cases hx0 : x = 0
  · have tx : ((x : Int) == 0) = true := by simp [hx0]
    clear hx hx0
    go_wp2_with fail
    refine (one_lit _ R _ [120001, -120001] _ rfl r2 (by omega) (by simp) (by simp)).mono ?_
    rintro e w3 ⟨a, rfl, ha, r3, g3⟩
    have S3 := (unhide SS).later g3 hne
    have T3 := T2.later g3 hnf
    have K3 := hide (grown_set (grown_trans (unhide K2) g3) (a := ⟨w1.heap.size, 0, none⟩) (by simp only; omega) (.int .i64 a))
    have R3 := r3.set (a := ⟨w1.heap.size, 0, none⟩) (by simp only; omega) (.int .i64 a)
    clear SS
    have SS := hide (S3.other (a := ⟨w1.heap.size, 0, none⟩) (by simp only; omega) (.int .i64 a))
    have T3' := T3.set0 a
    obtain ⟨u0, u1, v0, v1, lu⟩ := T3
    clear ha K2 r2 g3 r3 S3 T2
    go_wp2_with fail
    refine (pick_any _ R _ 20 R3 (by omega) (by omega) (by omega)).mono ?_
    rintro e w4 ⟨z, rfl, hz, r4, g4⟩
    have S4 := (unhide SS).later g4 hne
    have T4 := T3'.later g4 hnf
    have K4 := hide (grown_trans (unhide K3) g4)
    clear SS K3 R3 g4
    by_cases hz0 : z = 0
    · have tz : ((z : Int) == 0) = true := by simp [hz0]
      clear hz hz0
      have SS := hide S4
      clear S4
      go_wp2_with fail
      refine (one_lit _ R _ [4000001, -4000001] _ rfl r4 (by omega) (by simp) (by simp)).mono ?_
      rintro e w5 ⟨b, rfl, hb, r5, g5⟩
      have S5 := (unhide SS).later g5 hne
      have T5 := T4.later g5 hnf
      have K5 := hide (grown_set (grown_trans (unhide K4) g5) (a := ⟨w1.heap.size, 1, none⟩) (by simp only; omega) (.int .i64 b))
      have R5 := r5.set (a := ⟨w1.heap.size, 1, none⟩) (by simp only; omega) (.int .i64 b)
      have S6 := S5.other (a := ⟨w1.heap.size, 1, none⟩) (by simp only; omega) (.int .i64 b)
      have T6 := T5.set1 b
      clear hb SS K4 r4 g5 r5
      obtain ⟨u0, u1, v0, v1, lu⟩ := T5
      obtain ⟨p0, p1, q0, q1, lp⟩ := S6
      obtain ⟨c0, c1, f0, f1, lt⟩ := T6
      clear S5 T4
      go_wp2
      refine bodyPost_ret (v := .agg #[_, _]) (by simp [results, Tryz.results60, go_sem, p0, p1]; exact ⟨rfl, rfl⟩) rfl ⟨_, _, _, rfl, (R5.set (by exact hR) _).set (by exact hR) _, by omega, grown_set (grown_set (unhide K5) (Nat.le_refl _) _) (Nat.le_refl _) _⟩
    · have tz : ((z : Int) == 0) = false := by simp; omega
      clear hz hz0
      obtain ⟨p0, p1, q0, q1, lp⟩ := S4
      obtain ⟨c0, c1, f0, f1, lt⟩ := T4
      go_wp2
      refine bodyPost_ret (v := .agg #[_, _]) (by simp [results, Tryz.results60, go_sem, p0, p1]; exact ⟨rfl, rfl⟩) rfl ⟨_, _, _, rfl, (r4.set (by exact hR) _).set (by exact hR) _, by omega, grown_set (grown_set (unhide K4) (Nat.le_refl _) _) (Nat.le_refl _) _⟩
  · have tx : ((x : Int) == 0) = false := by simp; omega
    clear hx hx0
    go_wp2_with fail
    refine (pick_any _ R _ 20 r2 (by omega) (by omega) (by omega)).mono ?_
    rintro e w4 ⟨z, rfl, hz, r4, g4⟩
    have S4 := (unhide SS).later g4 hne
    have T4 := T2.later g4 hnf
    have K4 := hide (grown_trans (unhide K2) g4)
    clear SS K2 r2 g4
    by_cases hz0 : z = 0
    · have tz : ((z : Int) == 0) = true := by simp [hz0]
      clear hz hz0
      have SS := hide S4
      clear S4
      go_wp2_with fail
      refine (one_lit _ R _ [4000001, -4000001] _ rfl r4 (by omega) (by simp) (by simp)).mono ?_
      rintro e w5 ⟨b, rfl, hb, r5, g5⟩
      have S5 := (unhide SS).later g5 hne
      have T5 := T4.later g5 hnf
      have K5 := hide (grown_set (grown_trans (unhide K4) g5) (a := ⟨w1.heap.size, 1, none⟩) (by simp only; omega) (.int .i64 b))
      have R5 := r5.set (a := ⟨w1.heap.size, 1, none⟩) (by simp only; omega) (.int .i64 b)
      have S6 := S5.other (a := ⟨w1.heap.size, 1, none⟩) (by simp only; omega) (.int .i64 b)
      have T6 := T5.set1 b
      clear hb SS K4 r4 g5 r5
      obtain ⟨u0, u1, v0, v1, lu⟩ := T5
      obtain ⟨p0, p1, q0, q1, lp⟩ := S6
      obtain ⟨c0, c1, f0, f1, lt⟩ := T6
      clear S5 T4
      go_wp2
      refine bodyPost_ret (v := .agg #[_, _]) (by simp [results, Tryz.results60, go_sem, p0, p1]; exact ⟨rfl, rfl⟩) rfl ⟨_, _, _, rfl, (R5.set (by exact hR) _).set (by exact hR) _, by omega, grown_set (grown_set (unhide K5) (Nat.le_refl _) _) (Nat.le_refl _) _⟩
    · have tz : ((z : Int) == 0) = false := by simp; omega
      clear hz hz0
      obtain ⟨p0, p1, q0, q1, lp⟩ := S4
      obtain ⟨c0, c1, f0, f1, lt⟩ := T4
      go_wp2
      refine bodyPost_ret (v := .agg #[_, _]) (by simp [results, Tryz.results60, go_sem, p0, p1]; exact ⟨rfl, rfl⟩) rfl ⟨_, _, _, rfl, (r4.set (by exact hR) _).set (by exact hR) _, by omega, grown_set (grown_set (unhide K4) (Nat.le_refl _) _) (Nat.le_refl _) _⟩

end Go.Proofs.YtdklikicngmkbaaGreatDoor

namespace Go.Proofs.YtdklikicngmkbaaGreatDoor
open Go.RowKit
set_option maxRecDepth 100000
set_option linter.unusedSimpArgs false


def DrawsSpanI (w : World) (R p k : Nat) (e : Ending) (w' : World) : Prop := ∃ (m d : Int) (q : Nat), SpanIs m d ∧ e = .returned (.agg #[.int .i64 m, .int .i64 d]) ∧ RD w' R q ∧ q ≤ p + k ∧ w.grownBy w' (some R)

theorem spanT_small {m d : Int} (h : SpanIs m d) : (spanT m d).size ≤ 500 := by
  obtain ⟨⟨h1, h2⟩, h3, h4⟩ := h
  have s1 := itxt_size (n := m) (by omega) (by omega)
  have s2 := itxt_size (n := d) (by omega) (by omega)
  unfold spanT
  rw [ByteArray.size_append, ByteArray.size_append, ByteArray.size_append]
  have : (⟨#[109]⟩ : ByteArray).size = 1 := rfl
  have : (⟨#[100]⟩ : ByteArray).size = 1 := rfl
  omega

theorem l14Span_is (w : World) (R p : Nat) (hr : RD w R p) (hp : p ≤ 90000) : Calls Tryz.prog 103 #[.pointer (some ⟨R, 0, none⟩)] w (DrawsSpanI w R p 3) := by
  have hR := hr.lt
  have hne : some w.heap.size ≠ some R := by simp; omega
  have C := hide (pick_any (w.alloc (.cells #[.int .i64 0, .int .i64 0] 29)) R p 5 (hr.alloc _) (by omega) (by omega) (by omega))
  have K0 : w.grownBy (w.alloc (.cells #[.int .i64 0, .int .i64 0] 29)) (some R) := grown_alloc _ _ _
  have S0 := SBx.start w 0 0
  go_enter Tryz.func103, Tryz.ntmps103
  go_wp2_with fail
  refine (unhide C).mono ?_
  rintro e w1 ⟨x, rfl, hx, r1, g1⟩
  clear C
  have S1 := S0.later g1 hne
  have K1 := hide (grown_trans K0 g1)
  clear S0 K0 g1
  have hx' : x = 0 ∨ x = 1 ∨ x = 2 ∨ 3 ≤ x := by omega
  rcases hx' with rfl | rfl | rfl | hx4
  · clear hx
    go_wp2_with fail
    refine (one_lit _ R _ [0, 120000, -120000, 119987, -119988] _ rfl r1 (by omega) (by simp) (by simp)).mono ?_
    rintro e w2 ⟨x2, rfl, hx2, r2, g2⟩
    have S2 := S1.later g2 hne
    have K2 := hide (grown_trans (unhide K1) g2)
    have q2 : -120000 ≤ x2 ∧ x2 ≤ 120000 := by simp only [List.mem_cons, List.not_mem_nil, or_false] at hx2; omega
    clear hx2 S1 K1 g2
    go_wp2_with fail
    refine (one_lit _ R _ [0, 4000000, -4000000] _ rfl r2 (by omega) (by simp) (by simp)).mono ?_
    rintro e w3 ⟨x3, rfl, hx3, r3, g3⟩
    have S3 := S2.later g3 hne
    have K3 := hide (grown_trans (unhide K2) g3)
    have q3 : -4000000 ≤ x3 ∧ x3 ≤ 4000000 := by simp only [List.mem_cons, List.not_mem_nil, or_false] at hx3; omega
    clear hx3 S2 K2 g3
    obtain ⟨c0, c1, f0, f1, lt⟩ := S3
    go_wp2
    refine bodyPost_ret (v := .agg #[.int .i64 (x2), .int .i64 (x3)]) (by simp [results, Tryz.results103, go_sem, c0, c1]) rfl ⟨_, _, _, (by unfold SpanIs; omega), rfl, (r3.set (by exact hR) _).set (by exact hR) _, by omega, grown_set (grown_set (unhide K3) (Nat.le_refl _) _) (Nat.le_refl _) _⟩
  · clear hx
    go_wp2_with fail
    refine (pick_any _ R _ 30 r1 (by omega) (by omega) (by omega)).mono ?_
    rintro e w2 ⟨x2, rfl, hx2, r2, g2⟩
    have S2 := S1.later g2 hne
    have K2 := hide (grown_trans (unhide K1) g2)
    clear S1 K1 g2
    obtain ⟨c0, c1, f0, f1, lt⟩ := S2
    go_wp2
    refine bodyPost_ret (v := .agg #[.int .i64 ((x2 : Int) - 15), .int .i64 (0)]) (by simp [results, Tryz.results103, go_sem, c0, c1]) rfl ⟨_, _, _, (by unfold SpanIs; omega), rfl, (r2.set (by exact hR) _).set (by exact hR) _, by omega, grown_set (grown_set (unhide K2) (Nat.le_refl _) _) (Nat.le_refl _) _⟩
  · clear hx
    go_wp2_with fail
    refine (pick_any _ R _ 80 r1 (by omega) (by omega) (by omega)).mono ?_
    rintro e w2 ⟨x2, rfl, hx2, r2, g2⟩
    have S2 := S1.later g2 hne
    have K2 := hide (grown_trans (unhide K1) g2)
    clear S1 K1 g2
    obtain ⟨c0, c1, f0, f1, lt⟩ := S2
    go_wp2
    refine bodyPost_ret (v := .agg #[.int .i64 (0), .int .i64 ((x2 : Int) - 40)]) (by simp [results, Tryz.results103, go_sem, c0, c1]) rfl ⟨_, _, _, (by unfold SpanIs; omega), rfl, (r2.set (by exact hR) _).set (by exact hR) _, by omega, grown_set (grown_set (unhide K2) (Nat.le_refl _) _) (Nat.le_refl _) _⟩
  · have t0 : ((x : Int) == 0) = false := by simp; omega
    have t1 : ((x : Int) == 1) = false := by simp; omega
    have t2 : ((x : Int) == 2) = false := by simp; omega
    clear hx hx4
    go_wp2_with fail
    refine (pick_any _ R _ 60 r1 (by omega) (by omega) (by omega)).mono ?_
    rintro e w2 ⟨x2, rfl, hx2, r2, g2⟩
    have S2 := S1.later g2 hne
    have K2 := hide (grown_trans (unhide K1) g2)
    clear S1 K1 g2
    go_wp2_with fail
    refine (pick_any _ R _ 60 r2 (by omega) (by omega) (by omega)).mono ?_
    rintro e w3 ⟨x3, rfl, hx3, r3, g3⟩
    have S3 := S2.later g3 hne
    have K3 := hide (grown_trans (unhide K2) g3)
    clear S2 K2 g3
    obtain ⟨c0, c1, f0, f1, lt⟩ := S3
    go_wp2
    refine bodyPost_ret (v := .agg #[.int .i64 ((x2 : Int) - 30), .int .i64 ((x3 : Int) - 30)]) (by simp [results, Tryz.results103, go_sem, c0, c1]) rfl ⟨_, _, _, (by unfold SpanIs; omega), rfl, (r3.set (by exact hR) _).set (by exact hR) _, by omega, grown_set (grown_set (unhide K3) (Nat.le_refl _) _) (Nat.le_refl _) _⟩

end Go.Proofs.YtdklikicngmkbaaGreatDoor
