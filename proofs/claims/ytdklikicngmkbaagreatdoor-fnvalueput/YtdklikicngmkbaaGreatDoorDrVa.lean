/- Drawn values: l14ValueOf, l14Value by contracts. -/
import Derived.Test.YtdklikicngmkbaaGreatDoorH14
import Derived.Test.YtdklikicngmkbaaGreatDoorH06
import Derived.Test.YtdklikicngmkbaaGreatDoorH02
import Derived.Test.YtdklikicngmkbaaGreatDoorH03
import Derived.Test.YtdklikicngmkbaaGreatDoorH00
import Derived.Test.YtdklikicngmkbaaGreatDoorG26
namespace Go.Proofs.YtdklikicngmkbaaGreatDoor
open Go.RowKit
set_option maxRecDepth 100000
set_option linter.unusedSimpArgs false
set_option linter.unusedVariables false

theorem V9.step {w w' : World} {b : Nat} {x0 x1 x2 x3 x4 x5 x6 x7 x8 : Value} {r : Option Nat} (h : V9 w b x0 x1 x2 x3 x4 x5 x6 x7 x8) (k : w.grownBy w' r) (hr : some b ≠ r) : V9 w' b x0 x1 x2 x3 x4 x5 x6 x7 x8 := h.ofBlock (k.block b h.lt hr) k.size

/-- A value as it is drawn: ok, but for a decimal's figures. -/
def VD (V : Vl) : Prop := V = V0 ∨ (∃ y, V = V1 y) ∨ (∃ (z : Int) (sc : Nat), V = V2 (sg z) (L z.natAbs) sc ∧ (L z.natAbs).length ≤ 16 ∧ sc ≤ 12) ∨ (∃ d, V = V3 d ∧ IsDay d) ∨ (∃ mo da, V = V4 mo da ∧ SpanIs mo da) ∨ (∃ t, V = V5 t ∧ t.size ≤ 12)

/-- What a call answers that draws a value from the reader at R. -/
def DrawsVal (w : World) (R p k : Nat) (e : Ending) (w' : World) : Prop :=
  ∃ (V : Vl) (ao : Option Addr) (cap q : Nat), e = .returned (.agg #[.int .i64 V.k, .bool V.y, .bool V.n, .slice ao V.l.length cap, .int .i64 V.sc, .int .i64 V.d, .int .i64 V.mo, .int .i64 V.da, .string V.t]) ∧
    Own w.heap.size w' (.slice ao V.l.length cap) V.l ∧ VD V ∧ RD w' R q ∧ q ≤ p + k ∧ w.grownBy w' (some R)

theorem l11Bool_any (w : World) (y : Bool) : Calls Tryz.prog 127 #[.bool y] w fun e w' => e = .returned (.agg #[.int .i64 1, .bool y, .bool false, .slice none 0 0, .int .i64 0, .int .i64 0, .int .i64 0, .int .i64 0, .string ⟨#[]⟩]) ∧ Below w.heap.size w w' := by
  go_enter Tryz.func127, Tryz.ntmps127
  go_wp2
  refine bodyPost_ret (v := .agg #[.int .i64 1, .bool y, .bool false, .slice none 0 0, .int .i64 0, .int .i64 0, .int .i64 0, .int .i64 0, .string ⟨#[]⟩]) (by simp [results, Tryz.results127, go_sem]) rfl ⟨rfl, ?_⟩
  exact (Below.refl _ _).alloc (Nat.le_refl _) _

theorem l14Word_any (w : World) (R p : Nat) (hr : RD w R p) (hp : p ≤ 90000) : Calls Tryz.prog 128 #[.pointer (some ⟨R, 0, none⟩)] w fun e w' => ∃ t : ByteArray, e = .returned (.string t) ∧ t.size ≤ 12 ∧ RD w' R (p + 1) ∧ w.grownBy w' (some R) := by
  go_enter Tryz.func128, Tryz.ntmps128
  go_wp2_with fail
  refine (of_lit _ R p [⟨#[]⟩, ⟨#[97]⟩, ⟨#[98]⟩, ⟨#[97, 98]⟩, ⟨#[105, 116, 39, 115]⟩, ⟨#[39, 39]⟩, ⟨#[122, 32, 122]⟩, ⟨#[116, 114, 117, 101]⟩, ⟨#[49, 50]⟩, ⟨#[49, 46, 53, 48]⟩, ⟨#[50, 48, 50, 52, 45, 48, 50, 45, 50, 57]⟩, ⟨#[126, 126, 126, 126, 126, 126, 126, 126, 126, 126, 126, 126]⟩, ⟨#[51, 109, 45, 52, 100]⟩, ⟨#[65]⟩] _ rfl hr (by omega) (by simp) (by simp)).mono ?_
  rintro e w1 ⟨t, rfl, ht, r1, g1⟩
  have kt : t.size ≤ 12 := by
    simp only [List.mem_cons, List.not_mem_nil, or_false] at ht
    rcases ht with rfl | rfl | rfl | rfl | rfl | rfl | rfl | rfl | rfl | rfl | rfl | rfl | rfl | rfl <;> decide
  clear ht
  go_wp2
  go_ret
  exact ⟨t, rfl, kt, r1, g1⟩

set_option maxHeartbeats 4000000 in
theorem valueOf_0 (w : World) (R p : Nat) (hr : RD w R p) (hp : p ≤ 70000) : Calls Tryz.prog 79 #[.pointer (some ⟨R, 0, none⟩), .int .i64 0] w (DrawsVal w R p 220) := by
  have hR := hr.lt
  have hne : some w.heap.size ≠ some R := by simp; omega
  have K0 := V9.new w (.int .i64 0) (.bool false) (.bool false) (.slice none 0 0) (.int .i64 0) (.int .i64 0) (.int .i64 0) (.int .i64 0) (.string ⟨#[]⟩) 31
  have G0 := hide (grown_alloc w (.cells #[.int .i64 0, .bool false, .bool false, .slice none 0 0, .int .i64 0, .int .i64 0, .int .i64 0, .int .i64 0, .string ⟨#[]⟩] 31) (some R))
  have R0 := hr.alloc (.cells #[.int .i64 0, .bool false, .bool false, .slice none 0 0, .int .i64 0, .int .i64 0, .int .i64 0, .int .i64 0, .string ⟨#[]⟩] 31)
  go_enter Tryz.func79, Tryz.ntmps79
  clear G0 R0
  go_wp2
  refine bodyPost_ret (v := .agg #[.int .i64 0, .bool false, .bool false, .slice none 0 0, .int .i64 0, .int .i64 0, .int .i64 0, .int .i64 0, .string ⟨#[]⟩]) (by simp [results, Tryz.results79, go_sem]) rfl ⟨V0, none, 0, p, rfl, Own.nil _ _, .inl rfl, hr.alloc _, by omega, grown_alloc _ _ _⟩

set_option maxHeartbeats 4000000 in
theorem valueOf_1 (w : World) (R p : Nat) (hr : RD w R p) (hp : p ≤ 70000) : Calls Tryz.prog 79 #[.pointer (some ⟨R, 0, none⟩), .int .i64 1] w (DrawsVal w R p 220) := by
  have hR := hr.lt
  have hne : some w.heap.size ≠ some R := by simp; omega
  have K0 := V9.new w (.int .i64 0) (.bool false) (.bool false) (.slice none 0 0) (.int .i64 0) (.int .i64 0) (.int .i64 0) (.int .i64 0) (.string ⟨#[]⟩) 31
  have G0 := hide (grown_alloc w (.cells #[.int .i64 0, .bool false, .bool false, .slice none 0 0, .int .i64 0, .int .i64 0, .int .i64 0, .int .i64 0, .string ⟨#[]⟩] 31) (some R))
  have R0 := hr.alloc (.cells #[.int .i64 0, .bool false, .bool false, .slice none 0 0, .int .i64 0, .int .i64 0, .int .i64 0, .int .i64 0, .string ⟨#[]⟩] 31)
  go_enter Tryz.func79, Tryz.ntmps79
  go_wp2_with fail
  refine (pick_any _ R p 2 R0 (by omega) (by omega) (by omega)).mono ?_
  rintro e w1 ⟨x, rfl, hx, r1, g1⟩
  have K1 := K0.step g1 hne
  have G1 := hide (grown_trans (unhide G0) g1)
  clear hx K0 G0 R0 g1
  go_wp2_with fail
  refine (l11Bool_any _ _).mono ?_
  rintro e w2 ⟨rfl, b2⟩
  have K2 := K1.later b2
  have G2 := hide (grown_trans (unhide G1) (grown_below (r := some R) b2))
  have r2 := r1.later b2
  clear K1 G1 r1 b2
  generalize ((x : Int) == 0) = y at *
  obtain ⟨c0, c1, c2, c3, c4, c5, c6, c7, c8, f0, f1, f2, f3, f4, f5, f6, f7, f8, lt9⟩ := id K2
  go_wp2
  have R9 := (((((((((K2.put0 (.int .i64 1)).put1 (.bool y)).put2 (.bool false)).put3 (.slice none 0 0)).put4 (.int .i64 0)).put5 (.int .i64 0)).put6 (.int .i64 0)).put7 (.int .i64 0)).put8 (.string ⟨#[]⟩))
  have GG := hide (grown_set (grown_set (grown_set (grown_set (grown_set (grown_set (grown_set (grown_set (grown_set (unhide G2) (a := ⟨w.heap.size, 0, none⟩) (Nat.le_refl _) (.int .i64 1)) (a := ⟨w.heap.size, 1, none⟩) (Nat.le_refl _) (.bool y)) (a := ⟨w.heap.size, 2, none⟩) (Nat.le_refl _) (.bool false)) (a := ⟨w.heap.size, 3, none⟩) (Nat.le_refl _) (.slice none 0 0)) (a := ⟨w.heap.size, 4, none⟩) (Nat.le_refl _) (.int .i64 0)) (a := ⟨w.heap.size, 5, none⟩) (Nat.le_refl _) (.int .i64 0)) (a := ⟨w.heap.size, 6, none⟩) (Nat.le_refl _) (.int .i64 0)) (a := ⟨w.heap.size, 7, none⟩) (Nat.le_refl _) (.int .i64 0)) (a := ⟨w.heap.size, 8, none⟩) (Nat.le_refl _) (.string ⟨#[]⟩))
  have RR := (((((((((r2.set (a := ⟨w.heap.size, 0, none⟩) (by exact hR) (.int .i64 1)).set (a := ⟨w.heap.size, 1, none⟩) (by exact hR) (.bool y)).set (a := ⟨w.heap.size, 2, none⟩) (by exact hR) (.bool false)).set (a := ⟨w.heap.size, 3, none⟩) (by exact hR) (.slice none 0 0)).set (a := ⟨w.heap.size, 4, none⟩) (by exact hR) (.int .i64 0)).set (a := ⟨w.heap.size, 5, none⟩) (by exact hR) (.int .i64 0)).set (a := ⟨w.heap.size, 6, none⟩) (by exact hR) (.int .i64 0)).set (a := ⟨w.heap.size, 7, none⟩) (by exact hR) (.int .i64 0)).set (a := ⟨w.heap.size, 8, none⟩) (by exact hR) (.string ⟨#[]⟩))
  generalize (((((((((w2.setCell ⟨w.heap.size, 0, none⟩ (.int .i64 1)).setCell ⟨w.heap.size, 1, none⟩ (.bool y)).setCell ⟨w.heap.size, 2, none⟩ (.bool false)).setCell ⟨w.heap.size, 3, none⟩ (.slice none 0 0)).setCell ⟨w.heap.size, 4, none⟩ (.int .i64 0)).setCell ⟨w.heap.size, 5, none⟩ (.int .i64 0)).setCell ⟨w.heap.size, 6, none⟩ (.int .i64 0)).setCell ⟨w.heap.size, 7, none⟩ (.int .i64 0)).setCell ⟨w.heap.size, 8, none⟩ (.string ⟨#[]⟩)) = W9 at *
  obtain ⟨e0, e1, e2, e3, e4, e5, e6, e7, e8, -, -, -, -, -, -, -, -, -, -⟩ := id R9
  refine bodyPost_ret (v := .agg #[.int .i64 1, .bool y, .bool false, .slice none 0 0, .int .i64 0, .int .i64 0, .int .i64 0, .int .i64 0, .string ⟨#[]⟩]) (by simp [results, Tryz.results79, go_sem, e0, e1, e2, e3, e4, e5, e6, e7, e8]) rfl ⟨V1 y, none, 0, _, rfl, Own.nil _ _, .inr (.inl ⟨y, rfl⟩), RR, by omega, unhide GG⟩

set_option maxHeartbeats 4000000 in
theorem valueOf_2 (w : World) (R p : Nat) (hr : RD w R p) (hp : p ≤ 70000) : Calls Tryz.prog 79 #[.pointer (some ⟨R, 0, none⟩), .int .i64 2] w (DrawsVal w R p 220) := by
  have hR := hr.lt
  have hne : some w.heap.size ≠ some R := by simp; omega
  have K0 := V9.new w (.int .i64 0) (.bool false) (.bool false) (.slice none 0 0) (.int .i64 0) (.int .i64 0) (.int .i64 0) (.int .i64 0) (.string ⟨#[]⟩) 31
  have G0 := hide (grown_alloc w (.cells #[.int .i64 0, .bool false, .bool false, .slice none 0 0, .int .i64 0, .int .i64 0, .int .i64 0, .int .i64 0, .string ⟨#[]⟩] 31) (some R))
  have R0 := hr.alloc (.cells #[.int .i64 0, .bool false, .bool false, .slice none 0 0, .int .i64 0, .int .i64 0, .int .i64 0, .int .i64 0, .string ⟨#[]⟩] 31)
  go_enter Tryz.func79, Tryz.ntmps79
  go_wp2_with fail
  refine (l14Dec_any _ R p R0 (by omega)).mono ?_
  rintro e w1 ⟨z, sc, ao, cap, q, rfl, hz, hsc, o1, r1, hq, g1⟩
  have VDz := hide (show VD (V2 (sg z) (L z.natAbs) sc) from .inr (.inr (.inl ⟨z, sc, rfl, hz, hsc⟩)))
  generalize sg z = n at *
  generalize L z.natAbs = l at *
  have K1 := K0.step g1 hne
  have G1 := hide (grown_trans (unhide G0) g1)
  have o1 := o1.mono (B' := w.heap.size + 1) (by simp)
  clear hz hsc K0 G0 R0 g1
  go_wp2_with fail
  refine (l4Num_any _ n ao l.length cap sc).mono ?_
  rintro e w2 ⟨rfl, b2⟩
  have K2 := K1.later b2
  have G2 := hide (grown_trans (unhide G1) (grown_below (r := some R) b2))
  have r2 := r1.later b2
  have o2 := o1.later b2
  clear K1 G1 r1 b2 o1
  obtain ⟨c0, c1, c2, c3, c4, c5, c6, c7, c8, f0, f1, f2, f3, f4, f5, f6, f7, f8, lt9⟩ := id K2
  go_wp2
  have R9 := (((((((((K2.put0 (.int .i64 2)).put1 (.bool false)).put2 (.bool n)).put3 (.slice ao l.length cap)).put4 (.int .i64 sc)).put5 (.int .i64 0)).put6 (.int .i64 0)).put7 (.int .i64 0)).put8 (.string ⟨#[]⟩))
  have GG := hide (grown_set (grown_set (grown_set (grown_set (grown_set (grown_set (grown_set (grown_set (grown_set (unhide G2) (a := ⟨w.heap.size, 0, none⟩) (Nat.le_refl _) (.int .i64 2)) (a := ⟨w.heap.size, 1, none⟩) (Nat.le_refl _) (.bool false)) (a := ⟨w.heap.size, 2, none⟩) (Nat.le_refl _) (.bool n)) (a := ⟨w.heap.size, 3, none⟩) (Nat.le_refl _) (.slice ao l.length cap)) (a := ⟨w.heap.size, 4, none⟩) (Nat.le_refl _) (.int .i64 sc)) (a := ⟨w.heap.size, 5, none⟩) (Nat.le_refl _) (.int .i64 0)) (a := ⟨w.heap.size, 6, none⟩) (Nat.le_refl _) (.int .i64 0)) (a := ⟨w.heap.size, 7, none⟩) (Nat.le_refl _) (.int .i64 0)) (a := ⟨w.heap.size, 8, none⟩) (Nat.le_refl _) (.string ⟨#[]⟩))
  have RR := (((((((((r2.set (a := ⟨w.heap.size, 0, none⟩) (by exact hR) (.int .i64 2)).set (a := ⟨w.heap.size, 1, none⟩) (by exact hR) (.bool false)).set (a := ⟨w.heap.size, 2, none⟩) (by exact hR) (.bool n)).set (a := ⟨w.heap.size, 3, none⟩) (by exact hR) (.slice ao l.length cap)).set (a := ⟨w.heap.size, 4, none⟩) (by exact hR) (.int .i64 sc)).set (a := ⟨w.heap.size, 5, none⟩) (by exact hR) (.int .i64 0)).set (a := ⟨w.heap.size, 6, none⟩) (by exact hR) (.int .i64 0)).set (a := ⟨w.heap.size, 7, none⟩) (by exact hR) (.int .i64 0)).set (a := ⟨w.heap.size, 8, none⟩) (by exact hR) (.string ⟨#[]⟩))
  have OO := (((((((((o2.setBelow (a := ⟨w.heap.size, 0, none⟩) (Nat.lt_succ_self _) (.int .i64 2)).setBelow (a := ⟨w.heap.size, 1, none⟩) (Nat.lt_succ_self _) (.bool false)).setBelow (a := ⟨w.heap.size, 2, none⟩) (Nat.lt_succ_self _) (.bool n)).setBelow (a := ⟨w.heap.size, 3, none⟩) (Nat.lt_succ_self _) (.slice ao l.length cap)).setBelow (a := ⟨w.heap.size, 4, none⟩) (Nat.lt_succ_self _) (.int .i64 sc)).setBelow (a := ⟨w.heap.size, 5, none⟩) (Nat.lt_succ_self _) (.int .i64 0)).setBelow (a := ⟨w.heap.size, 6, none⟩) (Nat.lt_succ_self _) (.int .i64 0)).setBelow (a := ⟨w.heap.size, 7, none⟩) (Nat.lt_succ_self _) (.int .i64 0)).setBelow (a := ⟨w.heap.size, 8, none⟩) (Nat.lt_succ_self _) (.string ⟨#[]⟩))
  generalize (((((((((w2.setCell ⟨w.heap.size, 0, none⟩ (.int .i64 2)).setCell ⟨w.heap.size, 1, none⟩ (.bool false)).setCell ⟨w.heap.size, 2, none⟩ (.bool n)).setCell ⟨w.heap.size, 3, none⟩ (.slice ao l.length cap)).setCell ⟨w.heap.size, 4, none⟩ (.int .i64 sc)).setCell ⟨w.heap.size, 5, none⟩ (.int .i64 0)).setCell ⟨w.heap.size, 6, none⟩ (.int .i64 0)).setCell ⟨w.heap.size, 7, none⟩ (.int .i64 0)).setCell ⟨w.heap.size, 8, none⟩ (.string ⟨#[]⟩)) = W9 at *
  obtain ⟨e0, e1, e2, e3, e4, e5, e6, e7, e8, -, -, -, -, -, -, -, -, -, -⟩ := id R9
  refine bodyPost_ret (v := .agg #[.int .i64 2, .bool false, .bool n, .slice ao l.length cap, .int .i64 sc, .int .i64 0, .int .i64 0, .int .i64 0, .string ⟨#[]⟩]) (by simp [results, Tryz.results79, go_sem, e0, e1, e2, e3, e4, e5, e6, e7, e8]) rfl ⟨V2 n l sc, ao, cap, _, rfl, OO.mono (Nat.le_succ _), unhide VDz, RR, by omega, unhide GG⟩

set_option maxHeartbeats 4000000 in
theorem valueOf_3 (w : World) (R p : Nat) (hr : RD w R p) (hp : p ≤ 70000) : Calls Tryz.prog 79 #[.pointer (some ⟨R, 0, none⟩), .int .i64 3] w (DrawsVal w R p 220) := by
  have hR := hr.lt
  have hne : some w.heap.size ≠ some R := by simp; omega
  have K0 := V9.new w (.int .i64 0) (.bool false) (.bool false) (.slice none 0 0) (.int .i64 0) (.int .i64 0) (.int .i64 0) (.int .i64 0) (.string ⟨#[]⟩) 31
  have G0 := hide (grown_alloc w (.cells #[.int .i64 0, .bool false, .bool false, .slice none 0 0, .int .i64 0, .int .i64 0, .int .i64 0, .int .i64 0, .string ⟨#[]⟩] 31) (some R))
  have R0 := hr.alloc (.cells #[.int .i64 0, .bool false, .bool false, .slice none 0 0, .int .i64 0, .int .i64 0, .int .i64 0, .int .i64 0, .string ⟨#[]⟩] 31)
  go_enter Tryz.func79, Tryz.ntmps79
  go_wp2_with fail
  refine (l14Day_is _ R p R0 (by omega)).mono ?_
  rintro e w1 ⟨d, q, hd, rfl, r1, hq, g1⟩
  have HD := hide hd
  have K1 := K0.step g1 hne
  have G1 := hide (grown_trans (unhide G0) g1)
  clear hd K0 G0 R0 g1
  obtain ⟨c0, c1, c2, c3, c4, c5, c6, c7, c8, f0, f1, f2, f3, f4, f5, f6, f7, f8, lt9⟩ := id K1
  go_wp2
  have R9 := (((((((((K1.put0 (.int .i64 3)).put1 (.bool false)).put2 (.bool false)).put3 (.slice none 0 0)).put4 (.int .i64 0)).put5 (.int .i64 d)).put6 (.int .i64 0)).put7 (.int .i64 0)).put8 (.string ⟨#[]⟩))
  have GG := hide (grown_set (grown_set (grown_set (grown_set (grown_set (grown_set (grown_set (grown_set (grown_set (unhide G1) (a := ⟨w.heap.size, 0, none⟩) (Nat.le_refl _) (.int .i64 3)) (a := ⟨w.heap.size, 1, none⟩) (Nat.le_refl _) (.bool false)) (a := ⟨w.heap.size, 2, none⟩) (Nat.le_refl _) (.bool false)) (a := ⟨w.heap.size, 3, none⟩) (Nat.le_refl _) (.slice none 0 0)) (a := ⟨w.heap.size, 4, none⟩) (Nat.le_refl _) (.int .i64 0)) (a := ⟨w.heap.size, 5, none⟩) (Nat.le_refl _) (.int .i64 d)) (a := ⟨w.heap.size, 6, none⟩) (Nat.le_refl _) (.int .i64 0)) (a := ⟨w.heap.size, 7, none⟩) (Nat.le_refl _) (.int .i64 0)) (a := ⟨w.heap.size, 8, none⟩) (Nat.le_refl _) (.string ⟨#[]⟩))
  have RR := (((((((((r1.set (a := ⟨w.heap.size, 0, none⟩) (by exact hR) (.int .i64 3)).set (a := ⟨w.heap.size, 1, none⟩) (by exact hR) (.bool false)).set (a := ⟨w.heap.size, 2, none⟩) (by exact hR) (.bool false)).set (a := ⟨w.heap.size, 3, none⟩) (by exact hR) (.slice none 0 0)).set (a := ⟨w.heap.size, 4, none⟩) (by exact hR) (.int .i64 0)).set (a := ⟨w.heap.size, 5, none⟩) (by exact hR) (.int .i64 d)).set (a := ⟨w.heap.size, 6, none⟩) (by exact hR) (.int .i64 0)).set (a := ⟨w.heap.size, 7, none⟩) (by exact hR) (.int .i64 0)).set (a := ⟨w.heap.size, 8, none⟩) (by exact hR) (.string ⟨#[]⟩))
  generalize (((((((((w1.setCell ⟨w.heap.size, 0, none⟩ (.int .i64 3)).setCell ⟨w.heap.size, 1, none⟩ (.bool false)).setCell ⟨w.heap.size, 2, none⟩ (.bool false)).setCell ⟨w.heap.size, 3, none⟩ (.slice none 0 0)).setCell ⟨w.heap.size, 4, none⟩ (.int .i64 0)).setCell ⟨w.heap.size, 5, none⟩ (.int .i64 d)).setCell ⟨w.heap.size, 6, none⟩ (.int .i64 0)).setCell ⟨w.heap.size, 7, none⟩ (.int .i64 0)).setCell ⟨w.heap.size, 8, none⟩ (.string ⟨#[]⟩)) = W9 at *
  obtain ⟨e0, e1, e2, e3, e4, e5, e6, e7, e8, -, -, -, -, -, -, -, -, -, -⟩ := id R9
  refine bodyPost_ret (v := .agg #[.int .i64 3, .bool false, .bool false, .slice none 0 0, .int .i64 0, .int .i64 d, .int .i64 0, .int .i64 0, .string ⟨#[]⟩]) (by simp [results, Tryz.results79, go_sem, e0, e1, e2, e3, e4, e5, e6, e7, e8]) rfl ⟨V3 d, none, 0, _, rfl, Own.nil _ _, .inr (.inr (.inr (.inl ⟨d, rfl, unhide HD⟩))), RR, by omega, unhide GG⟩

set_option maxHeartbeats 4000000 in
theorem valueOf_4 (w : World) (R p : Nat) (hr : RD w R p) (hp : p ≤ 70000) : Calls Tryz.prog 79 #[.pointer (some ⟨R, 0, none⟩), .int .i64 4] w (DrawsVal w R p 220) := by
  have hR := hr.lt
  have hne : some w.heap.size ≠ some R := by simp; omega
  have K0 := V9.new w (.int .i64 0) (.bool false) (.bool false) (.slice none 0 0) (.int .i64 0) (.int .i64 0) (.int .i64 0) (.int .i64 0) (.string ⟨#[]⟩) 31
  have G0 := hide (grown_alloc w (.cells #[.int .i64 0, .bool false, .bool false, .slice none 0 0, .int .i64 0, .int .i64 0, .int .i64 0, .int .i64 0, .string ⟨#[]⟩] 31) (some R))
  have R0 := hr.alloc (.cells #[.int .i64 0, .bool false, .bool false, .slice none 0 0, .int .i64 0, .int .i64 0, .int .i64 0, .int .i64 0, .string ⟨#[]⟩] 31)
  go_enter Tryz.func79, Tryz.ntmps79
  go_wp2_with fail
  refine (l14Span_is _ R p R0 (by omega)).mono ?_
  rintro e w1 ⟨mo, da, q, hd, rfl, r1, hq, g1⟩
  have HD := hide hd
  have K1 := K0.step g1 hne
  have G1 := hide (grown_trans (unhide G0) g1)
  clear hd K0 G0 R0 g1
  obtain ⟨c0, c1, c2, c3, c4, c5, c6, c7, c8, f0, f1, f2, f3, f4, f5, f6, f7, f8, lt9⟩ := id K1
  go_wp2
  have R9 := (((((((((K1.put0 (.int .i64 4)).put1 (.bool false)).put2 (.bool false)).put3 (.slice none 0 0)).put4 (.int .i64 0)).put5 (.int .i64 0)).put6 (.int .i64 mo)).put7 (.int .i64 da)).put8 (.string ⟨#[]⟩))
  have GG := hide (grown_set (grown_set (grown_set (grown_set (grown_set (grown_set (grown_set (grown_set (grown_set (unhide G1) (a := ⟨w.heap.size, 0, none⟩) (Nat.le_refl _) (.int .i64 4)) (a := ⟨w.heap.size, 1, none⟩) (Nat.le_refl _) (.bool false)) (a := ⟨w.heap.size, 2, none⟩) (Nat.le_refl _) (.bool false)) (a := ⟨w.heap.size, 3, none⟩) (Nat.le_refl _) (.slice none 0 0)) (a := ⟨w.heap.size, 4, none⟩) (Nat.le_refl _) (.int .i64 0)) (a := ⟨w.heap.size, 5, none⟩) (Nat.le_refl _) (.int .i64 0)) (a := ⟨w.heap.size, 6, none⟩) (Nat.le_refl _) (.int .i64 mo)) (a := ⟨w.heap.size, 7, none⟩) (Nat.le_refl _) (.int .i64 da)) (a := ⟨w.heap.size, 8, none⟩) (Nat.le_refl _) (.string ⟨#[]⟩))
  have RR := (((((((((r1.set (a := ⟨w.heap.size, 0, none⟩) (by exact hR) (.int .i64 4)).set (a := ⟨w.heap.size, 1, none⟩) (by exact hR) (.bool false)).set (a := ⟨w.heap.size, 2, none⟩) (by exact hR) (.bool false)).set (a := ⟨w.heap.size, 3, none⟩) (by exact hR) (.slice none 0 0)).set (a := ⟨w.heap.size, 4, none⟩) (by exact hR) (.int .i64 0)).set (a := ⟨w.heap.size, 5, none⟩) (by exact hR) (.int .i64 0)).set (a := ⟨w.heap.size, 6, none⟩) (by exact hR) (.int .i64 mo)).set (a := ⟨w.heap.size, 7, none⟩) (by exact hR) (.int .i64 da)).set (a := ⟨w.heap.size, 8, none⟩) (by exact hR) (.string ⟨#[]⟩))
  generalize (((((((((w1.setCell ⟨w.heap.size, 0, none⟩ (.int .i64 4)).setCell ⟨w.heap.size, 1, none⟩ (.bool false)).setCell ⟨w.heap.size, 2, none⟩ (.bool false)).setCell ⟨w.heap.size, 3, none⟩ (.slice none 0 0)).setCell ⟨w.heap.size, 4, none⟩ (.int .i64 0)).setCell ⟨w.heap.size, 5, none⟩ (.int .i64 0)).setCell ⟨w.heap.size, 6, none⟩ (.int .i64 mo)).setCell ⟨w.heap.size, 7, none⟩ (.int .i64 da)).setCell ⟨w.heap.size, 8, none⟩ (.string ⟨#[]⟩)) = W9 at *
  obtain ⟨e0, e1, e2, e3, e4, e5, e6, e7, e8, -, -, -, -, -, -, -, -, -, -⟩ := id R9
  refine bodyPost_ret (v := .agg #[.int .i64 4, .bool false, .bool false, .slice none 0 0, .int .i64 0, .int .i64 0, .int .i64 mo, .int .i64 da, .string ⟨#[]⟩]) (by simp [results, Tryz.results79, go_sem, e0, e1, e2, e3, e4, e5, e6, e7, e8]) rfl ⟨V4 mo da, none, 0, _, rfl, Own.nil _ _, .inr (.inr (.inr (.inr (.inl ⟨mo, da, rfl, unhide HD⟩)))), RR, by omega, unhide GG⟩

set_option maxHeartbeats 4000000 in
theorem valueOf_5 (w : World) (R p : Nat) (hr : RD w R p) (hp : p ≤ 70000) : Calls Tryz.prog 79 #[.pointer (some ⟨R, 0, none⟩), .int .i64 5] w (DrawsVal w R p 220) := by
  have hR := hr.lt
  have hne : some w.heap.size ≠ some R := by simp; omega
  have K0 := V9.new w (.int .i64 0) (.bool false) (.bool false) (.slice none 0 0) (.int .i64 0) (.int .i64 0) (.int .i64 0) (.int .i64 0) (.string ⟨#[]⟩) 31
  have G0 := hide (grown_alloc w (.cells #[.int .i64 0, .bool false, .bool false, .slice none 0 0, .int .i64 0, .int .i64 0, .int .i64 0, .int .i64 0, .string ⟨#[]⟩] 31) (some R))
  have R0 := hr.alloc (.cells #[.int .i64 0, .bool false, .bool false, .slice none 0 0, .int .i64 0, .int .i64 0, .int .i64 0, .int .i64 0, .string ⟨#[]⟩] 31)
  go_enter Tryz.func79, Tryz.ntmps79
  go_wp2_with fail
  refine (l14Word_any _ R p R0 (by omega)).mono ?_
  rintro e w1 ⟨t, rfl, ht, r1, g1⟩
  have K1 := K0.step g1 hne
  have G1 := hide (grown_trans (unhide G0) g1)
  clear K0 G0 R0 g1
  obtain ⟨c0, c1, c2, c3, c4, c5, c6, c7, c8, f0, f1, f2, f3, f4, f5, f6, f7, f8, lt9⟩ := id K1
  go_wp2
  have R9 := (((((((((K1.put0 (.int .i64 5)).put1 (.bool false)).put2 (.bool false)).put3 (.slice none 0 0)).put4 (.int .i64 0)).put5 (.int .i64 0)).put6 (.int .i64 0)).put7 (.int .i64 0)).put8 (.string t))
  have GG := hide (grown_set (grown_set (grown_set (grown_set (grown_set (grown_set (grown_set (grown_set (grown_set (unhide G1) (a := ⟨w.heap.size, 0, none⟩) (Nat.le_refl _) (.int .i64 5)) (a := ⟨w.heap.size, 1, none⟩) (Nat.le_refl _) (.bool false)) (a := ⟨w.heap.size, 2, none⟩) (Nat.le_refl _) (.bool false)) (a := ⟨w.heap.size, 3, none⟩) (Nat.le_refl _) (.slice none 0 0)) (a := ⟨w.heap.size, 4, none⟩) (Nat.le_refl _) (.int .i64 0)) (a := ⟨w.heap.size, 5, none⟩) (Nat.le_refl _) (.int .i64 0)) (a := ⟨w.heap.size, 6, none⟩) (Nat.le_refl _) (.int .i64 0)) (a := ⟨w.heap.size, 7, none⟩) (Nat.le_refl _) (.int .i64 0)) (a := ⟨w.heap.size, 8, none⟩) (Nat.le_refl _) (.string t))
  have RR := (((((((((r1.set (a := ⟨w.heap.size, 0, none⟩) (by exact hR) (.int .i64 5)).set (a := ⟨w.heap.size, 1, none⟩) (by exact hR) (.bool false)).set (a := ⟨w.heap.size, 2, none⟩) (by exact hR) (.bool false)).set (a := ⟨w.heap.size, 3, none⟩) (by exact hR) (.slice none 0 0)).set (a := ⟨w.heap.size, 4, none⟩) (by exact hR) (.int .i64 0)).set (a := ⟨w.heap.size, 5, none⟩) (by exact hR) (.int .i64 0)).set (a := ⟨w.heap.size, 6, none⟩) (by exact hR) (.int .i64 0)).set (a := ⟨w.heap.size, 7, none⟩) (by exact hR) (.int .i64 0)).set (a := ⟨w.heap.size, 8, none⟩) (by exact hR) (.string t))
  generalize (((((((((w1.setCell ⟨w.heap.size, 0, none⟩ (.int .i64 5)).setCell ⟨w.heap.size, 1, none⟩ (.bool false)).setCell ⟨w.heap.size, 2, none⟩ (.bool false)).setCell ⟨w.heap.size, 3, none⟩ (.slice none 0 0)).setCell ⟨w.heap.size, 4, none⟩ (.int .i64 0)).setCell ⟨w.heap.size, 5, none⟩ (.int .i64 0)).setCell ⟨w.heap.size, 6, none⟩ (.int .i64 0)).setCell ⟨w.heap.size, 7, none⟩ (.int .i64 0)).setCell ⟨w.heap.size, 8, none⟩ (.string t)) = W9 at *
  obtain ⟨e0, e1, e2, e3, e4, e5, e6, e7, e8, -, -, -, -, -, -, -, -, -, -⟩ := id R9
  refine bodyPost_ret (v := .agg #[.int .i64 5, .bool false, .bool false, .slice none 0 0, .int .i64 0, .int .i64 0, .int .i64 0, .int .i64 0, .string t]) (by simp [results, Tryz.results79, go_sem, e0, e1, e2, e3, e4, e5, e6, e7, e8]) rfl ⟨V5 t, none, 0, _, rfl, Own.nil _ _, .inr (.inr (.inr (.inr (.inr ⟨t, rfl, ht⟩)))), RR, by omega, unhide GG⟩

theorem l14ValueOf_any (w : World) (R p : Nat) (k : Int) (h0 : 0 ≤ k) (h5 : k ≤ 5) (hr : RD w R p) (hp : p ≤ 70000) : Calls Tryz.prog 79 #[.pointer (some ⟨R, 0, none⟩), .int .i64 k] w (DrawsVal w R p 220) := by
  have hk : k = 0 ∨ k = 1 ∨ k = 2 ∨ k = 3 ∨ k = 4 ∨ k = 5 := by omega
  rcases hk with rfl | rfl | rfl | rfl | rfl | rfl
  · exact valueOf_0 w R p hr hp
  · exact valueOf_1 w R p hr hp
  · exact valueOf_2 w R p hr hp
  · exact valueOf_3 w R p hr hp
  · exact valueOf_4 w R p hr hp
  · exact valueOf_5 w R p hr hp

set_option maxHeartbeats 4000000 in
theorem l14Value_any (w : World) (R p : Nat) (hr : RD w R p) (hp : p ≤ 60000) : Calls Tryz.prog 41 #[.pointer (some ⟨R, 0, none⟩)] w (DrawsVal w R p 221) := by
  have hR := hr.lt
  have hne : some w.heap.size ≠ some R := by simp; omega
  have K0 := V9.new w (.int .i64 0) (.bool false) (.bool false) (.slice none 0 0) (.int .i64 0) (.int .i64 0) (.int .i64 0) (.int .i64 0) (.string ⟨#[]⟩) 31
  have G0 := hide (grown_alloc w (.cells #[.int .i64 0, .bool false, .bool false, .slice none 0 0, .int .i64 0, .int .i64 0, .int .i64 0, .int .i64 0, .string ⟨#[]⟩] 31) (some R))
  have R0 := hr.alloc (.cells #[.int .i64 0, .bool false, .bool false, .slice none 0 0, .int .i64 0, .int .i64 0, .int .i64 0, .int .i64 0, .string ⟨#[]⟩] 31)
  go_enter Tryz.func41, Tryz.ntmps41
  go_wp2_with fail
  refine (pick_any _ R p 6 R0 (by omega) (by omega) (by omega)).mono ?_
  rintro e w1 ⟨x, rfl, hx, r1, g1⟩
  have K1 := K0.step g1 hne
  have G1 := hide (grown_trans (unhide G0) g1)
  have z1 := g1.size
  simp only [World.size_alloc] at z1
  have CV := hide (l14ValueOf_any w1 R (p + 1) (x : Int) (by omega) (by omega) r1 (by omega))
  clear K0 G0 R0 g1 hx
  go_wp2_with fail
  refine (unhide CV).mono ?_
  rintro e w2 ⟨⟨k, y, n, l, sc, d, mo, da, t⟩, ao, cap, q, rfl, o2, vd, r2, hq, g2⟩
  have VDz := hide vd
  have K2 := K1.step g2 hne
  have G2 := hide (grown_trans (unhide G1) g2)
  have o2 := o2.mono (B' := w.heap.size + 1) (by omega)
  clear CV K1 G1 r1 g2 vd
  obtain ⟨c0, c1, c2, c3, c4, c5, c6, c7, c8, f0, f1, f2, f3, f4, f5, f6, f7, f8, lt9⟩ := id K2
  go_wp2
  have R9 := (((((((((K2.put0 (.int .i64 k)).put1 (.bool y)).put2 (.bool n)).put3 (.slice ao l.length cap)).put4 (.int .i64 sc)).put5 (.int .i64 d)).put6 (.int .i64 mo)).put7 (.int .i64 da)).put8 (.string t))
  have GG := hide (grown_set (grown_set (grown_set (grown_set (grown_set (grown_set (grown_set (grown_set (grown_set (unhide G2) (a := ⟨w.heap.size, 0, none⟩) (Nat.le_refl _) (.int .i64 k)) (a := ⟨w.heap.size, 1, none⟩) (Nat.le_refl _) (.bool y)) (a := ⟨w.heap.size, 2, none⟩) (Nat.le_refl _) (.bool n)) (a := ⟨w.heap.size, 3, none⟩) (Nat.le_refl _) (.slice ao l.length cap)) (a := ⟨w.heap.size, 4, none⟩) (Nat.le_refl _) (.int .i64 sc)) (a := ⟨w.heap.size, 5, none⟩) (Nat.le_refl _) (.int .i64 d)) (a := ⟨w.heap.size, 6, none⟩) (Nat.le_refl _) (.int .i64 mo)) (a := ⟨w.heap.size, 7, none⟩) (Nat.le_refl _) (.int .i64 da)) (a := ⟨w.heap.size, 8, none⟩) (Nat.le_refl _) (.string t))
  have RR := (((((((((r2.set (a := ⟨w.heap.size, 0, none⟩) (by exact hR) (.int .i64 k)).set (a := ⟨w.heap.size, 1, none⟩) (by exact hR) (.bool y)).set (a := ⟨w.heap.size, 2, none⟩) (by exact hR) (.bool n)).set (a := ⟨w.heap.size, 3, none⟩) (by exact hR) (.slice ao l.length cap)).set (a := ⟨w.heap.size, 4, none⟩) (by exact hR) (.int .i64 sc)).set (a := ⟨w.heap.size, 5, none⟩) (by exact hR) (.int .i64 d)).set (a := ⟨w.heap.size, 6, none⟩) (by exact hR) (.int .i64 mo)).set (a := ⟨w.heap.size, 7, none⟩) (by exact hR) (.int .i64 da)).set (a := ⟨w.heap.size, 8, none⟩) (by exact hR) (.string t))
  have OO := (((((((((o2.setBelow (a := ⟨w.heap.size, 0, none⟩) (Nat.lt_succ_self _) (.int .i64 k)).setBelow (a := ⟨w.heap.size, 1, none⟩) (Nat.lt_succ_self _) (.bool y)).setBelow (a := ⟨w.heap.size, 2, none⟩) (Nat.lt_succ_self _) (.bool n)).setBelow (a := ⟨w.heap.size, 3, none⟩) (Nat.lt_succ_self _) (.slice ao l.length cap)).setBelow (a := ⟨w.heap.size, 4, none⟩) (Nat.lt_succ_self _) (.int .i64 sc)).setBelow (a := ⟨w.heap.size, 5, none⟩) (Nat.lt_succ_self _) (.int .i64 d)).setBelow (a := ⟨w.heap.size, 6, none⟩) (Nat.lt_succ_self _) (.int .i64 mo)).setBelow (a := ⟨w.heap.size, 7, none⟩) (Nat.lt_succ_self _) (.int .i64 da)).setBelow (a := ⟨w.heap.size, 8, none⟩) (Nat.lt_succ_self _) (.string t))
  generalize (((((((((w2.setCell ⟨w.heap.size, 0, none⟩ (.int .i64 k)).setCell ⟨w.heap.size, 1, none⟩ (.bool y)).setCell ⟨w.heap.size, 2, none⟩ (.bool n)).setCell ⟨w.heap.size, 3, none⟩ (.slice ao l.length cap)).setCell ⟨w.heap.size, 4, none⟩ (.int .i64 sc)).setCell ⟨w.heap.size, 5, none⟩ (.int .i64 d)).setCell ⟨w.heap.size, 6, none⟩ (.int .i64 mo)).setCell ⟨w.heap.size, 7, none⟩ (.int .i64 da)).setCell ⟨w.heap.size, 8, none⟩ (.string t)) = W9 at *
  obtain ⟨e0, e1, e2, e3, e4, e5, e6, e7, e8, -, -, -, -, -, -, -, -, -, -⟩ := id R9
  refine bodyPost_ret (v := .agg #[.int .i64 k, .bool y, .bool n, .slice ao l.length cap, .int .i64 sc, .int .i64 d, .int .i64 mo, .int .i64 da, .string t]) (by simp [results, Tryz.results41, go_sem, e0, e1, e2, e3, e4, e5, e6, e7, e8]) rfl ⟨⟨k, y, n, l, sc, d, mo, da, t⟩, ao, cap, _, rfl, OO.mono (Nat.le_succ _), unhide VDz, RR, by omega, unhide GG⟩

end Go.Proofs.YtdklikicngmkbaaGreatDoor
