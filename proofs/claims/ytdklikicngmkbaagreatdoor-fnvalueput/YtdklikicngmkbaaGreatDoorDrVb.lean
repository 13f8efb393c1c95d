/- Drawn values that may be none: l14AnyValue, DrawValuePut by contracts. -/
import Derived.Test.YtdklikicngmkbaaGreatDoorDrVa
import Derived.Test.YtdklikicngmkbaaGreatDoorH08
namespace Go.Proofs.YtdklikicngmkbaaGreatDoor
open Go.RowKit
set_option maxRecDepth 100000
set_option linter.unusedSimpArgs false
set_option linter.unusedVariables false

/-- What a call answers that draws a value, ok or not, from the reader at R. -/
def DrawsAnyV (w : World) (R p k : Nat) (e : Ending) (w' : World) : Prop :=
  ∃ (V : Vl) (ao : Option Addr) (cap q : Nat), e = .returned (.agg #[.int .i64 V.k, .bool V.y, .bool V.n, .slice ao V.l.length cap, .int .i64 V.sc, .int .i64 V.d, .int .i64 V.mo, .int .i64 V.da, .string V.t]) ∧
    Own w.heap.size w' (.slice ao V.l.length cap) V.l ∧ V.l.length ≤ 17 ∧ V.t.size ≤ 20 ∧ RD w' R q ∧ q ≤ p + k ∧ w.grownBy w' (some R)

theorem vd_len {V : Vl} (h : VD V) : V.l.length ≤ 16 ∧ V.t.size ≤ 12 := by
  rcases h with rfl | ⟨y, rfl⟩ | ⟨z, sc, rfl, h, -⟩ | ⟨d, rfl, -⟩ | ⟨mo, da, rfl, -⟩ | ⟨t, rfl, h⟩
  · exact ⟨Nat.zero_le _, Nat.zero_le _⟩
  · exact ⟨Nat.zero_le _, Nat.zero_le _⟩
  · exact ⟨h, Nat.zero_le _⟩
  · exact ⟨Nat.zero_le _, Nat.zero_le _⟩
  · exact ⟨Nat.zero_le _, Nat.zero_le _⟩
  · exact ⟨Nat.zero_le _, h⟩

set_option maxHeartbeats 8000000 in
theorem l14AnyValue_any (w : World) (R p : Nat) (hr : RD w R p) (hp : p ≤ 50000) : Calls Tryz.prog 29 #[.pointer (some ⟨R, 0, none⟩)] w (DrawsAnyV w R p 2000) := by
  have hR := hr.lt
  have hne : some w.heap.size ≠ some R := by simp; omega
  have K0 := V9.new w (.int .i64 0) (.bool false) (.bool false) (.slice none 0 0) (.int .i64 0) (.int .i64 0) (.int .i64 0) (.int .i64 0) (.string ⟨#[]⟩) 31
  have G0 := hide (grown_alloc w (.cells #[.int .i64 0, .bool false, .bool false, .slice none 0 0, .int .i64 0, .int .i64 0, .int .i64 0, .int .i64 0, .string ⟨#[]⟩] 31) (some R))
  have R0 := hr.alloc (.cells #[.int .i64 0, .bool false, .bool false, .slice none 0 0, .int .i64 0, .int .i64 0, .int .i64 0, .int .i64 0, .string ⟨#[]⟩] 31)
  go_enter Tryz.func29, Tryz.ntmps29
  go_wp2_with fail
  refine (l14Value_any _ R p R0 (by omega)).mono ?_
  rintro e w1 ⟨⟨k, y, n, l, sc, d, mo, da, t⟩, ao, cap, q, rfl, o1, vd, r1, hq, g1⟩
  obtain ⟨hl16, ht12⟩ := vd_len vd
  simp only at hl16 ht12 o1
  have z1 := g1.size
  simp only [World.size_alloc] at z1
  have lo := o1.lt
  have BX : Value := .bool true
  have T1 := V9.new w1 (.int .i64 k) (.bool y) (.bool n) (.slice ao l.length cap) (.int .i64 sc) (.int .i64 d) (.int .i64 mo) (.int .i64 da) (.string t) 31
  have K1 := (K0.step g1 hne).later ((Below.refl _ _).alloc (Nat.le_refl _) (.cells #[.int .i64 k, .bool y, .bool n, .slice ao l.length cap, .int .i64 sc, .int .i64 d, .int .i64 mo, .int .i64 da, .string t] 31))
  have G1 := hide (grown_trans (grown_trans (unhide G0) g1) (grown_alloc w1 (.cells #[.int .i64 k, .bool y, .bool n, .slice ao l.length cap, .int .i64 sc, .int .i64 d, .int .i64 mo, .int .i64 da, .string t] 31) _))
  have r1 := r1.alloc (.cells #[.int .i64 k, .bool y, .bool n, .slice ao l.length cap, .int .i64 sc, .int .i64 d, .int .i64 mo, .int .i64 da, .string t] 31)
  have o1 := (o1.later ((Below.refl _ _).alloc (Nat.le_refl _) (.cells #[.int .i64 k, .bool y, .bool n, .slice ao l.length cap, .int .i64 sc, .int .i64 d, .int .i64 mo, .int .i64 da, .string t] 31))).mono (B' := w.heap.size + 1) (by simp)
  have hnf : some w1.heap.size ≠ some R := by simp; omega
  have hob : ∀ j, (Value.slice ao l.length cap).ownBlock = some j → j < w1.heap.size := fun j hj => (lo j hj).2
  clear K0 G0 R0 g1 vd lo BX
  go_wp2_with fail
  refine (pick_any _ R q 30 r1 (by omega) (by omega) (by omega)).mono ?_
  rintro e w2 ⟨x, rfl, hx, r2, g2⟩
  have z2 := g2.size
  simp only [World.size_alloc] at z2
  have K2 := K1.step g2 hne
  have T2 := T1.step g2 hnf
  have G2 := hide (grown_trans (unhide G1) g2)
  have o2 := o1.grown g2 (by omega)
  clear K1 T1 G1 r1 g2 o1
  have hx' : x = 0 ∨ x = 1 ∨ x = 2 ∨ x = 3 ∨ x = 4 ∨ x = 5 ∨ 6 ≤ x := by omega
  rcases hx' with rfl | rfl | rfl | rfl | rfl | rfl | hx6
  · clear hx
    have HL := hide (show l.length ≤ 17 by omega)
    have HT := hide (show t.size ≤ 20 by omega)
    have T2 := hide T2
    have K2 := hide K2
    go_wp2_with fail
    refine (one_lit _ R _ [-1, 6, 1, 2] _ rfl r2 (by omega) (by simp) (by simp)).mono ?_
    rintro e w3 ⟨z, rfl, hz, r3, g3⟩
    clear hz
    have T3 := ((unhide T2).step g3 hnf).put0 (.int .i64 z)
    have K3 := ((unhide K2).step g3 hne).other (a := ⟨w1.heap.size, 0, none⟩) (by simp; omega) (.int .i64 z)
    have G3 := hide (grown_set (grown_trans (unhide G2) g3) (a := ⟨w1.heap.size, 0, none⟩) (by simp only; omega) (.int .i64 z))
    have R3 := r3.set (a := ⟨w1.heap.size, 0, none⟩) (by simp only; omega) (.int .i64 z)
    have o3 := (o2.grown g3 (by omega)).setOther (a := ⟨w1.heap.size, 0, none⟩) (fun e => by have := hob _ e; simp only at this; omega) (.int .i64 z)
    have TT := (unhide T2).step g3 hnf
    clear K2 T2 G2 r2 g3 r3 o2
    obtain ⟨-, -, -, -, -, -, -, -, -, v0, v1, v2, v3, v4, v5, v6, v7, v8, lu9⟩ := id TT
    obtain ⟨u0, u1, u2, u3, u4, u5, u6, u7, u8, -, -, -, -, -, -, -, -, -, -⟩ := id TT
    obtain ⟨c0, c1, c2, c3, c4, c5, c6, c7, c8, f0, f1, f2, f3, f4, f5, f6, f7, f8, lt9⟩ := id K3
    go_wp2
    have R9 := (((((((((K3.put0 (.int .i64 z)).put1 (.bool y)).put2 (.bool n)).put3 (.slice ao l.length cap)).put4 (.int .i64 sc)).put5 (.int .i64 d)).put6 (.int .i64 mo)).put7 (.int .i64 da)).put8 (.string t))
    have GG := hide (grown_set (grown_set (grown_set (grown_set (grown_set (grown_set (grown_set (grown_set (grown_set (unhide G3) (a := ⟨w.heap.size, 0, none⟩) (Nat.le_refl _) (.int .i64 z)) (a := ⟨w.heap.size, 1, none⟩) (Nat.le_refl _) (.bool y)) (a := ⟨w.heap.size, 2, none⟩) (Nat.le_refl _) (.bool n)) (a := ⟨w.heap.size, 3, none⟩) (Nat.le_refl _) (.slice ao l.length cap)) (a := ⟨w.heap.size, 4, none⟩) (Nat.le_refl _) (.int .i64 sc)) (a := ⟨w.heap.size, 5, none⟩) (Nat.le_refl _) (.int .i64 d)) (a := ⟨w.heap.size, 6, none⟩) (Nat.le_refl _) (.int .i64 mo)) (a := ⟨w.heap.size, 7, none⟩) (Nat.le_refl _) (.int .i64 da)) (a := ⟨w.heap.size, 8, none⟩) (Nat.le_refl _) (.string t))
    have RR := (((((((((R3.set (a := ⟨w.heap.size, 0, none⟩) (by exact hR) (.int .i64 z)).set (a := ⟨w.heap.size, 1, none⟩) (by exact hR) (.bool y)).set (a := ⟨w.heap.size, 2, none⟩) (by exact hR) (.bool n)).set (a := ⟨w.heap.size, 3, none⟩) (by exact hR) (.slice ao l.length cap)).set (a := ⟨w.heap.size, 4, none⟩) (by exact hR) (.int .i64 sc)).set (a := ⟨w.heap.size, 5, none⟩) (by exact hR) (.int .i64 d)).set (a := ⟨w.heap.size, 6, none⟩) (by exact hR) (.int .i64 mo)).set (a := ⟨w.heap.size, 7, none⟩) (by exact hR) (.int .i64 da)).set (a := ⟨w.heap.size, 8, none⟩) (by exact hR) (.string t))
    have OO := (((((((((o3.setBelow (a := ⟨w.heap.size, 0, none⟩) (Nat.lt_succ_self _) (.int .i64 z)).setBelow (a := ⟨w.heap.size, 1, none⟩) (Nat.lt_succ_self _) (.bool y)).setBelow (a := ⟨w.heap.size, 2, none⟩) (Nat.lt_succ_self _) (.bool n)).setBelow (a := ⟨w.heap.size, 3, none⟩) (Nat.lt_succ_self _) (.slice ao l.length cap)).setBelow (a := ⟨w.heap.size, 4, none⟩) (Nat.lt_succ_self _) (.int .i64 sc)).setBelow (a := ⟨w.heap.size, 5, none⟩) (Nat.lt_succ_self _) (.int .i64 d)).setBelow (a := ⟨w.heap.size, 6, none⟩) (Nat.lt_succ_self _) (.int .i64 mo)).setBelow (a := ⟨w.heap.size, 7, none⟩) (Nat.lt_succ_self _) (.int .i64 da)).setBelow (a := ⟨w.heap.size, 8, none⟩) (Nat.lt_succ_self _) (.string t))
    generalize ((((((((((w3.setCell ⟨w1.heap.size, 0, none⟩ (.int .i64 z)).setCell ⟨w.heap.size, 0, none⟩ (.int .i64 z)).setCell ⟨w.heap.size, 1, none⟩ (.bool y)).setCell ⟨w.heap.size, 2, none⟩ (.bool n)).setCell ⟨w.heap.size, 3, none⟩ (.slice ao l.length cap)).setCell ⟨w.heap.size, 4, none⟩ (.int .i64 sc)).setCell ⟨w.heap.size, 5, none⟩ (.int .i64 d)).setCell ⟨w.heap.size, 6, none⟩ (.int .i64 mo)).setCell ⟨w.heap.size, 7, none⟩ (.int .i64 da)).setCell ⟨w.heap.size, 8, none⟩ (.string t)) = W9 at *
    obtain ⟨e0, e1, e2, e3, e4, e5, e6, e7, e8, -, -, -, -, -, -, -, -, -, -⟩ := id R9
    refine bodyPost_ret (v := .agg #[.int .i64 z, .bool y, .bool n, .slice ao l.length cap, .int .i64 sc, .int .i64 d, .int .i64 mo, .int .i64 da, .string t]) (by simp [results, Tryz.results29, go_sem, e0, e1, e2, e3, e4, e5, e6, e7, e8]) rfl ⟨⟨z, y, n, l, sc, d, mo, da, t⟩, ao, cap, _, rfl, OO.mono (Nat.le_succ _), by first | exact unhide HL | simp; omega, by first | exact unhide HT | simp; omega, RR, by omega, unhide GG⟩
  · clear hx
    have HL := hide (show l.length ≤ 17 by omega)
    have HT := hide (show t.size ≤ 20 by omega)
    have T2 := hide T2
    have K2 := hide K2
    go_wp2_with fail
    refine (of_lit _ R _ [⟨#[116, 104, 105, 114, 116, 101, 101, 110, 32, 98, 121, 116, 101]⟩, ⟨#[97, 10]⟩, ⟨#[127]⟩, ⟨#[120]⟩] _ rfl r2 (by omega) (by simp) (by simp)).mono ?_
    rintro e w3 ⟨z, rfl, hz, r3, g3⟩
    have HT := hide (show z.size ≤ 20 by
      simp only [List.mem_cons, List.not_mem_nil, or_false] at hz
      rcases hz with rfl | rfl | rfl | rfl <;> decide)
    clear hz
    have T3 := ((unhide T2).step g3 hnf).put8 (.string z)
    have K3 := ((unhide K2).step g3 hne).other (a := ⟨w1.heap.size, 8, none⟩) (by simp; omega) (.string z)
    have G3 := hide (grown_set (grown_trans (unhide G2) g3) (a := ⟨w1.heap.size, 8, none⟩) (by simp only; omega) (.string z))
    have R3 := r3.set (a := ⟨w1.heap.size, 8, none⟩) (by simp only; omega) (.string z)
    have o3 := (o2.grown g3 (by omega)).setOther (a := ⟨w1.heap.size, 8, none⟩) (fun e => by have := hob _ e; simp only at this; omega) (.string z)
    have TT := (unhide T2).step g3 hnf
    clear K2 T2 G2 r2 g3 r3 o2
    obtain ⟨-, -, -, -, -, -, -, -, -, v0, v1, v2, v3, v4, v5, v6, v7, v8, lu9⟩ := id TT
    obtain ⟨u0, u1, u2, u3, u4, u5, u6, u7, u8, -, -, -, -, -, -, -, -, -, -⟩ := id TT
    obtain ⟨c0, c1, c2, c3, c4, c5, c6, c7, c8, f0, f1, f2, f3, f4, f5, f6, f7, f8, lt9⟩ := id K3
    go_wp2
    have R9 := (((((((((K3.put0 (.int .i64 k)).put1 (.bool y)).put2 (.bool n)).put3 (.slice ao l.length cap)).put4 (.int .i64 sc)).put5 (.int .i64 d)).put6 (.int .i64 mo)).put7 (.int .i64 da)).put8 (.string z))
    have GG := hide (grown_set (grown_set (grown_set (grown_set (grown_set (grown_set (grown_set (grown_set (grown_set (unhide G3) (a := ⟨w.heap.size, 0, none⟩) (Nat.le_refl _) (.int .i64 k)) (a := ⟨w.heap.size, 1, none⟩) (Nat.le_refl _) (.bool y)) (a := ⟨w.heap.size, 2, none⟩) (Nat.le_refl _) (.bool n)) (a := ⟨w.heap.size, 3, none⟩) (Nat.le_refl _) (.slice ao l.length cap)) (a := ⟨w.heap.size, 4, none⟩) (Nat.le_refl _) (.int .i64 sc)) (a := ⟨w.heap.size, 5, none⟩) (Nat.le_refl _) (.int .i64 d)) (a := ⟨w.heap.size, 6, none⟩) (Nat.le_refl _) (.int .i64 mo)) (a := ⟨w.heap.size, 7, none⟩) (Nat.le_refl _) (.int .i64 da)) (a := ⟨w.heap.size, 8, none⟩) (Nat.le_refl _) (.string z))
    have RR := (((((((((R3.set (a := ⟨w.heap.size, 0, none⟩) (by exact hR) (.int .i64 k)).set (a := ⟨w.heap.size, 1, none⟩) (by exact hR) (.bool y)).set (a := ⟨w.heap.size, 2, none⟩) (by exact hR) (.bool n)).set (a := ⟨w.heap.size, 3, none⟩) (by exact hR) (.slice ao l.length cap)).set (a := ⟨w.heap.size, 4, none⟩) (by exact hR) (.int .i64 sc)).set (a := ⟨w.heap.size, 5, none⟩) (by exact hR) (.int .i64 d)).set (a := ⟨w.heap.size, 6, none⟩) (by exact hR) (.int .i64 mo)).set (a := ⟨w.heap.size, 7, none⟩) (by exact hR) (.int .i64 da)).set (a := ⟨w.heap.size, 8, none⟩) (by exact hR) (.string z))
    have OO := (((((((((o3.setBelow (a := ⟨w.heap.size, 0, none⟩) (Nat.lt_succ_self _) (.int .i64 k)).setBelow (a := ⟨w.heap.size, 1, none⟩) (Nat.lt_succ_self _) (.bool y)).setBelow (a := ⟨w.heap.size, 2, none⟩) (Nat.lt_succ_self _) (.bool n)).setBelow (a := ⟨w.heap.size, 3, none⟩) (Nat.lt_succ_self _) (.slice ao l.length cap)).setBelow (a := ⟨w.heap.size, 4, none⟩) (Nat.lt_succ_self _) (.int .i64 sc)).setBelow (a := ⟨w.heap.size, 5, none⟩) (Nat.lt_succ_self _) (.int .i64 d)).setBelow (a := ⟨w.heap.size, 6, none⟩) (Nat.lt_succ_self _) (.int .i64 mo)).setBelow (a := ⟨w.heap.size, 7, none⟩) (Nat.lt_succ_self _) (.int .i64 da)).setBelow (a := ⟨w.heap.size, 8, none⟩) (Nat.lt_succ_self _) (.string z))
    generalize ((((((((((w3.setCell ⟨w1.heap.size, 8, none⟩ (.string z)).setCell ⟨w.heap.size, 0, none⟩ (.int .i64 k)).setCell ⟨w.heap.size, 1, none⟩ (.bool y)).setCell ⟨w.heap.size, 2, none⟩ (.bool n)).setCell ⟨w.heap.size, 3, none⟩ (.slice ao l.length cap)).setCell ⟨w.heap.size, 4, none⟩ (.int .i64 sc)).setCell ⟨w.heap.size, 5, none⟩ (.int .i64 d)).setCell ⟨w.heap.size, 6, none⟩ (.int .i64 mo)).setCell ⟨w.heap.size, 7, none⟩ (.int .i64 da)).setCell ⟨w.heap.size, 8, none⟩ (.string z)) = W9 at *
    obtain ⟨e0, e1, e2, e3, e4, e5, e6, e7, e8, -, -, -, -, -, -, -, -, -, -⟩ := id R9
    refine bodyPost_ret (v := .agg #[.int .i64 k, .bool y, .bool n, .slice ao l.length cap, .int .i64 sc, .int .i64 d, .int .i64 mo, .int .i64 da, .string z]) (by simp [results, Tryz.results29, go_sem, e0, e1, e2, e3, e4, e5, e6, e7, e8]) rfl ⟨⟨k, y, n, l, sc, d, mo, da, z⟩, ao, cap, _, rfl, OO.mono (Nat.le_succ _), by first | exact unhide HL | simp; omega, by first | exact unhide HT | simp; omega, RR, by omega, unhide GG⟩
  · clear hx
    have HT := hide (show t.size ≤ 20 by omega)
    have T2 := hide T2
    have K2 := hide K2
    go_wp2_with fail
    refine (l14AnyDec_any _ R _ r2 (by omega)).mono ?_
    rintro e w3 ⟨pg, l3, sc3, ao3, cap3, q3, rfl, hl3, on3, r3, hq3, g3⟩
    have HL := hide hl3
    have T3 := (unhide T2).step g3 hnf
    have TT := T3
    have K3 := (unhide K2).step g3 hne
    have G3 := hide (grown_trans (unhide G2) g3)
    have R3 := r3
    have o3 := on3
    have zz3 := g3.size
    clear g3 r3
    have T3 := T3.put2 (.bool pg)
    have K3 := K3.other (a := ⟨w1.heap.size, 2, none⟩) (by simp; omega) (.bool pg)
    have G3 := hide (grown_set (unhide G3) (a := ⟨w1.heap.size, 2, none⟩) (by simp only; omega) (.bool pg))
    have R3 := R3.set (a := ⟨w1.heap.size, 2, none⟩) (by simp only; omega) (.bool pg)
    have o3 := o3.setBelow (a := ⟨w1.heap.size, 2, none⟩) (by simp only; omega) (.bool pg)
    have T3 := T3.put3 (.slice ao3 l3.length cap3)
    have K3 := K3.other (a := ⟨w1.heap.size, 3, none⟩) (by simp; omega) (.slice ao3 l3.length cap3)
    have G3 := hide (grown_set (unhide G3) (a := ⟨w1.heap.size, 3, none⟩) (by simp only; omega) (.slice ao3 l3.length cap3))
    have R3 := R3.set (a := ⟨w1.heap.size, 3, none⟩) (by simp only; omega) (.slice ao3 l3.length cap3)
    have o3 := o3.setBelow (a := ⟨w1.heap.size, 3, none⟩) (by simp only; omega) (.slice ao3 l3.length cap3)
    have T3 := T3.put4 (.int .i64 sc3)
    have K3 := K3.other (a := ⟨w1.heap.size, 4, none⟩) (by simp; omega) (.int .i64 sc3)
    have G3 := hide (grown_set (unhide G3) (a := ⟨w1.heap.size, 4, none⟩) (by simp only; omega) (.int .i64 sc3))
    have R3 := R3.set (a := ⟨w1.heap.size, 4, none⟩) (by simp only; omega) (.int .i64 sc3)
    have o3 := o3.setBelow (a := ⟨w1.heap.size, 4, none⟩) (by simp only; omega) (.int .i64 sc3)
    have o3 := o3.mono (B' := w.heap.size + 1) (by omega)
    clear K2 T2 G2 r2 o2
    obtain ⟨-, -, -, -, -, -, -, -, -, v0, v1, v2, v3, v4, v5, v6, v7, v8, lu9⟩ := id TT
    obtain ⟨u0, u1, u2, u3, u4, u5, u6, u7, u8, -, -, -, -, -, -, -, -, -, -⟩ := id TT
    obtain ⟨c0, c1, c2, c3, c4, c5, c6, c7, c8, f0, f1, f2, f3, f4, f5, f6, f7, f8, lt9⟩ := id K3
    go_wp2
    have R9 := (((((((((K3.put0 (.int .i64 k)).put1 (.bool y)).put2 (.bool pg)).put3 (.slice ao3 l3.length cap3)).put4 (.int .i64 sc3)).put5 (.int .i64 d)).put6 (.int .i64 mo)).put7 (.int .i64 da)).put8 (.string t))
    have GG := hide (grown_set (grown_set (grown_set (grown_set (grown_set (grown_set (grown_set (grown_set (grown_set (unhide G3) (a := ⟨w.heap.size, 0, none⟩) (Nat.le_refl _) (.int .i64 k)) (a := ⟨w.heap.size, 1, none⟩) (Nat.le_refl _) (.bool y)) (a := ⟨w.heap.size, 2, none⟩) (Nat.le_refl _) (.bool pg)) (a := ⟨w.heap.size, 3, none⟩) (Nat.le_refl _) (.slice ao3 l3.length cap3)) (a := ⟨w.heap.size, 4, none⟩) (Nat.le_refl _) (.int .i64 sc3)) (a := ⟨w.heap.size, 5, none⟩) (Nat.le_refl _) (.int .i64 d)) (a := ⟨w.heap.size, 6, none⟩) (Nat.le_refl _) (.int .i64 mo)) (a := ⟨w.heap.size, 7, none⟩) (Nat.le_refl _) (.int .i64 da)) (a := ⟨w.heap.size, 8, none⟩) (Nat.le_refl _) (.string t))
    have RR := (((((((((R3.set (a := ⟨w.heap.size, 0, none⟩) (by exact hR) (.int .i64 k)).set (a := ⟨w.heap.size, 1, none⟩) (by exact hR) (.bool y)).set (a := ⟨w.heap.size, 2, none⟩) (by exact hR) (.bool pg)).set (a := ⟨w.heap.size, 3, none⟩) (by exact hR) (.slice ao3 l3.length cap3)).set (a := ⟨w.heap.size, 4, none⟩) (by exact hR) (.int .i64 sc3)).set (a := ⟨w.heap.size, 5, none⟩) (by exact hR) (.int .i64 d)).set (a := ⟨w.heap.size, 6, none⟩) (by exact hR) (.int .i64 mo)).set (a := ⟨w.heap.size, 7, none⟩) (by exact hR) (.int .i64 da)).set (a := ⟨w.heap.size, 8, none⟩) (by exact hR) (.string t))
    have OO := (((((((((o3.setBelow (a := ⟨w.heap.size, 0, none⟩) (Nat.lt_succ_self _) (.int .i64 k)).setBelow (a := ⟨w.heap.size, 1, none⟩) (Nat.lt_succ_self _) (.bool y)).setBelow (a := ⟨w.heap.size, 2, none⟩) (Nat.lt_succ_self _) (.bool pg)).setBelow (a := ⟨w.heap.size, 3, none⟩) (Nat.lt_succ_self _) (.slice ao3 l3.length cap3)).setBelow (a := ⟨w.heap.size, 4, none⟩) (Nat.lt_succ_self _) (.int .i64 sc3)).setBelow (a := ⟨w.heap.size, 5, none⟩) (Nat.lt_succ_self _) (.int .i64 d)).setBelow (a := ⟨w.heap.size, 6, none⟩) (Nat.lt_succ_self _) (.int .i64 mo)).setBelow (a := ⟨w.heap.size, 7, none⟩) (Nat.lt_succ_self _) (.int .i64 da)).setBelow (a := ⟨w.heap.size, 8, none⟩) (Nat.lt_succ_self _) (.string t))
    generalize ((((((((((((w3.setCell ⟨w1.heap.size, 2, none⟩ (.bool pg)).setCell ⟨w1.heap.size, 3, none⟩ (.slice ao3 l3.length cap3)).setCell ⟨w1.heap.size, 4, none⟩ (.int .i64 sc3)).setCell ⟨w.heap.size, 0, none⟩ (.int .i64 k)).setCell ⟨w.heap.size, 1, none⟩ (.bool y)).setCell ⟨w.heap.size, 2, none⟩ (.bool pg)).setCell ⟨w.heap.size, 3, none⟩ (.slice ao3 l3.length cap3)).setCell ⟨w.heap.size, 4, none⟩ (.int .i64 sc3)).setCell ⟨w.heap.size, 5, none⟩ (.int .i64 d)).setCell ⟨w.heap.size, 6, none⟩ (.int .i64 mo)).setCell ⟨w.heap.size, 7, none⟩ (.int .i64 da)).setCell ⟨w.heap.size, 8, none⟩ (.string t)) = W9 at *
    obtain ⟨e0, e1, e2, e3, e4, e5, e6, e7, e8, -, -, -, -, -, -, -, -, -, -⟩ := id R9
    refine bodyPost_ret (v := .agg #[.int .i64 k, .bool y, .bool pg, .slice ao3 l3.length cap3, .int .i64 sc3, .int .i64 d, .int .i64 mo, .int .i64 da, .string t]) (by simp [results, Tryz.results29, go_sem, e0, e1, e2, e3, e4, e5, e6, e7, e8]) rfl ⟨⟨k, y, pg, l3, sc3, d, mo, da, t⟩, ao3, cap3, _, rfl, OO.mono (Nat.le_succ _), by first | exact unhide HL | simp; omega, by first | exact unhide HT | simp; omega, RR, by omega, unhide GG⟩
  · clear hx
    have HL := hide (show l.length ≤ 17 by omega)
    have HT := hide (show t.size ≤ 20 by omega)
    have T2 := hide T2
    have K2 := hide K2
    go_wp2_with fail
    refine (l14AnyDay_any _ R _ r2 (by omega)).mono ?_
    rintro e w3 ⟨z, q3, rfl, r3, hq3, g3⟩
    have T3 := ((unhide T2).step g3 hnf).put5 (.int .i64 z)
    have K3 := ((unhide K2).step g3 hne).other (a := ⟨w1.heap.size, 5, none⟩) (by simp; omega) (.int .i64 z)
    have G3 := hide (grown_set (grown_trans (unhide G2) g3) (a := ⟨w1.heap.size, 5, none⟩) (by simp only; omega) (.int .i64 z))
    have R3 := r3.set (a := ⟨w1.heap.size, 5, none⟩) (by simp only; omega) (.int .i64 z)
    have o3 := (o2.grown g3 (by omega)).setOther (a := ⟨w1.heap.size, 5, none⟩) (fun e => by have := hob _ e; simp only at this; omega) (.int .i64 z)
    have TT := (unhide T2).step g3 hnf
    clear K2 T2 G2 r2 g3 r3 o2
    obtain ⟨-, -, -, -, -, -, -, -, -, v0, v1, v2, v3, v4, v5, v6, v7, v8, lu9⟩ := id TT
    obtain ⟨u0, u1, u2, u3, u4, u5, u6, u7, u8, -, -, -, -, -, -, -, -, -, -⟩ := id TT
    obtain ⟨c0, c1, c2, c3, c4, c5, c6, c7, c8, f0, f1, f2, f3, f4, f5, f6, f7, f8, lt9⟩ := id K3
    go_wp2
    have R9 := (((((((((K3.put0 (.int .i64 k)).put1 (.bool y)).put2 (.bool n)).put3 (.slice ao l.length cap)).put4 (.int .i64 sc)).put5 (.int .i64 z)).put6 (.int .i64 mo)).put7 (.int .i64 da)).put8 (.string t))
    have GG := hide (grown_set (grown_set (grown_set (grown_set (grown_set (grown_set (grown_set (grown_set (grown_set (unhide G3) (a := ⟨w.heap.size, 0, none⟩) (Nat.le_refl _) (.int .i64 k)) (a := ⟨w.heap.size, 1, none⟩) (Nat.le_refl _) (.bool y)) (a := ⟨w.heap.size, 2, none⟩) (Nat.le_refl _) (.bool n)) (a := ⟨w.heap.size, 3, none⟩) (Nat.le_refl _) (.slice ao l.length cap)) (a := ⟨w.heap.size, 4, none⟩) (Nat.le_refl _) (.int .i64 sc)) (a := ⟨w.heap.size, 5, none⟩) (Nat.le_refl _) (.int .i64 z)) (a := ⟨w.heap.size, 6, none⟩) (Nat.le_refl _) (.int .i64 mo)) (a := ⟨w.heap.size, 7, none⟩) (Nat.le_refl _) (.int .i64 da)) (a := ⟨w.heap.size, 8, none⟩) (Nat.le_refl _) (.string t))
    have RR := (((((((((R3.set (a := ⟨w.heap.size, 0, none⟩) (by exact hR) (.int .i64 k)).set (a := ⟨w.heap.size, 1, none⟩) (by exact hR) (.bool y)).set (a := ⟨w.heap.size, 2, none⟩) (by exact hR) (.bool n)).set (a := ⟨w.heap.size, 3, none⟩) (by exact hR) (.slice ao l.length cap)).set (a := ⟨w.heap.size, 4, none⟩) (by exact hR) (.int .i64 sc)).set (a := ⟨w.heap.size, 5, none⟩) (by exact hR) (.int .i64 z)).set (a := ⟨w.heap.size, 6, none⟩) (by exact hR) (.int .i64 mo)).set (a := ⟨w.heap.size, 7, none⟩) (by exact hR) (.int .i64 da)).set (a := ⟨w.heap.size, 8, none⟩) (by exact hR) (.string t))
    have OO := (((((((((o3.setBelow (a := ⟨w.heap.size, 0, none⟩) (Nat.lt_succ_self _) (.int .i64 k)).setBelow (a := ⟨w.heap.size, 1, none⟩) (Nat.lt_succ_self _) (.bool y)).setBelow (a := ⟨w.heap.size, 2, none⟩) (Nat.lt_succ_self _) (.bool n)).setBelow (a := ⟨w.heap.size, 3, none⟩) (Nat.lt_succ_self _) (.slice ao l.length cap)).setBelow (a := ⟨w.heap.size, 4, none⟩) (Nat.lt_succ_self _) (.int .i64 sc)).setBelow (a := ⟨w.heap.size, 5, none⟩) (Nat.lt_succ_self _) (.int .i64 z)).setBelow (a := ⟨w.heap.size, 6, none⟩) (Nat.lt_succ_self _) (.int .i64 mo)).setBelow (a := ⟨w.heap.size, 7, none⟩) (Nat.lt_succ_self _) (.int .i64 da)).setBelow (a := ⟨w.heap.size, 8, none⟩) (Nat.lt_succ_self _) (.string t))
    generalize ((((((((((w3.setCell ⟨w1.heap.size, 5, none⟩ (.int .i64 z)).setCell ⟨w.heap.size, 0, none⟩ (.int .i64 k)).setCell ⟨w.heap.size, 1, none⟩ (.bool y)).setCell ⟨w.heap.size, 2, none⟩ (.bool n)).setCell ⟨w.heap.size, 3, none⟩ (.slice ao l.length cap)).setCell ⟨w.heap.size, 4, none⟩ (.int .i64 sc)).setCell ⟨w.heap.size, 5, none⟩ (.int .i64 z)).setCell ⟨w.heap.size, 6, none⟩ (.int .i64 mo)).setCell ⟨w.heap.size, 7, none⟩ (.int .i64 da)).setCell ⟨w.heap.size, 8, none⟩ (.string t)) = W9 at *
    obtain ⟨e0, e1, e2, e3, e4, e5, e6, e7, e8, -, -, -, -, -, -, -, -, -, -⟩ := id R9
    refine bodyPost_ret (v := .agg #[.int .i64 k, .bool y, .bool n, .slice ao l.length cap, .int .i64 sc, .int .i64 z, .int .i64 mo, .int .i64 da, .string t]) (by simp [results, Tryz.results29, go_sem, e0, e1, e2, e3, e4, e5, e6, e7, e8]) rfl ⟨⟨k, y, n, l, sc, z, mo, da, t⟩, ao, cap, _, rfl, OO.mono (Nat.le_succ _), by first | exact unhide HL | simp; omega, by first | exact unhide HT | simp; omega, RR, by omega, unhide GG⟩
  · clear hx
    have HL := hide (show l.length ≤ 17 by omega)
    have HT := hide (show t.size ≤ 20 by omega)
    have T3 := T2
    have K3 := K2
    have G3 := G2
    have R3 := r2
    have o3 := o2
    have TT := T2
    have T3 := T3.put1 (.bool true)
    have K3 := K3.other (a := ⟨w1.heap.size, 1, none⟩) (by simp; omega) (.bool true)
    have G3 := hide (grown_set (unhide G3) (a := ⟨w1.heap.size, 1, none⟩) (by simp only; omega) (.bool true))
    have R3 := R3.set (a := ⟨w1.heap.size, 1, none⟩) (by simp only; omega) (.bool true)
    have o3 := o3.setOther (a := ⟨w1.heap.size, 1, none⟩) (fun e => by have := hob _ e; simp only at this; omega) (.bool true)
    clear K2 T2 G2 r2 o2
    obtain ⟨-, -, -, -, -, -, -, -, -, v0, v1, v2, v3, v4, v5, v6, v7, v8, lu9⟩ := id TT
    obtain ⟨u0, u1, u2, u3, u4, u5, u6, u7, u8, -, -, -, -, -, -, -, -, -, -⟩ := id TT
    obtain ⟨c0, c1, c2, c3, c4, c5, c6, c7, c8, f0, f1, f2, f3, f4, f5, f6, f7, f8, lt9⟩ := id K3
    go_wp2
    have R9 := (((((((((K3.put0 (.int .i64 k)).put1 (.bool true)).put2 (.bool n)).put3 (.slice ao l.length cap)).put4 (.int .i64 sc)).put5 (.int .i64 d)).put6 (.int .i64 mo)).put7 (.int .i64 da)).put8 (.string t))
    have GG := hide (grown_set (grown_set (grown_set (grown_set (grown_set (grown_set (grown_set (grown_set (grown_set (unhide G3) (a := ⟨w.heap.size, 0, none⟩) (Nat.le_refl _) (.int .i64 k)) (a := ⟨w.heap.size, 1, none⟩) (Nat.le_refl _) (.bool true)) (a := ⟨w.heap.size, 2, none⟩) (Nat.le_refl _) (.bool n)) (a := ⟨w.heap.size, 3, none⟩) (Nat.le_refl _) (.slice ao l.length cap)) (a := ⟨w.heap.size, 4, none⟩) (Nat.le_refl _) (.int .i64 sc)) (a := ⟨w.heap.size, 5, none⟩) (Nat.le_refl _) (.int .i64 d)) (a := ⟨w.heap.size, 6, none⟩) (Nat.le_refl _) (.int .i64 mo)) (a := ⟨w.heap.size, 7, none⟩) (Nat.le_refl _) (.int .i64 da)) (a := ⟨w.heap.size, 8, none⟩) (Nat.le_refl _) (.string t))
    have RR := (((((((((R3.set (a := ⟨w.heap.size, 0, none⟩) (by exact hR) (.int .i64 k)).set (a := ⟨w.heap.size, 1, none⟩) (by exact hR) (.bool true)).set (a := ⟨w.heap.size, 2, none⟩) (by exact hR) (.bool n)).set (a := ⟨w.heap.size, 3, none⟩) (by exact hR) (.slice ao l.length cap)).set (a := ⟨w.heap.size, 4, none⟩) (by exact hR) (.int .i64 sc)).set (a := ⟨w.heap.size, 5, none⟩) (by exact hR) (.int .i64 d)).set (a := ⟨w.heap.size, 6, none⟩) (by exact hR) (.int .i64 mo)).set (a := ⟨w.heap.size, 7, none⟩) (by exact hR) (.int .i64 da)).set (a := ⟨w.heap.size, 8, none⟩) (by exact hR) (.string t))
    have OO := (((((((((o3.setBelow (a := ⟨w.heap.size, 0, none⟩) (Nat.lt_succ_self _) (.int .i64 k)).setBelow (a := ⟨w.heap.size, 1, none⟩) (Nat.lt_succ_self _) (.bool true)).setBelow (a := ⟨w.heap.size, 2, none⟩) (Nat.lt_succ_self _) (.bool n)).setBelow (a := ⟨w.heap.size, 3, none⟩) (Nat.lt_succ_self _) (.slice ao l.length cap)).setBelow (a := ⟨w.heap.size, 4, none⟩) (Nat.lt_succ_self _) (.int .i64 sc)).setBelow (a := ⟨w.heap.size, 5, none⟩) (Nat.lt_succ_self _) (.int .i64 d)).setBelow (a := ⟨w.heap.size, 6, none⟩) (Nat.lt_succ_self _) (.int .i64 mo)).setBelow (a := ⟨w.heap.size, 7, none⟩) (Nat.lt_succ_self _) (.int .i64 da)).setBelow (a := ⟨w.heap.size, 8, none⟩) (Nat.lt_succ_self _) (.string t))
    generalize ((((((((((w2.setCell ⟨w1.heap.size, 1, none⟩ (.bool true)).setCell ⟨w.heap.size, 0, none⟩ (.int .i64 k)).setCell ⟨w.heap.size, 1, none⟩ (.bool true)).setCell ⟨w.heap.size, 2, none⟩ (.bool n)).setCell ⟨w.heap.size, 3, none⟩ (.slice ao l.length cap)).setCell ⟨w.heap.size, 4, none⟩ (.int .i64 sc)).setCell ⟨w.heap.size, 5, none⟩ (.int .i64 d)).setCell ⟨w.heap.size, 6, none⟩ (.int .i64 mo)).setCell ⟨w.heap.size, 7, none⟩ (.int .i64 da)).setCell ⟨w.heap.size, 8, none⟩ (.string t)) = W9 at *
    obtain ⟨e0, e1, e2, e3, e4, e5, e6, e7, e8, -, -, -, -, -, -, -, -, -, -⟩ := id R9
    refine bodyPost_ret (v := .agg #[.int .i64 k, .bool true, .bool n, .slice ao l.length cap, .int .i64 sc, .int .i64 d, .int .i64 mo, .int .i64 da, .string t]) (by simp [results, Tryz.results29, go_sem, e0, e1, e2, e3, e4, e5, e6, e7, e8]) rfl ⟨⟨k, true, n, l, sc, d, mo, da, t⟩, ao, cap, _, rfl, OO.mono (Nat.le_succ _), by first | exact unhide HL | simp; omega, by first | exact unhide HT | simp; omega, RR, by omega, unhide GG⟩
  · clear hx
    have HL := hide (show l.length ≤ 17 by omega)
    have HT := hide (show t.size ≤ 20 by omega)
    have T2 := hide T2
    have K2 := hide K2
    go_wp2_with fail
    refine (l14AnySpan_any _ R _ r2 (by omega)).mono ?_
    rintro e w3 ⟨m3, d3, q3, rfl, r3, hq3, g3⟩
    have T3 := (unhide T2).step g3 hnf
    have TT := T3
    have K3 := (unhide K2).step g3 hne
    have G3 := hide (grown_trans (unhide G2) g3)
    have R3 := r3
    have o3 := o2.grown g3 (by omega)
    have zz3 := g3.size
    clear g3 r3
    have T3 := T3.put6 (.int .i64 m3)
    have K3 := K3.other (a := ⟨w1.heap.size, 6, none⟩) (by simp; omega) (.int .i64 m3)
    have G3 := hide (grown_set (unhide G3) (a := ⟨w1.heap.size, 6, none⟩) (by simp only; omega) (.int .i64 m3))
    have R3 := R3.set (a := ⟨w1.heap.size, 6, none⟩) (by simp only; omega) (.int .i64 m3)
    have o3 := o3.setOther (a := ⟨w1.heap.size, 6, none⟩) (fun e => by have := hob _ e; simp only at this; omega) (.int .i64 m3)
    have T3 := T3.put7 (.int .i64 d3)
    have K3 := K3.other (a := ⟨w1.heap.size, 7, none⟩) (by simp; omega) (.int .i64 d3)
    have G3 := hide (grown_set (unhide G3) (a := ⟨w1.heap.size, 7, none⟩) (by simp only; omega) (.int .i64 d3))
    have R3 := R3.set (a := ⟨w1.heap.size, 7, none⟩) (by simp only; omega) (.int .i64 d3)
    have o3 := o3.setOther (a := ⟨w1.heap.size, 7, none⟩) (fun e => by have := hob _ e; simp only at this; omega) (.int .i64 d3)
    clear K2 T2 G2 r2 o2
    obtain ⟨-, -, -, -, -, -, -, -, -, v0, v1, v2, v3, v4, v5, v6, v7, v8, lu9⟩ := id TT
    obtain ⟨u0, u1, u2, u3, u4, u5, u6, u7, u8, -, -, -, -, -, -, -, -, -, -⟩ := id TT
    obtain ⟨c0, c1, c2, c3, c4, c5, c6, c7, c8, f0, f1, f2, f3, f4, f5, f6, f7, f8, lt9⟩ := id K3
    go_wp2
    have R9 := (((((((((K3.put0 (.int .i64 k)).put1 (.bool y)).put2 (.bool n)).put3 (.slice ao l.length cap)).put4 (.int .i64 sc)).put5 (.int .i64 d)).put6 (.int .i64 m3)).put7 (.int .i64 d3)).put8 (.string t))
    have GG := hide (grown_set (grown_set (grown_set (grown_set (grown_set (grown_set (grown_set (grown_set (grown_set (unhide G3) (a := ⟨w.heap.size, 0, none⟩) (Nat.le_refl _) (.int .i64 k)) (a := ⟨w.heap.size, 1, none⟩) (Nat.le_refl _) (.bool y)) (a := ⟨w.heap.size, 2, none⟩) (Nat.le_refl _) (.bool n)) (a := ⟨w.heap.size, 3, none⟩) (Nat.le_refl _) (.slice ao l.length cap)) (a := ⟨w.heap.size, 4, none⟩) (Nat.le_refl _) (.int .i64 sc)) (a := ⟨w.heap.size, 5, none⟩) (Nat.le_refl _) (.int .i64 d)) (a := ⟨w.heap.size, 6, none⟩) (Nat.le_refl _) (.int .i64 m3)) (a := ⟨w.heap.size, 7, none⟩) (Nat.le_refl _) (.int .i64 d3)) (a := ⟨w.heap.size, 8, none⟩) (Nat.le_refl _) (.string t))
    have RR := (((((((((R3.set (a := ⟨w.heap.size, 0, none⟩) (by exact hR) (.int .i64 k)).set (a := ⟨w.heap.size, 1, none⟩) (by exact hR) (.bool y)).set (a := ⟨w.heap.size, 2, none⟩) (by exact hR) (.bool n)).set (a := ⟨w.heap.size, 3, none⟩) (by exact hR) (.slice ao l.length cap)).set (a := ⟨w.heap.size, 4, none⟩) (by exact hR) (.int .i64 sc)).set (a := ⟨w.heap.size, 5, none⟩) (by exact hR) (.int .i64 d)).set (a := ⟨w.heap.size, 6, none⟩) (by exact hR) (.int .i64 m3)).set (a := ⟨w.heap.size, 7, none⟩) (by exact hR) (.int .i64 d3)).set (a := ⟨w.heap.size, 8, none⟩) (by exact hR) (.string t))
    have OO := (((((((((o3.setBelow (a := ⟨w.heap.size, 0, none⟩) (Nat.lt_succ_self _) (.int .i64 k)).setBelow (a := ⟨w.heap.size, 1, none⟩) (Nat.lt_succ_self _) (.bool y)).setBelow (a := ⟨w.heap.size, 2, none⟩) (Nat.lt_succ_self _) (.bool n)).setBelow (a := ⟨w.heap.size, 3, none⟩) (Nat.lt_succ_self _) (.slice ao l.length cap)).setBelow (a := ⟨w.heap.size, 4, none⟩) (Nat.lt_succ_self _) (.int .i64 sc)).setBelow (a := ⟨w.heap.size, 5, none⟩) (Nat.lt_succ_self _) (.int .i64 d)).setBelow (a := ⟨w.heap.size, 6, none⟩) (Nat.lt_succ_self _) (.int .i64 m3)).setBelow (a := ⟨w.heap.size, 7, none⟩) (Nat.lt_succ_self _) (.int .i64 d3)).setBelow (a := ⟨w.heap.size, 8, none⟩) (Nat.lt_succ_self _) (.string t))
    generalize (((((((((((w3.setCell ⟨w1.heap.size, 6, none⟩ (.int .i64 m3)).setCell ⟨w1.heap.size, 7, none⟩ (.int .i64 d3)).setCell ⟨w.heap.size, 0, none⟩ (.int .i64 k)).setCell ⟨w.heap.size, 1, none⟩ (.bool y)).setCell ⟨w.heap.size, 2, none⟩ (.bool n)).setCell ⟨w.heap.size, 3, none⟩ (.slice ao l.length cap)).setCell ⟨w.heap.size, 4, none⟩ (.int .i64 sc)).setCell ⟨w.heap.size, 5, none⟩ (.int .i64 d)).setCell ⟨w.heap.size, 6, none⟩ (.int .i64 m3)).setCell ⟨w.heap.size, 7, none⟩ (.int .i64 d3)).setCell ⟨w.heap.size, 8, none⟩ (.string t)) = W9 at *
    obtain ⟨e0, e1, e2, e3, e4, e5, e6, e7, e8, -, -, -, -, -, -, -, -, -, -⟩ := id R9
    refine bodyPost_ret (v := .agg #[.int .i64 k, .bool y, .bool n, .slice ao l.length cap, .int .i64 sc, .int .i64 d, .int .i64 m3, .int .i64 d3, .string t]) (by simp [results, Tryz.results29, go_sem, e0, e1, e2, e3, e4, e5, e6, e7, e8]) rfl ⟨⟨k, y, n, l, sc, d, m3, d3, t⟩, ao, cap, _, rfl, OO.mono (Nat.le_succ _), by first | exact unhide HL | simp; omega, by first | exact unhide HT | simp; omega, RR, by omega, unhide GG⟩
  · have t0 : ((x : Int) == 0) = false := by rw [beq_eq_false_iff_ne]; omega
    have t1 : ((x : Int) == 1) = false := by rw [beq_eq_false_iff_ne]; omega
    have t2 : ((x : Int) == 2) = false := by rw [beq_eq_false_iff_ne]; omega
    have t3 : ((x : Int) == 3) = false := by rw [beq_eq_false_iff_ne]; omega
    have t4 : ((x : Int) == 4) = false := by rw [beq_eq_false_iff_ne]; omega
    have t5 : ((x : Int) == 5) = false := by rw [beq_eq_false_iff_ne]; omega
    clear hx hx6
    have HL := hide (show l.length ≤ 17 by omega)
    have HT := hide (show t.size ≤ 20 by omega)
    have T3 := T2
    have K3 := K2
    have G3 := G2
    have R3 := r2
    have o3 := o2
    have TT := T2
    clear K2 T2 G2 r2 o2
    obtain ⟨-, -, -, -, -, -, -, -, -, v0, v1, v2, v3, v4, v5, v6, v7, v8, lu9⟩ := id TT
    obtain ⟨u0, u1, u2, u3, u4, u5, u6, u7, u8, -, -, -, -, -, -, -, -, -, -⟩ := id TT
    obtain ⟨c0, c1, c2, c3, c4, c5, c6, c7, c8, f0, f1, f2, f3, f4, f5, f6, f7, f8, lt9⟩ := id K3
    go_wp2
    have R9 := (((((((((K3.put0 (.int .i64 k)).put1 (.bool y)).put2 (.bool n)).put3 (.slice ao l.length cap)).put4 (.int .i64 sc)).put5 (.int .i64 d)).put6 (.int .i64 mo)).put7 (.int .i64 da)).put8 (.string t))
    have GG := hide (grown_set (grown_set (grown_set (grown_set (grown_set (grown_set (grown_set (grown_set (grown_set (unhide G3) (a := ⟨w.heap.size, 0, none⟩) (Nat.le_refl _) (.int .i64 k)) (a := ⟨w.heap.size, 1, none⟩) (Nat.le_refl _) (.bool y)) (a := ⟨w.heap.size, 2, none⟩) (Nat.le_refl _) (.bool n)) (a := ⟨w.heap.size, 3, none⟩) (Nat.le_refl _) (.slice ao l.length cap)) (a := ⟨w.heap.size, 4, none⟩) (Nat.le_refl _) (.int .i64 sc)) (a := ⟨w.heap.size, 5, none⟩) (Nat.le_refl _) (.int .i64 d)) (a := ⟨w.heap.size, 6, none⟩) (Nat.le_refl _) (.int .i64 mo)) (a := ⟨w.heap.size, 7, none⟩) (Nat.le_refl _) (.int .i64 da)) (a := ⟨w.heap.size, 8, none⟩) (Nat.le_refl _) (.string t))
    have RR := (((((((((R3.set (a := ⟨w.heap.size, 0, none⟩) (by exact hR) (.int .i64 k)).set (a := ⟨w.heap.size, 1, none⟩) (by exact hR) (.bool y)).set (a := ⟨w.heap.size, 2, none⟩) (by exact hR) (.bool n)).set (a := ⟨w.heap.size, 3, none⟩) (by exact hR) (.slice ao l.length cap)).set (a := ⟨w.heap.size, 4, none⟩) (by exact hR) (.int .i64 sc)).set (a := ⟨w.heap.size, 5, none⟩) (by exact hR) (.int .i64 d)).set (a := ⟨w.heap.size, 6, none⟩) (by exact hR) (.int .i64 mo)).set (a := ⟨w.heap.size, 7, none⟩) (by exact hR) (.int .i64 da)).set (a := ⟨w.heap.size, 8, none⟩) (by exact hR) (.string t))
    have OO := (((((((((o3.setBelow (a := ⟨w.heap.size, 0, none⟩) (Nat.lt_succ_self _) (.int .i64 k)).setBelow (a := ⟨w.heap.size, 1, none⟩) (Nat.lt_succ_self _) (.bool y)).setBelow (a := ⟨w.heap.size, 2, none⟩) (Nat.lt_succ_self _) (.bool n)).setBelow (a := ⟨w.heap.size, 3, none⟩) (Nat.lt_succ_self _) (.slice ao l.length cap)).setBelow (a := ⟨w.heap.size, 4, none⟩) (Nat.lt_succ_self _) (.int .i64 sc)).setBelow (a := ⟨w.heap.size, 5, none⟩) (Nat.lt_succ_self _) (.int .i64 d)).setBelow (a := ⟨w.heap.size, 6, none⟩) (Nat.lt_succ_self _) (.int .i64 mo)).setBelow (a := ⟨w.heap.size, 7, none⟩) (Nat.lt_succ_self _) (.int .i64 da)).setBelow (a := ⟨w.heap.size, 8, none⟩) (Nat.lt_succ_self _) (.string t))
    generalize (((((((((w2.setCell ⟨w.heap.size, 0, none⟩ (.int .i64 k)).setCell ⟨w.heap.size, 1, none⟩ (.bool y)).setCell ⟨w.heap.size, 2, none⟩ (.bool n)).setCell ⟨w.heap.size, 3, none⟩ (.slice ao l.length cap)).setCell ⟨w.heap.size, 4, none⟩ (.int .i64 sc)).setCell ⟨w.heap.size, 5, none⟩ (.int .i64 d)).setCell ⟨w.heap.size, 6, none⟩ (.int .i64 mo)).setCell ⟨w.heap.size, 7, none⟩ (.int .i64 da)).setCell ⟨w.heap.size, 8, none⟩ (.string t)) = W9 at *
    obtain ⟨e0, e1, e2, e3, e4, e5, e6, e7, e8, -, -, -, -, -, -, -, -, -, -⟩ := id R9
    refine bodyPost_ret (v := .agg #[.int .i64 k, .bool y, .bool n, .slice ao l.length cap, .int .i64 sc, .int .i64 d, .int .i64 mo, .int .i64 da, .string t]) (by simp [results, Tryz.results29, go_sem, e0, e1, e2, e3, e4, e5, e6, e7, e8]) rfl ⟨⟨k, y, n, l, sc, d, mo, da, t⟩, ao, cap, _, rfl, OO.mono (Nat.le_succ _), by first | exact unhide HL | simp; omega, by first | exact unhide HT | simp; omega, RR, by omega, unhide GG⟩

/-- What a call answers that draws a value, ok or not. -/
def DrawsV (w : World) (e : Ending) (w' : World) : Prop :=
  ∃ (V : Vl) (ao : Option Addr) (cap : Nat), e = .returned (.agg #[.int .i64 V.k, .bool V.y, .bool V.n, .slice ao V.l.length cap, .int .i64 V.sc, .int .i64 V.d, .int .i64 V.mo, .int .i64 V.da, .string V.t]) ∧
    Own w.heap.size w' (.slice ao V.l.length cap) V.l ∧ V.l.length ≤ 17 ∧ V.t.size ≤ 20 ∧ Below w.heap.size w w'

set_option maxHeartbeats 4000000 in
theorem drawValuePut_any (w : World) (v : Value) (h : Byt w v) : Calls Tryz.prog 9 #[v] w (DrawsV w) := by
  have K0 := V9.new w (.int .i64 0) (.bool false) (.bool false) (.slice none 0 0) (.int .i64 0) (.int .i64 0) (.int .i64 0) (.int .i64 0) (.string ⟨#[]⟩) 31
  have B0 : Below w.heap.size w (w.alloc (.cells #[.int .i64 0, .bool false, .bool false, .slice none 0 0, .int .i64 0, .int .i64 0, .int .i64 0, .int .i64 0, .string ⟨#[]⟩] 31)) := (Below.refl _ _).alloc (Nat.le_refl _) _
  have C0 := hide (fun W (b : Below w.heap.size w W) => l1Open_any W v (h.later b))
  go_enter Tryz.func9, Tryz.ntmps9
  go_wp2_with fail
  refine (unhide C0 _ B0).mono ?_
  rintro e w1 ⟨rfl, r1, b1, z1⟩
  have K1 := K0.later b1
  have B1 := B0.trans (b1.mono B0.size)
  simp only [World.size_alloc] at r1 z1
  clear C0 K0 B0 b1
  go_wp2_with fail
  refine (l14AnyValue_any w1 _ 0 r1 (by omega)).mono ?_
  rintro e w2 ⟨⟨k, y, n, l, sc, d, mo, da, t⟩, ao, cap, q, rfl, o2, hl, ht, r2, hq, g2⟩
  have HL := hide hl
  have HT := hide ht
  have K2 := K1.step g2 (by simp)
  have B2 := grown_below_trans B1 (by omega) g2
  have o2 := o2.mono (B' := w.heap.size + 1) (by omega)
  clear K1 B1 g2 r1 r2 hq hl ht
  obtain ⟨c0, c1, c2, c3, c4, c5, c6, c7, c8, f0, f1, f2, f3, f4, f5, f6, f7, f8, lt9⟩ := id K2
  go_wp2
  have R9 := (((((((((K2.put0 (.int .i64 k)).put1 (.bool y)).put2 (.bool n)).put3 (.slice ao l.length cap)).put4 (.int .i64 sc)).put5 (.int .i64 d)).put6 (.int .i64 mo)).put7 (.int .i64 da)).put8 (.string t))
  have OO := (((((((((o2.setBelow (a := ⟨w.heap.size, 0, none⟩) (Nat.lt_succ_self _) (.int .i64 k)).setBelow (a := ⟨w.heap.size, 1, none⟩) (Nat.lt_succ_self _) (.bool y)).setBelow (a := ⟨w.heap.size, 2, none⟩) (Nat.lt_succ_self _) (.bool n)).setBelow (a := ⟨w.heap.size, 3, none⟩) (Nat.lt_succ_self _) (.slice ao l.length cap)).setBelow (a := ⟨w.heap.size, 4, none⟩) (Nat.lt_succ_self _) (.int .i64 sc)).setBelow (a := ⟨w.heap.size, 5, none⟩) (Nat.lt_succ_self _) (.int .i64 d)).setBelow (a := ⟨w.heap.size, 6, none⟩) (Nat.lt_succ_self _) (.int .i64 mo)).setBelow (a := ⟨w.heap.size, 7, none⟩) (Nat.lt_succ_self _) (.int .i64 da)).setBelow (a := ⟨w.heap.size, 8, none⟩) (Nat.lt_succ_self _) (.string t))
  have BB := (((((((((B2.setCell (p := ⟨w.heap.size, 0, none⟩) (Nat.le_refl _) (.int .i64 k)).setCell (p := ⟨w.heap.size, 1, none⟩) (Nat.le_refl _) (.bool y)).setCell (p := ⟨w.heap.size, 2, none⟩) (Nat.le_refl _) (.bool n)).setCell (p := ⟨w.heap.size, 3, none⟩) (Nat.le_refl _) (.slice ao l.length cap)).setCell (p := ⟨w.heap.size, 4, none⟩) (Nat.le_refl _) (.int .i64 sc)).setCell (p := ⟨w.heap.size, 5, none⟩) (Nat.le_refl _) (.int .i64 d)).setCell (p := ⟨w.heap.size, 6, none⟩) (Nat.le_refl _) (.int .i64 mo)).setCell (p := ⟨w.heap.size, 7, none⟩) (Nat.le_refl _) (.int .i64 da)).setCell (p := ⟨w.heap.size, 8, none⟩) (Nat.le_refl _) (.string t))
  generalize (((((((((w2.setCell ⟨w.heap.size, 0, none⟩ (.int .i64 k)).setCell ⟨w.heap.size, 1, none⟩ (.bool y)).setCell ⟨w.heap.size, 2, none⟩ (.bool n)).setCell ⟨w.heap.size, 3, none⟩ (.slice ao l.length cap)).setCell ⟨w.heap.size, 4, none⟩ (.int .i64 sc)).setCell ⟨w.heap.size, 5, none⟩ (.int .i64 d)).setCell ⟨w.heap.size, 6, none⟩ (.int .i64 mo)).setCell ⟨w.heap.size, 7, none⟩ (.int .i64 da)).setCell ⟨w.heap.size, 8, none⟩ (.string t)) = W9 at *
  obtain ⟨e0, e1, e2, e3, e4, e5, e6, e7, e8, -, -, -, -, -, -, -, -, -, -⟩ := id R9
  refine bodyPost_ret (v := .agg #[.int .i64 k, .bool y, .bool n, .slice ao l.length cap, .int .i64 sc, .int .i64 d, .int .i64 mo, .int .i64 da, .string t]) (by simp [results, Tryz.results9, go_sem, e0, e1, e2, e3, e4, e5, e6, e7, e8]) rfl ⟨⟨k, y, n, l, sc, d, mo, da, t⟩, ao, cap, rfl, OO.mono (Nat.le_succ _), unhide HL, unhide HT, BB⟩

end Go.Proofs.YtdklikicngmkbaaGreatDoor
