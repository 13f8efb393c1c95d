/- Two decimals to divide, a scale and a way of rounding are drawn: DrawDecDiv by a contract. -/
import Derived.Test.YthnkmjkgcnhlfaaGreatDoorK01
import Derived.Test.YthnkmjkgcnhlfaaGreatDoorH06
import Derived.Deep.RegionHeld3
namespace Go.Proofs.YthnkmjkgcnhlfaaGreatDoor
open Go.RowKit
set_option maxRecDepth 100000
set_option linter.unusedSimpArgs false

/-- What a call answers that draws two decimals, a scale and a way of rounding. -/
def DrawsDiv (w : World) (e : Ending) (w' : World) : Prop :=
  ∃ (p q : Bool) (l m : List Int) (s t sc md : Int) (aa : Option Addr) (ca : Nat) (ab : Option Addr) (cb : Nat), e = .returned (.tuple #[.agg #[.bool p, .slice aa l.length ca, .int .i64 s], .agg #[.bool q, .slice ab m.length cb, .int .i64 t], .int .i64 sc, .int .i64 md]) ∧
    Own w.heap.size w' (.slice aa l.length ca) l ∧ Own w.heap.size w' (.slice ab m.length cb) m ∧ Below w.heap.size w w'

theorem cells_out6 {w : World} {a b j : Nat} {u v x u' v' x' : Value} (h : w.cell? ⟨a, 0, none⟩ = some u ∧ w.cell? ⟨a, 1, none⟩ = some v ∧ w.cell? ⟨a, 2, none⟩ = some x ∧ w.cell? ⟨b, 0, none⟩ = some u' ∧ w.cell? ⟨b, 1, none⟩ = some v' ∧ w.cell? ⟨b, 2, none⟩ = some x') (ha : a ≠ j) (hb : b ≠ j) (y1 y2 y3 : Value) :
    (((w.setCell ⟨j, 0, none⟩ y1).setCell ⟨j, 1, none⟩ y2).setCell ⟨j, 2, none⟩ y3).cell? ⟨a, 0, none⟩ = some u ∧ (((w.setCell ⟨j, 0, none⟩ y1).setCell ⟨j, 1, none⟩ y2).setCell ⟨j, 2, none⟩ y3).cell? ⟨a, 1, none⟩ = some v ∧ (((w.setCell ⟨j, 0, none⟩ y1).setCell ⟨j, 1, none⟩ y2).setCell ⟨j, 2, none⟩ y3).cell? ⟨a, 2, none⟩ = some x ∧
      (((w.setCell ⟨j, 0, none⟩ y1).setCell ⟨j, 1, none⟩ y2).setCell ⟨j, 2, none⟩ y3).cell? ⟨b, 0, none⟩ = some u' ∧ (((w.setCell ⟨j, 0, none⟩ y1).setCell ⟨j, 1, none⟩ y2).setCell ⟨j, 2, none⟩ y3).cell? ⟨b, 1, none⟩ = some v' ∧ (((w.setCell ⟨j, 0, none⟩ y1).setCell ⟨j, 1, none⟩ y2).setCell ⟨j, 2, none⟩ y3).cell? ⟨b, 2, none⟩ = some x' :=
  ⟨cell_out3 h.1 ha _ _ _, cell_out3 h.2.1 ha _ _ _, cell_out3 h.2.2.1 ha _ _ _, cell_out3 h.2.2.2.1 hb _ _ _, cell_out3 h.2.2.2.2.1 hb _ _ _, cell_out3 h.2.2.2.2.2 hb _ _ _⟩

/-- Handing all four out. -/
theorem divD_gives {w W : World} {B1 B2 : Nat} {p q : Bool} {l m : List Int} {s t sc md : Int} {aa ab : Option Addr} {ca cb : Nat} (h : Below w.heap.size w W) (ha : Own B1 W (.slice aa l.length ca) l) (hb : Own B2 W (.slice ab m.length cb) m) (h1 : w.heap.size + 1 < B1) (h2 : w.heap.size + 1 < B2) :
    DrawsDiv w (.returned (.tuple #[.agg #[.bool p, .slice aa l.length ca, .int .i64 s], .agg #[.bool q, .slice ab m.length cb, .int .i64 t], .int .i64 sc, .int .i64 md]))
      ((((((W.setCell ⟨w.heap.size, 0, none⟩ (.bool p)).setCell ⟨w.heap.size, 1, none⟩ (.slice aa l.length ca)).setCell ⟨w.heap.size, 2, none⟩ (.int .i64 s)).setCell ⟨w.heap.size + 1, 0, none⟩ (.bool q)).setCell ⟨w.heap.size + 1, 1, none⟩ (.slice ab m.length cb)).setCell ⟨w.heap.size + 1, 2, none⟩ (.int .i64 t)) := by
  refine ⟨p, q, l, m, s, t, sc, md, aa, ca, ab, cb, rfl, ?_, ?_, ?_⟩
  · exact ((((((((ha.setBelow (by simp only; omega) _).setBelow (by simp only; omega) _).setBelow (by simp only; omega) _).setBelow (by simp only; omega) _).setBelow (by simp only; omega) _).setBelow (by simp only; omega) _))).mono (by omega)
  · exact ((((((((hb.setBelow (by simp only; omega) _).setBelow (by simp only; omega) _).setBelow (by simp only; omega) _).setBelow (by simp only; omega) _).setBelow (by simp only; omega) _).setBelow (by simp only; omega) _))).mono (by omega)
  · exact ((((((h.setCell (by simp) _).setCell (by simp) _).setCell (by simp) _).setCell (by simp) _).setCell (by simp) _).setCell (by simp) _)

set_option maxHeartbeats 4000000 in
theorem drawDecDiv_any (w : World) (v : Value) (h : Byt w v) : Calls Tryz.prog 28 #[v] w (DrawsDiv w) := by
  obtain ⟨B0, E0, E1⟩ := T2.start w
  have C0 := hide (l1Open_any _ v (h.later B0))
  have hsz : ((w.alloc (.cells #[.bool false, .slice none 0 0, .int .i64 0] 27)).alloc (.cells #[.bool false, .slice none 0 0, .int .i64 0] 27)).heap.size = w.heap.size + 1 + 1 := by simp
  clear h
  go_enter Tryz.func28, Tryz.ntmps28
  go_wp2_with fail
  refine (unhide C0).mono ?_
  rintro e w1 ⟨rfl, r1, b1, z1⟩
  rw [hsz] at r1
  have K1 : T2 w w1 (w.heap.size + 1 + 1) 0 := ⟨B0.trans (b1.mono B0.size), E0.later b1, E1.later b1, r1, by omega⟩
  simp only [hsz]
  clear C0 B0 E0 E1 b1 r1 z1 hsz
  generalize hR : w.heap.size + 1 + 1 = R at *
  clear hR
  go_wp2_with fail
  refine (l14AnyDec_any w1 R 0 K1.rd (by omega)).mono ?_
  rintro e w2 ⟨p, l, s, aa, ca, n2, rfl, hl, oa, r2, hn2, g2⟩
  have K2 := (K1.grown g2 r2).alloc (.cells #[.bool p, .slice aa l.length ca, .int .i64 s] 27)
  have DA := Db.new w2 p (.slice aa l.length ca) s
  have oA := oa.later ((Below.refl _ _).alloc (Nat.le_refl _) (.cells #[.bool p, .slice aa l.length ca, .int .i64 s] 27))
  have hnb : ∀ j, (Value.slice aa l.length ca).ownBlock = some j → j < w2.heap.size := fun j e => (oa.lt _ e).2
  have hR1 := K1.rd.lt
  have hR2 : R < w2.heap.size := Nat.lt_of_lt_of_le hR1 g2.size
  generalize w1.heap.size = B1 at *
  clear K1 r2 g2
  have C2 := fun cs h => one_lit (w2.alloc (.cells #[.bool p, .slice aa l.length ca, .int .i64 s] 27)) R n2 [0, 1, 2, 3, 4, 7, 8, 9, 10, 100, -2, -3, -8, 1000000] cs h K2.rd (by omega) (by simp) (by simp)
  simp only [World.size_alloc] at C2
  have C2 := hide C2
  go_wp2_with fail
  refine (unhide C2 _ rfl).mono ?_
  rintro e w3 ⟨x1, rfl, hx1, r3, g3⟩
  have hxb : -9223372036854775808 ≤ x1 ∧ x1 ≤ 9223372036854775807 := by
    simp only [List.mem_cons, List.not_mem_nil, or_false] at hx1
    omega
  have K3 := K2.grown g3 r3
  have DA3 := DA.grown g3 (by omega)
  have oA3 := oA.grown g3 (by omega)
  have z3 := g3.size
  simp only [World.size_alloc] at z3
  generalize hA : w2.heap.size = A at *
  clear C2 hx1 K2 DA oA oa g3 r3 hA
  go_wp2_with fail
  refine (specBigOf_any _ x1 hxb.1 hxb.2).mono ?_
  rintro e w4 ⟨ab, cb, rfl, ob, k4⟩
  have K4 := K3.later k4
  have DA4 := DA3.later k4
  have oA4 := oA3.later k4
  have z4 := k4.size
  simp only [ofR] at ob ⊢
  clear K3 DA3 oA3 k4 hxb
  generalize sg x1 = q0 at *
  generalize L x1.natAbs = m0 at *
  go_wp2_with fail
  refine (pick_any _ R _ 4 K4.rd (by omega) (by omega) (by omega)).mono ?_
  rintro e w5 ⟨y, rfl, hy, r5, g5⟩
  have K5 := (K4.grown g5 r5).alloc (.cells #[.bool q0, .slice ab m0.length cb, .int .i64 y] 27)
  have DA5 := (DA4.grown g5 (by omega)).alloc (.cells #[.bool q0, .slice ab m0.length cb, .int .i64 y] 27)
  have oA5 := (oA4.grown g5 (by omega)).later ((Below.refl _ _).alloc (Nat.le_refl _) (.cells #[.bool q0, .slice ab m0.length cb, .int .i64 y] 27))
  have DB5 := Db.new w5 q0 (.slice ab m0.length cb) y
  have oB5 := (ob.grown g5 (by omega)).later ((Below.refl _ _).alloc (Nat.le_refl _) (.cells #[.bool q0, .slice ab m0.length cb, .int .i64 y] 27))
  have oB5 := oB5.mono (show R + 1 ≤ w3.heap.size by omega)
  have oA5 := oA5.mono (show R + 1 ≤ B1 by omega)
  have z5 := g5.size
  clear K4 DA4 oA4 ob g5 r5
  generalize hB : w5.heap.size = B at *
  have hAB : A < B := by omega
  have hRA : R < A := hR2
  go_wp2_with fail
  generalize w5.alloc (.cells #[.bool q0, .slice ab m0.length cb, .int .i64 y] 27) = W5 at *
  refine (pick_any _ R _ 3 K5.rd (by omega) (by omega) (by omega)).mono ?_
  rintro e w6 ⟨x3, rfl, hx3, r6, g6⟩
  have K6 := K5.grown g6 r6
  have DA6 := DA5.grown g6 (by omega)
  have DB6 := DB5.grown g6 (by omega)
  have oA6 := oA5.grown g6 (by omega)
  have oB6 := oB5.grown g6 (by omega)
  have hR0 := K6.hR
  clear K5 DA5 DB5 oA5 oB5 r6 g6
  by_cases x0 : x3 = 0
  case neg =>
    have x0' : ((x3 : Int) == 0) = false := by rw [beq_eq_false_iff_ne]; omega
    clear x0
    have hn := K6.rd
    have hz0 := DA6.lt
    have hz1 := DB6.lt
    have Stab := hide (fun (w' : World) (hA : Db w' A p (.slice aa l.length ca) s) (hB : Db w' B q0 (.slice ab m0.length cb) y) => (⟨hA.c0, hA.c1, hA.c2, hB.c0, hB.c1, hB.c2⟩ : w'.cell? ⟨A, 0, none⟩ = some (.bool p) ∧ w'.cell? ⟨A, 1, none⟩ = some (.slice aa l.length ca) ∧ w'.cell? ⟨A, 2, none⟩ = some (.int .i64 s) ∧ w'.cell? ⟨B, 0, none⟩ = some (.bool q0) ∧ w'.cell? ⟨B, 1, none⟩ = some (.slice ab m0.length cb) ∧ w'.cell? ⟨B, 2, none⟩ = some (.int .i64 y)))
    have hRR := K6.hR
    have N0 : A ≠ w.heap.size := by omega
    have N1 : A ≠ w.heap.size + 1 := by omega
    have N2 : B ≠ w.heap.size := by omega
    have N3 : B ≠ w.heap.size + 1 := by omega
    have K7 := K6.later (Below.refl _ _).drew
    have DA7 := DA6.later (Below.refl _ _).drew
    have DB7 := DB6.later (Below.refl _ _).drew
    have oA7 := oA6.later (Below.refl _ _).drew
    have oB7 := oB6.later (Below.refl _ _).drew
    clear K6 DA6 DB6 oA6 oB6 hn hz0 hz1
    go_wp2
    go_region_held3 (fun w' => w'.cell? ⟨A, 0, none⟩ = some (.bool p) ∧ w'.cell? ⟨A, 1, none⟩ = some (.slice aa l.length ca) ∧ w'.cell? ⟨A, 2, none⟩ = some (.int .i64 s) ∧ w'.cell? ⟨B, 0, none⟩ = some (.bool q0) ∧ w'.cell? ⟨B, 1, none⟩ = some (.slice ab m0.length cb) ∧ w'.cell? ⟨B, 2, none⟩ = some (.int .i64 y))
      (((repeat' with_reducible refine cells_out6 ?_ (by assumption) (by assumption) _ _ _); first | with_reducible exact unhide Stab _ DA7 DB7 | with_reducible exact unhide Stab _ DA20 DB20 | with_reducible exact unhide Stab _ (DA20.alloc _) (DB20.alloc _) | with_reducible exact unhide Stab _ DA21 DB21 | with_reducible exact unhide Stab _ DA22 DB22))
      (first
        | (go_at_call_of 60 (Value.int IntKind.i64 15); refine (pick_any _ R _ 15 K7.rd (by omega) (by omega) (by omega)).mono ?_; rintro e w20 ⟨x4, rfl, hx4, r20, g20⟩; have K20 := K7.grown g20 r20; have oA20 := oA7.grown g20 (by omega); have oB20 := oB7.grown g20 (by omega); have DA20 := DA7.grown g20 (by omega); have DB20 := DB7.grown g20 (by omega))
        | (go_at_call 68; refine (one_lit w20 R _ [0, 1, 2, 6, 12, IntKind.i64.wrap ((x4 : Int) - 1)] _ rfl K20.rd (by omega) (by simp) (by simp)).mono ?_; rintro e w21 ⟨sc, rfl, hsc, r21, g21⟩; have K21 := K20.grown g21 r21; have oA21 := oA20.grown g21 (by omega); have oB21 := oB20.grown g21 (by omega); have DA21 := DA20.grown g21 (by omega); have DB21 := DB20.grown g21 (by omega))
        | (go_at_call_of 60 (Value.int IntKind.i64 9); refine (pick_any _ R _ 9 K21.rd (by omega) (by omega) (by omega)).mono ?_; rintro e w22 ⟨md, rfl, hmd, r22, g22⟩; have K22 := K21.grown g22 r22; have oA22 := oA21.grown g22 (by omega); have oB22 := oB21.grown g22 (by omega); have DA22 := DA21.grown g22 (by omega); have DB22 := DB21.grown g22 (by omega); obtain ⟨c0, c1, c2, cf0, cf1, cf2, cl⟩ := id K22.e0; obtain ⟨d0, d1, d2, df0, df1, df2, dl⟩ := id K22.e1))
    go_wp2
    refine bodyPost_ret (v := .tuple #[.agg #[.bool p, .slice aa l.length ca, .int .i64 s], .agg #[.bool q0, .slice ab m0.length cb, .int .i64 y], .int .i64 sc, .int .i64 md]) (by simp [results, Tryz.results28, go_sem, c0, c1, c2, d0, d1, d2]) rfl ?_
    exact divD_gives K22.below oA22 oB22 (by omega) (by omega)
  subst x0
  have hBl := DB6.lt
  go_wp2_with fail
  refine (l14AnyDec_any w6 R _ K6.rd (by omega)).mono ?_
  rintro e w8 ⟨q8, m8, t8, ab8, cb8, n8, rfl, hm8, ob8, r8, hn8, g8⟩
  have K8 := K6.grown g8 r8
  have DA8 := DA6.grown g8 (by omega)
  have DB8 := DB6.grown g8 (by omega)
  have oA8 := oA6.grown g8 (by omega)
  clear K6 DA6 DB6 oA6 oB6 r8 g8
  obtain ⟨b0, b1, b2, bf0, bf1, bf2, bl⟩ := id DB8
  have DB9 := DB8.set (q := q8) (u := .slice ab8 m8.length cb8) (t := t8) (j := B) rfl
  have DA9 := DA8.other (q := q8) (u := .slice ab8 m8.length cb8) (t := t8) (j := B) (by omega)
  have E0 := K8.e0.other (q := q8) (u := .slice ab8 m8.length cb8) (t := t8) (j := B) (by omega)
  have E1 := K8.e1.other (q := q8) (u := .slice ab8 m8.length cb8) (t := t8) (j := B) (by omega)
  have K9 : T2 w (((w8.setCell ⟨B, 0, none⟩ (.bool q8)).setCell ⟨B, 1, none⟩ (.slice ab8 m8.length cb8)).setCell ⟨B, 2, none⟩ (.int .i64 t8)) R n8 :=
    ⟨((K8.below.setCell (by simp only; omega) _).setCell (by simp only; omega) _).setCell (by simp only; omega) _, E0, E1, ((K8.rd.set (by simp only; omega) _).set (by simp only; omega) _).set (by simp only; omega) _, K8.hR⟩
  have oA9 : Own (R + 1) (((w8.setCell ⟨B, 0, none⟩ (.bool q8)).setCell ⟨B, 1, none⟩ (.slice ab8 m8.length cb8)).setCell ⟨B, 2, none⟩ (.int .i64 t8)) (.slice aa l.length ca) l := ((oA8.setOther (by intro e; have := hnb _ e; simp only at this; omega) _).setOther (by intro e; have := hnb _ e; simp only at this; omega) _).setOther (by intro e; have := hnb _ e; simp only at this; omega) _
  have oB9 : Own (R + 1) (((w8.setCell ⟨B, 0, none⟩ (.bool q8)).setCell ⟨B, 1, none⟩ (.slice ab8 m8.length cb8)).setCell ⟨B, 2, none⟩ (.int .i64 t8)) (.slice ab8 m8.length cb8) m8 := (((ob8.setBelow (by exact hBl) _).setBelow (by exact hBl) _).setBelow (by exact hBl) _).mono (by omega)
  clear K8 DA8 DB8 oA8 ob8 E0 E1
  go_wp2_with fail
  generalize ((w8.setCell ⟨B, 0, none⟩ (.bool q8)).setCell ⟨B, 1, none⟩ (.slice ab8 m8.length cb8)).setCell ⟨B, 2, none⟩ (.int .i64 t8) = W9 at *
  clear b0 b1 b2 bf0 bf1 bf2 bl
  have hn := K9.rd
  have hz0 := DA9.lt
  have hz1 := DB9.lt
  have Stab := hide (fun (w' : World) (hA : Db w' A p (.slice aa l.length ca) s) (hB : Db w' B q8 (.slice ab8 m8.length cb8) t8) => (⟨hA.c0, hA.c1, hA.c2, hB.c0, hB.c1, hB.c2⟩ : w'.cell? ⟨A, 0, none⟩ = some (.bool p) ∧ w'.cell? ⟨A, 1, none⟩ = some (.slice aa l.length ca) ∧ w'.cell? ⟨A, 2, none⟩ = some (.int .i64 s) ∧ w'.cell? ⟨B, 0, none⟩ = some (.bool q8) ∧ w'.cell? ⟨B, 1, none⟩ = some (.slice ab8 m8.length cb8) ∧ w'.cell? ⟨B, 2, none⟩ = some (.int .i64 t8)))
  have hRR := K9.hR
  have N0 : A ≠ w.heap.size := by omega
  have N1 : A ≠ w.heap.size + 1 := by omega
  have N2 : B ≠ w.heap.size := by omega
  have N3 : B ≠ w.heap.size + 1 := by omega
  have K7 := K9.later (Below.refl _ _).drew
  have DA7 := DA9.later (Below.refl _ _).drew
  have DB7 := DB9.later (Below.refl _ _).drew
  have oA7 := oA9.later (Below.refl _ _).drew
  have oB7 := oB9.later (Below.refl _ _).drew
  clear K9 DA9 DB9 oA9 oB9 hn hz0 hz1
  go_wp2
  go_region_held3 (fun w' => w'.cell? ⟨A, 0, none⟩ = some (.bool p) ∧ w'.cell? ⟨A, 1, none⟩ = some (.slice aa l.length ca) ∧ w'.cell? ⟨A, 2, none⟩ = some (.int .i64 s) ∧ w'.cell? ⟨B, 0, none⟩ = some (.bool q8) ∧ w'.cell? ⟨B, 1, none⟩ = some (.slice ab8 m8.length cb8) ∧ w'.cell? ⟨B, 2, none⟩ = some (.int .i64 t8))
    (((repeat' with_reducible refine cells_out6 ?_ (by assumption) (by assumption) _ _ _); first | with_reducible exact unhide Stab _ DA7 DB7 | with_reducible exact unhide Stab _ DA20 DB20 | with_reducible exact unhide Stab _ (DA20.alloc _) (DB20.alloc _) | with_reducible exact unhide Stab _ DA21 DB21 | with_reducible exact unhide Stab _ DA22 DB22))
    (first
      | (go_at_call_of 60 (Value.int IntKind.i64 15); refine (pick_any _ R _ 15 K7.rd (by omega) (by omega) (by omega)).mono ?_; rintro e w20 ⟨x4, rfl, hx4, r20, g20⟩; have K20 := K7.grown g20 r20; have oA20 := oA7.grown g20 (by omega); have oB20 := oB7.grown g20 (by omega); have DA20 := DA7.grown g20 (by omega); have DB20 := DB7.grown g20 (by omega))
      | (go_at_call 68; refine (one_lit w20 R _ [0, 1, 2, 6, 12, IntKind.i64.wrap ((x4 : Int) - 1)] _ rfl K20.rd (by omega) (by simp) (by simp)).mono ?_; rintro e w21 ⟨sc, rfl, hsc, r21, g21⟩; have K21 := K20.grown g21 r21; have oA21 := oA20.grown g21 (by omega); have oB21 := oB20.grown g21 (by omega); have DA21 := DA20.grown g21 (by omega); have DB21 := DB20.grown g21 (by omega))
      | (go_at_call_of 60 (Value.int IntKind.i64 9); refine (pick_any _ R _ 9 K21.rd (by omega) (by omega) (by omega)).mono ?_; rintro e w22 ⟨md, rfl, hmd, r22, g22⟩; have K22 := K21.grown g22 r22; have oA22 := oA21.grown g22 (by omega); have oB22 := oB21.grown g22 (by omega); have DA22 := DA21.grown g22 (by omega); have DB22 := DB21.grown g22 (by omega); obtain ⟨c0, c1, c2, cf0, cf1, cf2, cl⟩ := id K22.e0; obtain ⟨d0, d1, d2, df0, df1, df2, dl⟩ := id K22.e1))
  go_wp2
  refine bodyPost_ret (v := .tuple #[.agg #[.bool p, .slice aa l.length ca, .int .i64 s], .agg #[.bool q8, .slice ab8 m8.length cb8, .int .i64 t8], .int .i64 sc, .int .i64 md]) (by simp [results, Tryz.results28, go_sem, c0, c1, c2, d0, d1, d2]) rfl ?_
  exact divD_gives K22.below oA22 oB22 (by omega) (by omega)

end Go.Proofs.YthnkmjkgcnhlfaaGreatDoor
