/- DrawBigDiv by a contract. -/
import Derived.Test.YtfemobaoedccoaaAny
import Derived.Test.YtfemobaoedccoaaDrawB
namespace Go.Proofs.Ytfemobaoedccoaa
open Go.RowKit

/-- What a call answers that draws two numbers, ok or not. -/
def DrawsTwoAny (w : World) (e : Ending) (w' : World) : Prop :=
  ∃ (p q : Bool) (l m : List Int) (ao : Option Addr) (ca : Nat) (bo : Option Addr) (cb : Nat), e = .returned (.tuple #[.agg #[.bool p, .slice ao l.length ca], .agg #[.bool q, .slice bo m.length cb]]) ∧ l.length ≤ 17 ∧ m.length ≤ 17 ∧
    Own w.heap.size w' (.slice ao l.length ca) l ∧ Own w.heap.size w' (.slice bo m.length cb) m ∧ Below w.heap.size w w'

theorem drawZ {w : World} {R p : Nat} (hr : RD w R p) (hp : p ≤ 90000) (z : Int) (h1 : 1 ≤ z) (h2 : z ≤ 64) : Calls Try.prog 46 #[.pointer (some ⟨R, 0, none⟩), .int .i64 z] w (Draws w R p 200) := by
  obtain ⟨n, rfl⟩ := Int.eq_ofNat_of_zero_le (show 0 ≤ z by omega)
  exact l14Big_any w R p n hr hp (by omega) (by omega)

set_option maxHeartbeats 1000000 in
theorem drawDiv_any (w : World) (v : Value) (h : Byt w v) : Calls Try.prog 23 #[v] w (DrawsTwoAny w) := by
  have B0 : Below w.heap.size w ((w.alloc (.cells #[.bool false, .slice none 0 0] 25)).alloc (.cells #[.bool false, .slice none 0 0] 25)) := ((Below.refl _ _).alloc (Nat.le_refl _) _).alloc (by simp) _
  have X0 : BX ((w.alloc (.cells #[.bool false, .slice none 0 0] 25)).alloc (.cells #[.bool false, .slice none 0 0] 25)) w.heap.size := ⟨by go_simp, by go_simp, by go_simp, by go_simp, by simp; omega⟩
  have Y0 : BX ((w.alloc (.cells #[.bool false, .slice none 0 0] 25)).alloc (.cells #[.bool false, .slice none 0 0] 25)) (w.heap.size + 1) := ⟨by go_simp, by go_simp, by go_simp, by go_simp, by simp⟩
  have C := hide (l1Open_any _ v (h.later B0))
  have hsz : ((w.alloc (.cells #[.bool false, .slice none 0 0] 25)).alloc (.cells #[.bool false, .slice none 0 0] 25)).heap.size = w.heap.size + 2 := by simp
  clear h
  go_enter Try.func23, Try.ntmps23
  go_wp2_with fail
  refine (unhide C).mono ?_
  rintro e w1 ⟨rfl, r1, b1, y1⟩
  have B1 := B0.trans (b1.mono B0.size)
  have X1 := X0.grown (r := none) (grown_below b1) (by simp)
  have Y1 := Y0.grown (r := none) (grown_below b1) (by simp)
  rw [hsz] at r1 y1
  simp only [hsz]
  clear C b1 B0 X0 Y0 hsz
  obtain ⟨R, hR⟩ : ∃ R, R = w.heap.size + 2 := ⟨_, rfl⟩
  simp only [← hR] at r1 y1 ⊢
  have hR1 : w.heap.size + 1 < R := by omega
  clear hR
  have hRw := r1.lt
  go_wp2_with fail
  refine (l14AnyBig_any _ R _ r1 (by omega)).mono ?_
  rintro e w2 ⟨p, l, ao, ca, k, rfl, hl, oa, r2, hk, g2⟩
  have B2 := B1.grown g2 B1.size (by intro k hk; simp at hk; omega)
  have X2 := X1.grown g2 (by simp; omega)
  have Y2 := Y1.grown g2 (by simp; omega)
  have hsz2 := g2.size
  clear g2 r1 y1 B1 X1 Y1
  have al2 : Below w2.heap.size w2 (w2.alloc (.cells #[.bool p, .slice ao l.length ca] 25)) := (Below.refl _ _).alloc (Nat.le_refl _) _
  have zw2 : R < w2.heap.size := r2.lt
  have hw12 : w1.heap.size ≤ w2.heap.size := hsz2
  have c0 : (w2.alloc (.cells #[.bool p, .slice ao l.length ca] 25)).cell? ⟨w2.heap.size, 0, none⟩ = some (.bool p) := by go_simp
  have c1 : (w2.alloc (.cells #[.bool p, .slice ao l.length ca] 25)).cell? ⟨w2.heap.size, 1, none⟩ = some (.slice ao l.length ca) := by go_simp
  have sz3 : (w2.alloc (.cells #[.bool p, .slice ao l.length ca] 25)).heap.size = w2.heap.size + 1 := World.size_alloc _ _
  have Ba := B2.trans (al2.mono B2.size)
  have Xa := X2.grown (r := none) (grown_below al2) (by simp)
  have Ya := Y2.grown (r := none) (grown_below al2) (by simp)
  have ra := r2.later al2
  have oaa := oa.later al2
  go_wp2_with fail
  clear al2 B2 X2 Y2 r2 oa
  generalize w2.alloc (.cells #[.bool p, .slice ao l.length ca] 25) = wa at *
  refine (pick_any _ R _ 8 ra (by omega) (by omega) (by omega)).mono ?_
  rintro e w3 ⟨x, rfl, hx, r3, g3⟩
  have B3 := Ba.grown g3 Ba.size (by intro k hk; simp at hk; omega)
  have X3 := Xa.grown g3 (by simp; omega)
  have Y3 := Ya.grown g3 (by simp; omega)
  have oa3 := oaa.grown g3 (by omega)
  have sz4 := g3.size
  have stab : ∀ w' : World, w3.grownBy w' (some R) → (w'.cell? ⟨w2.heap.size, 0, none⟩ = some (.bool p) ∧ w'.cell? ⟨w2.heap.size, 1, none⟩ = some (.slice ao l.length ca)) := fun w' g =>
    ⟨(World.cell?_of_block (w := w3) (a := ⟨w2.heap.size, 0, none⟩) (g.block w2.heap.size (by omega) (by simp; omega))).trans ((World.cell?_of_block (w := wa) (a := ⟨w2.heap.size, 0, none⟩) (g3.block w2.heap.size (by omega) (by simp; omega))).trans c0),
      (World.cell?_of_block (w := w3) (a := ⟨w2.heap.size, 1, none⟩) (g.block w2.heap.size (by omega) (by simp; omega))).trans ((World.cell?_of_block (w := wa) (a := ⟨w2.heap.size, 1, none⟩) (g3.block w2.heap.size (by omega) (by simp; omega))).trans c1)⟩
  have Stab := hide stab
  have GW0 : w3.grownBy w3.drew (some R) := grown_below (Below.refl _ _).drew
  have r3d := r3.later (Below.refl _ _).drew
  clear stab g3 ra Ba Xa Ya oaa c0 c1
  by_cases hx0 : x = 0
  · have hxb : ((x : Int) == 0) = true := by simp [hx0]
    clear hx0
    go_wp2_with fail
    go_region_held (fun w' => w'.cell? ⟨w2.heap.size, 0, none⟩ = some (.bool p) ∧ w'.cell? ⟨w2.heap.size, 1, none⟩ = some (.slice ao l.length ca))
      (first | with_reducible exact unhide Stab _ GW0 | with_reducible exact unhide Stab _ GW4 | (obtain ⟨s1, s2⟩ := unhide Stab _ GW4; with_reducible exact ⟨cell_set2 s1 (by omega) _ _, cell_set2 s2 (by omega) _ _⟩) | (obtain ⟨s1, s2⟩ := unhide Stab _ GW4; with_reducible exact ⟨cell_set2 (cell_set2 s1 (by omega) _ _) (by omega) _ _, cell_set2 (cell_set2 s2 (by omega) _ _) (by omega) _ _⟩))
      (first
        | (go_at_call 56; refine (l14AnyBig_any _ R _ r3d (by omega)).mono ?_; rintro e w4 ⟨q, m, bo, cb, k', rfl, hm, ob, r4, hk', g4⟩; have GW4 : w3.grownBy w4 (some R) := grown_trans GW0 g4; have X4 := X3.grown GW4 (by simp; omega); have Y4 := Y3.grown GW4 (by simp; omega); have B4 := B3.grown GW4 B3.size (by intro k hk; simp at hk; omega); have oa4 := oa3.grown GW4 (by omega); have i0 := X4.c0; have i1 := X4.c1; have i2 := X4.f0; have i3 := X4.f1; have j0 := Y4.c0; have j1 := Y4.c1; have j2 := Y4.f0; have j3 := Y4.f1))
    have z4 : w3.heap.size ≤ w4.heap.size := GW4.size
    have z3d : w3.drew.heap.size = w3.heap.size := rfl
    have ob6 := ob.mono (show w.heap.size + 2 ≤ w3.drew.heap.size by omega)
    go_wp2
    refine bodyPost_ret (v := .tuple #[.agg #[.bool p, .slice ao l.length ca], .agg #[.bool q, .slice bo m.length cb]]) (by simp [results, Try.results23, go_sem, i0, i1, j0, j1]) rfl ?_
    refine ⟨p, q, l, m, ao, ca, bo, cb, rfl, hl, by omega, ?_, ?_, ?_⟩
    · exact ((((oa4.setBelow (by simp only; omega) _).setBelow (by simp only; omega) _).setBelow (by simp only; omega) _).setBelow (by simp only; omega) _).mono (by omega)
    · exact ((((ob6.setBelow (by simp) _).setBelow (by simp) _).setBelow (by simp) _).setBelow (by simp) _).mono (by omega)
    · exact (((B4.setCell (by simp) _).setCell (by simp) _).setCell (by simp) _).setCell (by simp) _
  · have hxb : ((x : Int) == 0) = false := by simp [hx0]
    clear hx0
    go_wp2_with fail
    go_region_held (fun w' => w'.cell? ⟨w2.heap.size, 0, none⟩ = some (.bool p) ∧ w'.cell? ⟨w2.heap.size, 1, none⟩ = some (.slice ao l.length ca))
      (first | with_reducible exact unhide Stab _ GW0 | with_reducible exact unhide Stab _ GW4 | with_reducible exact unhide Stab _ GW5 | (obtain ⟨s1, s2⟩ := unhide Stab _ GW5; with_reducible exact ⟨cell_set2 s1 (by omega) _ _, cell_set2 s2 (by omega) _ _⟩) | (obtain ⟨s1, s2⟩ := unhide Stab _ GW5; with_reducible exact ⟨cell_set2 (cell_set2 s1 (by omega) _ _) (by omega) _ _, cell_set2 (cell_set2 s2 (by omega) _ _) (by omega) _ _⟩))
      (first
        | (go_at_call 45; refine (pick_any _ R _ 34 r3d (by omega) (by omega) (by omega)).mono ?_; rintro e w4 ⟨y, rfl, hy, r4, g4⟩; have GW4 : w3.grownBy w4 (some R) := grown_trans GW0 g4)
        | (go_at_call 46; refine (drawZ r4 (by omega) _ (by first | omega | (rw [IntKind.wrap_i64]; omega)) (by first | omega | (rw [IntKind.wrap_i64]; omega))).mono ?_; rintro e w5 ⟨b, bo, cb, k', rfl, hb, ob, r5, hk', g5⟩; have GW5 : w3.grownBy w5 (some R) := grown_trans GW4 g5; have X5 := X3.grown GW5 (by simp; omega); have Y5 := Y3.grown GW5 (by simp; omega); have B5 := B3.grown GW5 B3.size (by intro k hk; simp at hk; omega); have oa5 := oa3.grown GW5 (by omega); have i0 := X5.c0; have i1 := X5.c1; have i2 := X5.f0; have i3 := X5.f1; have j0 := Y5.c0; have j1 := Y5.c1; have j2 := Y5.f0; have j3 := Y5.f1))
    have z4 : w3.heap.size ≤ w4.heap.size := GW4.size
    have ob6 := ob.mono (show w.heap.size + 2 ≤ w4.heap.size by omega)
    go_wp2
    refine bodyPost_ret (v := .tuple #[.agg #[.bool p, .slice ao l.length ca], .agg #[.bool (sg b), .slice bo (L b.natAbs).length cb]]) (by simp [results, Try.results23, go_sem, i0, i1, j0, j1]) rfl ?_
    refine ⟨p, (sg b), l, (L b.natAbs), ao, ca, bo, cb, rfl, hl, by omega, ?_, ?_, ?_⟩
    · exact ((((oa5.setBelow (by simp only; omega) _).setBelow (by simp only; omega) _).setBelow (by simp only; omega) _).setBelow (by simp only; omega) _).mono (by omega)
    · exact ((((ob6.setBelow (by simp) _).setBelow (by simp) _).setBelow (by simp) _).setBelow (by simp) _).mono (by omega)
    · exact (((B5.setCell (by simp) _).setCell (by simp) _).setCell (by simp) _).setCell (by simp) _

end Go.Proofs.Ytfemobaoedccoaa
