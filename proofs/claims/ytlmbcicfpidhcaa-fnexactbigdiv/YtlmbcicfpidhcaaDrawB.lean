/- Drawn pairs of numbers: l1Open, DrawBigMul by contracts; two numbers held against each other. -/
import Derived.Test.YtlmbcicfpidhcaaG15
import Derived.Test.YtlmbcicfpidhcaaG04
namespace Go.Proofs.Ytlmbcicfpidhcaa
open Go.RowKit

set_option maxHeartbeats 1000000 in
theorem drawMul_any (w : World) (v : Value) (h : Byt w v) : Calls Try.prog 16 #[v] w (DrawsTwo w) := by
  have B0 : Below w.heap.size w ((w.alloc (.cells #[.bool false, .slice none 0 0] 25)).alloc (.cells #[.bool false, .slice none 0 0] 25)) := ((Below.refl _ _).alloc (Nat.le_refl _) _).alloc (by simp) _
  have X0 : BX ((w.alloc (.cells #[.bool false, .slice none 0 0] 25)).alloc (.cells #[.bool false, .slice none 0 0] 25)) w.heap.size := ⟨by go_simp, by go_simp, by go_simp, by go_simp, by simp; omega⟩
  have Y0 : BX ((w.alloc (.cells #[.bool false, .slice none 0 0] 25)).alloc (.cells #[.bool false, .slice none 0 0] 25)) (w.heap.size + 1) := ⟨by go_simp, by go_simp, by go_simp, by go_simp, by simp⟩
  have C := hide (l1Open_any _ v (h.later B0))
  have hsz : ((w.alloc (.cells #[.bool false, .slice none 0 0] 25)).alloc (.cells #[.bool false, .slice none 0 0] 25)).heap.size = w.heap.size + 2 := by simp
  clear h
  go_enter Try.func16, Try.ntmps16
  go_wp2_with fail
  refine (unhide C).mono ?_
  rintro e w1 ⟨rfl, r1, b1, y1⟩
  have B1 := B0.trans (b1.mono B0.size)
  have X1 := X0.grown (r := none) (grown_below b1) (by simp)
  have Y1 := Y0.grown (r := none) (grown_below b1) (by simp)
  rw [hsz] at r1 y1
  simp only [hsz]
  clear C b1 B0 X0 Y0 hsz
  obtain ⟨R, hR⟩ : ∃ R, R = w.heap.size + 2 := ⟨_, rfl⟩
  simp only [← hR] at r1 y1 ⊢
  have hR1 : w.heap.size + 1 < R := by omega
  clear hR
  go_wp2_with fail
  refine (pick_any _ R _ 3 r1 (by omega) (by omega) (by omega)).mono ?_
  rintro e w2 ⟨x, rfl, hx, r2, g2⟩
  have B2 := B1.grown g2 B1.size (by intro k hk; simp at hk; omega)
  have X2 := X1.grown g2 (by simp; omega)
  have Y2 := Y1.grown g2 (by simp; omega)
  clear g2 r1 y1 B1 X1 Y1
  by_cases hx0 : x = 0
  · have hxb : ((x : Int) == 0) = true := by simp [hx0]
    clear hx0
    go_wp2_with fail
    refine (draw64 r2 (by omega)).mono ?_
    rintro e w3 ⟨a, ao, ca, q, rfl, ha, oa, r3, hq, g3⟩
    have B3 := B2.grown g3 B2.size (by intro k hk; simp at hk; omega)
    have X3 := X2.grown g3 (by simp; omega)
    have Y3 := Y2.grown g3 (by simp; omega)
    have hR2 := r2.lt
    clear g3 r2 X2 Y2
    go_wp2_with fail
    refine (draw64 r3 (by omega)).mono ?_
    rintro e w4 ⟨b, bo, cb, q', rfl, hb, ob, r4, hq', g4⟩
    have B4 := B3.grown g4 B3.size (by intro k hk; simp at hk; omega)
    have X4 := X3.grown g4 (by simp; omega)
    have Y4 := Y3.grown g4 (by simp; omega)
    have oa4 := oa.grown g4 hR2
    have hR3 := r3.lt
    clear g4 r3 r4 X3 Y3 oa B3
    have oa5 := oa4.mono (show w.heap.size + 2 ≤ w2.heap.size by omega)
    have ob5 := ob.mono (show w.heap.size + 2 ≤ w3.heap.size by omega)
    clear oa4 ob
    obtain ⟨k0, k1, k2, k3, k4⟩ := id X4
    obtain ⟨j0, j1, j2, j3, j4⟩ := id Y4
    go_wp2
    refine bodyPost_ret (v := .tuple #[.agg #[.bool (sg a), .slice ao (L a.natAbs).length ca], .agg #[.bool (sg b), .slice bo (L b.natAbs).length cb]]) (by simp [results, Try.results16, go_sem, k0, k1, j0, j1]) rfl ?_
    refine ⟨a, b, ao, ca, bo, cb, rfl, ha, hb, ?_, ?_, ?_⟩
    · exact ((((oa5.setBelow (by simp) _).setBelow (by simp) _).setBelow (by simp) _).setBelow (by simp) _).mono (by omega)
    · exact ((((ob5.setBelow (by simp) _).setBelow (by simp) _).setBelow (by simp) _).setBelow (by simp) _).mono (by omega)
    · exact (((B4.setCell (by simp) _).setCell (by simp) _).setCell (by simp) _).setCell (by simp) _
  · have hxb : ((x : Int) == 0) = false := by simp [hx0]
    clear hx0
    go_wp2_with fail
    refine (draw33 r2 (by omega)).mono ?_
    rintro e w3 ⟨a, ao, ca, q, rfl, ha, oa, r3, hq, g3⟩
    have B3 := B2.grown g3 B2.size (by intro k hk; simp at hk; omega)
    have X3 := X2.grown g3 (by simp; omega)
    have Y3 := Y2.grown g3 (by simp; omega)
    have hR2 := r2.lt
    clear g3 r2 X2 Y2
    go_wp2_with fail
    refine (draw33 r3 (by omega)).mono ?_
    rintro e w4 ⟨b, bo, cb, q', rfl, hb, ob, r4, hq', g4⟩
    have B4 := B3.grown g4 B3.size (by intro k hk; simp at hk; omega)
    have X4 := X3.grown g4 (by simp; omega)
    have Y4 := Y3.grown g4 (by simp; omega)
    have oa4 := oa.grown g4 hR2
    have hR3 := r3.lt
    clear g4 r3 r4 X3 Y3 oa B3
    have oa5 := oa4.mono (show w.heap.size + 2 ≤ w2.heap.size by omega)
    have ob5 := ob.mono (show w.heap.size + 2 ≤ w3.heap.size by omega)
    clear oa4 ob
    obtain ⟨k0, k1, k2, k3, k4⟩ := id X4
    obtain ⟨j0, j1, j2, j3, j4⟩ := id Y4
    go_wp2
    refine bodyPost_ret (v := .tuple #[.agg #[.bool (sg a), .slice ao (L a.natAbs).length ca], .agg #[.bool (sg b), .slice bo (L b.natAbs).length cb]]) (by simp [results, Try.results16, go_sem, k0, k1, j0, j1]) rfl ?_
    refine ⟨a, b, ao, ca, bo, cb, rfl, ha, hb, ?_, ?_, ?_⟩
    · exact ((((oa5.setBelow (by simp) _).setBelow (by simp) _).setBelow (by simp) _).setBelow (by simp) _).mono (by omega)
    · exact ((((ob5.setBelow (by simp) _).setBelow (by simp) _).setBelow (by simp) _).setBelow (by simp) _).mono (by omega)
    · exact (((B4.setCell (by simp) _).setCell (by simp) _).setCell (by simp) _).setCell (by simp) _

end Go.Proofs.Ytlmbcicfpidhcaa
