/- DrawBigCmp by a contract. -/
import Derived.Test.YtfemobaoedccoaaTwo
namespace Go.Proofs.Ytfemobaoedccoaa
open Go.RowKit

theorem drawCmp_any (w : World) (v : Value) (h : Byt w v) : Calls Try.prog 26 #[v] w (DrawsTwoAny w) := by
  have B0 : Below w.heap.size w ((w.alloc (.cells #[.bool false, .slice none 0 0] 25)).alloc (.cells #[.bool false, .slice none 0 0] 25)) := ((Below.refl _ _).alloc (Nat.le_refl _) _).alloc (by simp) _
  have C := hide (twoBigs_any _ v (h.later B0))
  clear h
  go_enter Try.func26, Try.ntmps26
  go_wp2_with fail
  refine (unhide C).mono ?_
  rintro e w1 ⟨p, q, l, m, ao, ca, bo, cb, rfl, hl, hm, oa, ob, b1⟩
  have d0 : w1.cell? ⟨w.heap.size, 0, none⟩ = some (.bool false) := (b1.cell (p := ⟨w.heap.size, 0, none⟩) (by simp; omega)).trans (by go_simp)
  have d1 : w1.cell? ⟨w.heap.size, 1, none⟩ = some (.slice none 0 0) := (b1.cell (p := ⟨w.heap.size, 1, none⟩) (by simp; omega)).trans (by go_simp)
  have e0 : w1.cell? ⟨w.heap.size + 1, 0, none⟩ = some (.bool false) := (b1.cell (p := ⟨w.heap.size + 1, 0, none⟩) (by simp)).trans (by go_simp)
  have e1 : w1.cell? ⟨w.heap.size + 1, 1, none⟩ = some (.slice none 0 0) := (b1.cell (p := ⟨w.heap.size + 1, 1, none⟩) (by simp)).trans (by go_simp)
  have f0 : ∀ o, w1.frozen? ⟨w.heap.size, o, none⟩ = false := fun o => (b1.frozen (p := ⟨w.heap.size, o, none⟩) (by simp; omega)).trans (by go_simp)
  have f1 : ∀ o, w1.frozen? ⟨w.heap.size + 1, o, none⟩ = false := fun o => (b1.frozen (p := ⟨w.heap.size + 1, o, none⟩) (by simp)).trans (by go_simp)
  have hz : w.heap.size + 1 < w1.heap.size := by have := b1.size; simp at this; omega
  clear C
  go_wp2
  refine bodyPost_ret (v := .tuple #[.agg #[.bool p, .slice ao l.length ca], .agg #[.bool q, .slice bo m.length cb]]) (by simp [results, Try.results26, go_sem, d0, d1, e0, e1]) rfl ⟨p, q, l, m, ao, ca, bo, cb, rfl, hl, hm, ?_, ?_, ?_⟩
  · exact ((((oa.setBelow (by simp only [World.size_alloc]; omega) _).setBelow (by simp only [World.size_alloc]; omega) _).setBelow (by simp only [World.size_alloc]; omega) _).setBelow (by simp only [World.size_alloc]; omega) _).mono (by simp; omega)
  · exact ((((ob.setBelow (by simp only [World.size_alloc]; omega) _).setBelow (by simp only [World.size_alloc]; omega) _).setBelow (by simp only [World.size_alloc]; omega) _).setBelow (by simp only [World.size_alloc]; omega) _).mono (by simp; omega)
  · exact ((((B0.trans (b1.mono B0.size)).setCell (by simp only; omega) _).setCell (by simp only; omega) _).setCell (by simp only; omega) _).setCell (by simp only; omega) _

end Go.Proofs.Ytfemobaoedccoaa
