/- Cells behind later calls. What numbers answer; l1Big of the specification. A box of a number that stands empty while a call goes on. Shapes of what is owned. Texts of figures: l1FromFigures by a contract. -/
import Derived.Test.YthnkmjkgcnhlfaaGreatDoorH03
import Derived.WalkSpells
import Derived.Test.YthnkmjkgcnhlfaaGreatDoorH02
namespace Go.Proofs.YthnkmjkgcnhlfaaGreatDoor
open Go.RowKit
set_option maxRecDepth 100000


theorem frozen_later {w w1 : World} {b o : Nat} (hb : Below w.heap.size w w1) (h : w.frozen? ⟨b, o, none⟩ = false) (hz : b < w.heap.size) : w1.frozen? ⟨b, o, none⟩ = false :=
  (hb.frozen (p := ⟨b, o, none⟩) hz).trans h

theorem lt_later {w w1 : World} {b : Nat} (hb : Below w.heap.size w w1) (hz : b < w.heap.size) : b < w1.heap.size := Nat.lt_of_lt_of_le hz hb.size

theorem cell_set2 {w : World} {b o c : Nat} {x : Value} (h : w.cell? ⟨b, o, none⟩ = some x) (hne : b ≠ c) (u u' : Value) : ((w.setCell ⟨c, 0, none⟩ u).setCell ⟨c, 1, none⟩ u').cell? ⟨b, o, none⟩ = some x := by
  have e : ((w.setCell ⟨c, 0, none⟩ u).setCell ⟨c, 1, none⟩ u').heap[b]? = w.heap[b]? := by
    rw [Below.heap_setCell _ _ _ _ (by exact hne), Below.heap_setCell _ _ _ _ (by exact hne)]
  exact (World.cell?_of_block (a := ⟨b, o, none⟩) e).trans h

/-- An owned list stays while a cell of another block is written that holds no list of ints. -/
theorem Own.setOther {B : Nat} {w : World} {v : Value} {l : List Int} (h : Own B w v l) {a : Addr} (ha : v.ownBlock ≠ some a.block) (u : Value) : Own B (w.setCell a u) v l :=
  World.ownsRow.kept (row := some a.block) h ⟨rfl, rfl, rfl, by simp, fun k _ hk => Below.heap_setCell w a u k (fun e => hk (by rw [e]))⟩ (.inr ha)

end Go.Proofs.YthnkmjkgcnhlfaaGreatDoor

namespace Go.Proofs.YthnkmjkgcnhlfaaGreatDoor
open Go.RowKit
set_option maxRecDepth 100000

theorem l1Big_any (w : World) (neg : Bool) (v : Value) (z : Int) (hneg : z ≠ 0 → neg = sg z) (hr : Reads w v (L z.natAbs)) (hz : z.natAbs < 10000 ^ 200) :
    Calls Tryz.prog 96 #[.bool neg, v] w (GivesBig2 w (outR true z)) := by
  have hl := L_len_le hz
  have ht : trim (L z.natAbs) = L z.natAbs := trim_self (L_last _)
  have hcall := fun o => l1Trim_any (w.alloc o) v (L z.natAbs) (hr.alloc o) (by omega)
  rw [ht] at hcall
  have eo1 : 16 < (L z.natAbs).length → outR true z = (false, [], false) := fun h => by unfold outR; rw [if_neg (by omega)]
  have eo2 : ¬ 16 < (L z.natAbs).length → outR true z = (sg z, L z.natAbs, true) := fun h => by unfold outR; rw [if_pos ⟨rfl, by omega⟩]
  have e0 : (L z.natAbs).length = 0 → sg z = false := fun h => by
    have := L_len_zero.1 h
    have e : z = 0 := by omega
    simp [sg, e]
  have e1 : (L z.natAbs).length ≠ 0 → neg = sg z := fun h => hneg (fun k => h (by simp [k, L_zero]))
  clear hneg ht hz
  generalize outR true z = O at *
  generalize L z.natAbs = ll at *
  generalize sg z = sz at *
  have HC := hide hcall
  obtain ⟨ao, b, off, cap, rfl, hr⟩ := hr
  clear hr hcall
  have E1 := hide e1
  have E0 := hide e0
  have EO1 := hide eo1
  have EO2 := hide eo2
  clear e0 e1 eo1 eo2
  go_enter Tryz.func96, Tryz.ntmps96
  go_wp2_with fail
  refine (unhide HC _).mono ?_
  rintro e w1 ⟨ao1, cap1, rfl, o1, b1⟩
  obtain ⟨hc, hf⟩ := bcell b1
  have hsz : w.heap.size < w1.heap.size := by have := b1.size; simp at this; omega
  have fin : Below w.heap.size w w1 := ((Below.refl _ _).alloc (Nat.le_refl _) _).trans (b1.mono (by simp))
  have fin2 : ∀ x y, Below w.heap.size w ((w1.setCell ⟨w.heap.size, 0, none⟩ x).setCell ⟨w.heap.size, 1, none⟩ y) := fun x y => (fin.setCell (Nat.le_refl _) _).setCell (Nat.le_refl _) _
  have fin3 : ∀ x y, Own w.heap.size ((w1.setCell ⟨w.heap.size, 0, none⟩ x).setCell ⟨w.heap.size, 1, none⟩ y) (.slice ao1 ll.length cap1) ll := fun x y => ((o1.setBelow (by simp) x).setBelow (by simp) y).mono (by simp)
  clear o1
  by_cases h16 : 16 < ll.length
  · have Heo := hide (unhide EO1 h16)
    go_wp2
    refine bodyPost_ret (v := .tuple #[.agg #[.bool false, .slice none 0 0], .bool false]) (by simp [results, Tryz.results96, go_sem, hc]) rfl ?_
    rw [unhide Heo]
    exact ⟨none, 0, rfl, Own.nil _ _, fin2 _ _⟩
  · have Heo := hide (unhide EO2 h16)
    by_cases h0 : ll.length = 0
    · have Es := hide (unhide E0 h0)
      have hz1 : ¬ 0 < ll.length := by omega
      clear h0
      cases neg
      all_goals
        go_wp2
        refine bodyPost_ret (v := .tuple #[.agg #[.bool false, .slice ao1 ll.length cap1], .bool true]) (by simp [results, Tryz.results96, go_sem, hc]) rfl ?_
        rw [unhide Heo, unhide Es]
        exact ⟨ao1, cap1, rfl, fin3 _ _, fin2 _ _⟩
    · have Es := hide (unhide E1 h0)
      have hp : 0 < ll.length := by omega
      clear h0
      cases neg
      · go_wp2
        refine bodyPost_ret (v := .tuple #[.agg #[.bool false, .slice ao1 ll.length cap1], .bool true]) (by simp [results, Tryz.results96, go_sem, hc]) rfl ?_
        rw [unhide Heo, ← unhide Es]
        exact ⟨ao1, cap1, rfl, fin3 _ _, fin2 _ _⟩
      · go_wp2
        refine bodyPost_ret (v := .tuple #[.agg #[.bool true, .slice ao1 ll.length cap1], .bool true]) (by simp [results, Tryz.results96, go_sem, hc]) rfl ?_
        rw [unhide Heo, ← unhide Es]
        exact ⟨ao1, cap1, rfl, fin3 _ _, fin2 _ _⟩

end Go.Proofs.YthnkmjkgcnhlfaaGreatDoor

namespace Go.Proofs.YthnkmjkgcnhlfaaGreatDoor
open Go.RowKit


/-- The place for an answer, made first. -/
structure EBox' (w0 w : World) : Prop where
  below : Below w0.heap.size w0 w
  c0 : w.cell? ⟨w0.heap.size, 0, none⟩ = some (.bool false)
  c1 : w.cell? ⟨w0.heap.size, 1, none⟩ = some (.slice none 0 0)
  f0 : w.frozen? ⟨w0.heap.size, 0, none⟩ = false
  f1 : w.frozen? ⟨w0.heap.size, 1, none⟩ = false
  lt : w0.heap.size < w.heap.size

theorem EBox'.later {w0 w w' : World} (h : EBox' w0 w) (b : Below w.heap.size w w') : EBox' w0 w' :=
  ⟨h.below.trans (b.mono h.below.size), cell_later b h.c0, cell_later b h.c1, frozen_later b h.f0 h.lt, frozen_later b h.f1 h.lt, lt_later b h.lt⟩

theorem EBox'.start (w : World) : EBox' w (w.alloc (.cells #[.bool false, .slice none 0 0] 25)) :=
  ⟨(Below.refl _ _).alloc (Nat.le_refl _) _, by go_simp, by go_simp, by go_simp, by go_simp, by simp⟩

end Go.Proofs.YthnkmjkgcnhlfaaGreatDoor

namespace Go.Proofs.YthnkmjkgcnhlfaaGreatDoor
open Go.RowKit


theorem EBox'.later1 {w0 w w' : World} (h : EBox' w0 w) (b : Below (w0.heap.size + 1) w w') : EBox' w0 w' :=
  ⟨h.below.trans (b.mono (Nat.le_succ _)), (b.cell (p := ⟨w0.heap.size, 0, none⟩) (Nat.lt_succ_self _)).trans h.c0, (b.cell (p := ⟨w0.heap.size, 1, none⟩) (Nat.lt_succ_self _)).trans h.c1, (b.frozen (p := ⟨w0.heap.size, 0, none⟩) (Nat.lt_succ_self _)).trans h.f0, (b.frozen (p := ⟨w0.heap.size, 1, none⟩) (Nat.lt_succ_self _)).trans h.f1, Nat.lt_of_lt_of_le h.lt b.size⟩

end Go.Proofs.YthnkmjkgcnhlfaaGreatDoor

namespace Go.Proofs.YthnkmjkgcnhlfaaGreatDoor
open Go.RowKit

end Go.Proofs.YthnkmjkgcnhlfaaGreatDoor
