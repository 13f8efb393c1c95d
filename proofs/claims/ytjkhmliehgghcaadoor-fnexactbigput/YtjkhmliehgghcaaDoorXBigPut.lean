/- The law FnExactBigPut: its walk. -/
import Derived.Test.YtjkhmliehgghcaaDoorBgP
import Derived.Test.YtjkhmliehgghcaaDoorLawB
import Derived.Deep.RegionHeld
import Derived.WalkSpells
namespace Go.Proofs.YtjkhmliehgghcaaDoor
open Go.RowKit

theorem xBigPut_walk (w : World) (neg : Bool) (v : Value) (l : List Int) (hr : Reads w v l) (ht : Tab w) :
    Calls Tryd.prog 4 #[.agg #[.bool neg, v]] w fun e w' => e = .returned (.bool true) ∧ Below w.heap.size w w' := by
  by_cases hl : (1048576 : Int) < l.length
  · have h := fun o => szBig_any (w.alloc o) neg v l 1048576 (hr.alloc o) (by omega) (by omega)
    rw [if_pos hl] at h
    have H := hide h
    clear h
    go_enter Tryd.func4, Tryd.ntmps4
    go_wp2_with fail
    refine (unhide H _).mono ?_
    rintro e w1 ⟨rfl, hb1⟩
    go_wp2
    go_ret
    exact ⟨rfl, ((Below.refl _ _).alloc (Nat.le_refl _) _).trans (hb1.mono (by simp))⟩
  · have h := fun o => szBig_any (w.alloc o) neg v l 1048576 (hr.alloc o) (by omega) (by omega)
    rw [if_neg hl] at h
    have H := hide h
    clear h
    have hl' : l.length ≤ 1048576 := by omega
    have hk : (0 : Int) ≤ 1048576 - l.length := by omega
    go_enter Tryd.func4, Tryd.ntmps4
    go_wp2_with fail
    refine (unhide H _).mono ?_
    rintro e w1 ⟨rfl, hb1⟩
    have A0 : w1.cell? ⟨w.heap.size, 0, none⟩ = some (.bool neg) := by rw [hb1.cell (by simp)]; simp
    have A1 : w1.cell? ⟨w.heap.size, 1, none⟩ = some v := by rw [hb1.cell (by simp)]; simp
    have B1 : Below w.heap.size w w1 := ((Below.refl _ _).alloc (Nat.le_refl _) _).trans (hb1.mono (by simp))
    have z1 : w.heap.size < w1.heap.size := by have := hb1.size; simp at this; omega
    clear hb1 H
    go_wp2_with fail
    refine (toBig_any w1 neg v l (hr.later B1) hl').mono ?_
    rintro e w2 ⟨a2, c2, rfl, o2, b2⟩
    have A0' : w2.cell? ⟨w.heap.size, 0, none⟩ = some (.bool neg) := by rw [b2.cell (by exact z1)]; exact A0
    have A1' : w2.cell? ⟨w.heap.size, 1, none⟩ = some v := by rw [b2.cell (by exact z1)]; exact A1
    have B2 : Below w.heap.size w w2 := B1.trans (b2.mono B1.size)
    have z2 : w.heap.size < w2.heap.size := by have := b2.size; omega
    clear A0 A1 b2 z1
    go_wp2_with fail
    refine (specBigPut_any w2 neg _ l o2.reads).mono ?_
    rintro e w3 ⟨rfl, b3⟩
    have A0 : w3.cell? ⟨w.heap.size, 0, none⟩ = some (.bool neg) := by rw [b3.cell (by exact z2)]; exact A0'
    have A1 : w3.cell? ⟨w.heap.size, 1, none⟩ = some v := by rw [b3.cell (by exact z2)]; exact A1'
    have B3 : Below w.heap.size w w3 := B2.trans (b3.mono B2.size)
    have z3 : w.heap.size < w3.heap.size := by have := b3.size; omega
    clear A0' A1' b3 z2 o2
    go_wp2_with fail
    refine (toBig_any w3 neg v l (hr.later B3) hl').mono ?_
    rintro e w4 ⟨a4, c4, rfl, o4, b4⟩
    have A0' : w4.cell? ⟨w.heap.size, 0, none⟩ = some (.bool neg) := by rw [b4.cell (by exact z3)]; exact A0
    have A1' : w4.cell? ⟨w.heap.size, 1, none⟩ = some v := by rw [b4.cell (by exact z3)]; exact A1
    have B4 : Below w.heap.size w w4 := B3.trans (b4.mono B3.size)
    have z4 : w.heap.size < w4.heap.size := by have := b4.size; omega
    clear A0 A1 b4 z3
    go_wp2_with fail
    refine (implBigPut_any _ neg _ l (o4.reads.alloc _) ((ht.later B4).later ((Below.refl _ _).alloc (Nat.le_refl _) _))).mono ?_
    rintro e w5 ⟨rfl, b5⟩
    have A0 : w5.cell? ⟨w.heap.size, 0, none⟩ = some (.bool neg) := by rw [b5.cell (by simp; omega), World.cell?_alloc_lt (h := by exact z4)]; exact A0'
    have A1 : w5.cell? ⟨w.heap.size, 1, none⟩ = some v := by rw [b5.cell (by simp; omega), World.cell?_alloc_lt (h := by exact z4)]; exact A1'
    have X0 : w5.cell? ⟨w4.heap.size, 0, none⟩ = some (.bool neg) := by rw [b5.cell (by simp)]; simp
    have X1 : w5.cell? ⟨w4.heap.size, 1, none⟩ = some (.slice a4 l.length c4) := by rw [b5.cell (by simp)]; simp
    have B45 : Below w4.heap.size w4 w5 := ((Below.refl _ _).alloc (Nat.le_refl _) _).trans (b5.mono (by simp))
    have B5 : Below w.heap.size w w5 := B4.trans (B45.mono B4.size)
    have z5 : w.heap.size < w5.heap.size := by have := B45.size; omega
    have o5 := o4.later B45
    have y5 : w4.heap.size < w5.heap.size := by have := b5.size; simp at this; omega
    clear A0' A1' b5 z4 B45 o4
    generalize putR neg l = d
    go_wp2_with fail
    have stab : ∀ w' : World, Below w5.heap.size w5 w' → (w'.cell? ⟨w.heap.size, 0, none⟩ = some (.bool neg) ∧ w'.cell? ⟨w.heap.size, 1, none⟩ = some v ∧ w'.cell? ⟨w4.heap.size, 0, none⟩ = some (.bool neg) ∧ w'.cell? ⟨w4.heap.size, 1, none⟩ = some (.slice a4 l.length c4)) :=
      fun w' h => ⟨cell_later h A0, cell_later h A1, cell_later h X0, cell_later h X1⟩
    have Stab := hide stab
    clear stab
    go_region_held (fun w' => w'.cell? ⟨w.heap.size, 0, none⟩ = some (.bool neg) ∧ w'.cell? ⟨w.heap.size, 1, none⟩ = some v ∧ w'.cell? ⟨w4.heap.size, 0, none⟩ = some (.bool neg) ∧ w'.cell? ⟨w4.heap.size, 1, none⟩ = some (.slice a4 l.length c4))
      (first | exact unhide Stab _ (Below.refl _ _).drew | exact unhide Stab _ (by assumption))
      (first
      | (go_at_call 17; refine (toBig_any _ neg v l ?_ hl').mono ?_; exact hr.later B5.drew; rintro e w6 ⟨a6, c6, rfl, o6, b6⟩; have B56 : Below w5.heap.size w5 w6 := (Below.refl _ _).drew.trans b6; have o7 := o5.later B56)
      | (go_at_call 18; refine (eqBig_same _ neg _ _ l ?_ ?_).mono ?_; exact o7.reads; exact o6.reads; rintro e w7 ⟨rfl, b7⟩; have B57 := B56.trans (b7.mono B56.size)))
    all_goals
      go_wp2
      go_ret
      exact ⟨rfl, B5.trans (B57.mono B5.size)⟩

end Go.Proofs.YtjkhmliehgghcaaDoor
