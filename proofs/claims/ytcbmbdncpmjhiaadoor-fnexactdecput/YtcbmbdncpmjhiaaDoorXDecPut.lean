/- The law FnExactDecPut: its walk. -/
import Derived.Test.YtcbmbdncpmjhiaaDoorDcP
import Derived.Test.YtcbmbdncpmjhiaaDoorLawD
import Derived.Deep.RegionHeld
import Derived.WalkSpells
namespace Go.Proofs.YtcbmbdncpmjhiaaDoor
open Go.RowKit

theorem xDecPut_walk (w : World) (neg : Bool) (v : Value) (l : List Int) (s : Int) (hr : Reads w v l) (ht : Tab w) :
    Calls Tryd.prog 5 #[.agg #[.bool neg, v, .int .i64 s]] w fun e w' => e = .returned (.bool true) ∧ Below w.heap.size w w' := by
  by_cases hl : (1048576 : Int) < l.length
  · have h := fun o => szDec_any (w.alloc o) neg v l s 1048576 (hr.alloc o) (by omega) (by omega)
    rw [if_pos hl] at h
    have H := hide h
    clear h
    go_enter Tryd.func5, Tryd.ntmps5
    go_wp2_with fail
    refine (unhide H _).mono ?_
    rintro e w1 ⟨rfl, hb1⟩
    go_wp2
    go_ret
    exact ⟨rfl, ((Below.refl _ _).alloc (Nat.le_refl _) _).trans (hb1.mono (by simp))⟩
  · have h := fun o => szDec_any (w.alloc o) neg v l s 1048576 (hr.alloc o) (by omega) (by omega)
    rw [if_neg hl] at h
    have H := hide h
    clear h
    have hl' : l.length ≤ 1048576 := by omega
    have hk : (0 : Int) ≤ 1048576 - l.length := by omega
    go_enter Tryd.func5, Tryd.ntmps5
    go_wp2_with fail
    refine (unhide H _).mono ?_
    rintro e w1 ⟨rfl, hb1⟩
    have A0 : w1.cell? ⟨w.heap.size, 0, none⟩ = some (.bool neg) := by rw [hb1.cell (by simp)]; simp
    have A1 : w1.cell? ⟨w.heap.size, 1, none⟩ = some v := by rw [hb1.cell (by simp)]; simp
    have A2 : w1.cell? ⟨w.heap.size, 2, none⟩ = some (.int .i64 s) := by rw [hb1.cell (by simp)]; simp
    have B1 : Below w.heap.size w w1 := ((Below.refl _ _).alloc (Nat.le_refl _) _).trans (hb1.mono (by simp))
    have z1 : w.heap.size < w1.heap.size := by have := hb1.size; simp at this; omega
    clear hb1 H
    go_wp2_with fail
    refine (toDec_any w1 neg v l s (hr.later B1) hl').mono ?_
    rintro e w2 ⟨a2, c2, rfl, o2, b2⟩
    have A0' : w2.cell? ⟨w.heap.size, 0, none⟩ = some (.bool neg) := by rw [b2.cell (by exact z1)]; exact A0
    have A1' : w2.cell? ⟨w.heap.size, 1, none⟩ = some v := by rw [b2.cell (by exact z1)]; exact A1
    have A2' : w2.cell? ⟨w.heap.size, 2, none⟩ = some (.int .i64 s) := by rw [b2.cell (by exact z1)]; exact A2
    have B2 : Below w.heap.size w w2 := B1.trans (b2.mono B1.size)
    have z2 : w.heap.size < w2.heap.size := by have := b2.size; omega
    clear A0 A1 A2 b2 z1
    go_wp2_with fail
    refine (specDecPut_any w2 neg _ l s o2.reads).mono ?_
    rintro e w3 ⟨rfl, b3⟩
    have A0 : w3.cell? ⟨w.heap.size, 0, none⟩ = some (.bool neg) := by rw [b3.cell (by exact z2)]; exact A0'
    have A1 : w3.cell? ⟨w.heap.size, 1, none⟩ = some v := by rw [b3.cell (by exact z2)]; exact A1'
    have A2 : w3.cell? ⟨w.heap.size, 2, none⟩ = some (.int .i64 s) := by rw [b3.cell (by exact z2)]; exact A2'
    have B3 : Below w.heap.size w w3 := B2.trans (b3.mono B2.size)
    have z3 : w.heap.size < w3.heap.size := by have := b3.size; omega
    clear A0' A1' A2' b3 z2 o2
    go_wp2_with fail
    refine (toDec_any w3 neg v l s (hr.later B3) hl').mono ?_
    rintro e w4 ⟨a4, c4, rfl, o4, b4⟩
    have A0' : w4.cell? ⟨w.heap.size, 0, none⟩ = some (.bool neg) := by rw [b4.cell (by exact z3)]; exact A0
    have A1' : w4.cell? ⟨w.heap.size, 1, none⟩ = some v := by rw [b4.cell (by exact z3)]; exact A1
    have A2' : w4.cell? ⟨w.heap.size, 2, none⟩ = some (.int .i64 s) := by rw [b4.cell (by exact z3)]; exact A2
    have B4 : Below w.heap.size w w4 := B3.trans (b4.mono B3.size)
    have z4 : w.heap.size < w4.heap.size := by have := b4.size; omega
    clear A0 A1 A2 b4 z3
    go_wp2_with fail
    refine (implDecPut_any _ neg _ l s (o4.reads.alloc _) ((ht.later B4).later ((Below.refl _ _).alloc (Nat.le_refl _) _))).mono ?_
    rintro e w5 ⟨rfl, b5⟩
    have A0 : w5.cell? ⟨w.heap.size, 0, none⟩ = some (.bool neg) := by rw [b5.cell (by simp; omega), World.cell?_alloc_lt (h := by exact z4)]; exact A0'
    have A1 : w5.cell? ⟨w.heap.size, 1, none⟩ = some v := by rw [b5.cell (by simp; omega), World.cell?_alloc_lt (h := by exact z4)]; exact A1'
    have A2 : w5.cell? ⟨w.heap.size, 2, none⟩ = some (.int .i64 s) := by rw [b5.cell (by simp; omega), World.cell?_alloc_lt (h := by exact z4)]; exact A2'
    have X0 : w5.cell? ⟨w4.heap.size, 0, none⟩ = some (.bool neg) := by rw [b5.cell (by simp)]; simp
    have X1 : w5.cell? ⟨w4.heap.size, 1, none⟩ = some (.slice a4 l.length c4) := by rw [b5.cell (by simp)]; simp
    have X2 : w5.cell? ⟨w4.heap.size, 2, none⟩ = some (.int .i64 s) := by rw [b5.cell (by simp)]; simp
    have B45 : Below w4.heap.size w4 w5 := ((Below.refl _ _).alloc (Nat.le_refl _) _).trans (b5.mono (by simp))
    have B5 : Below w.heap.size w w5 := B4.trans (B45.mono B4.size)
    have z5 : w.heap.size < w5.heap.size := by have := B45.size; omega
    have o5 := o4.later B45
    have y5 : w4.heap.size < w5.heap.size := by have := b5.size; simp at this; omega
    clear A0' A1' A2' b5 z4 B45 o4
    generalize dputR neg l s = d
    go_wp2_with fail
    have stab : ∀ w' : World, Below w5.heap.size w5 w' → (w'.cell? ⟨w.heap.size, 0, none⟩ = some (.bool neg) ∧ w'.cell? ⟨w.heap.size, 1, none⟩ = some v ∧ w'.cell? ⟨w.heap.size, 2, none⟩ = some (.int .i64 s) ∧ w'.cell? ⟨w4.heap.size, 0, none⟩ = some (.bool neg) ∧ w'.cell? ⟨w4.heap.size, 1, none⟩ = some (.slice a4 l.length c4) ∧ w'.cell? ⟨w4.heap.size, 2, none⟩ = some (.int .i64 s)) :=
      fun w' h => ⟨cell_later h A0, cell_later h A1, cell_later h A2, cell_later h X0, cell_later h X1, cell_later h X2⟩
    have Stab := hide stab
    clear stab
    go_region_held (fun w' => w'.cell? ⟨w.heap.size, 0, none⟩ = some (.bool neg) ∧ w'.cell? ⟨w.heap.size, 1, none⟩ = some v ∧ w'.cell? ⟨w.heap.size, 2, none⟩ = some (.int .i64 s) ∧ w'.cell? ⟨w4.heap.size, 0, none⟩ = some (.bool neg) ∧ w'.cell? ⟨w4.heap.size, 1, none⟩ = some (.slice a4 l.length c4) ∧ w'.cell? ⟨w4.heap.size, 2, none⟩ = some (.int .i64 s))
      (first | exact unhide Stab _ (Below.refl _ _).drew | exact unhide Stab _ (by assumption))
      (first
      | (go_at_call 8; refine (toDec_any _ neg v l s ?_ hl').mono ?_; exact hr.later B5.drew; rintro e w6 ⟨a6, c6, rfl, o6, b6⟩; have B56 : Below w5.heap.size w5 w6 := (Below.refl _ _).drew.trans b6; have o7 := o5.later B56)
      | (go_at_call 10; refine (eqDec_same _ neg _ _ l s ?_ ?_).mono ?_; exact o7.reads; exact o6.reads; rintro e w7 ⟨rfl, b7⟩; have B57 := B56.trans (b7.mono B56.size)))
    all_goals
      go_wp2
      go_ret
      exact ⟨rfl, B5.trans (B57.mono B5.size)⟩

end Go.Proofs.YtcbmbdncpmjhiaaDoor
