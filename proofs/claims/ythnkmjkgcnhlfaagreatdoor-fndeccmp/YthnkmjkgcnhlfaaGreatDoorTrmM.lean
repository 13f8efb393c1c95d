/- A trimmed decimal: the same number, and one place less is another. Plain mathematics. -/
import Derived.Test.YthnkmjkgcnhlfaaGreatDoorNumD
import Derived.Test.YthnkmjkgcnhlfaaGreatDoorH18
namespace Go.Proofs.YthnkmjkgcnhlfaaGreatDoor
open Go.RowKit

theorem trimN_all : ∀ (s a : Nat), (trimN a s).2 ≤ s ∧ (trimN a s).1 * 10 ^ (s - (trimN a s).2) = a ∧ (0 < (trimN a s).2 → (trimN a s).1 % 10 ≠ 0)
  | 0, a => by rw [trimN_zero]; simp
  | s + 1, a => by
    by_cases h : a % 10 = 0
    · rw [trimN_step h]
      obtain ⟨i1, i2, i3⟩ := trimN_all s (a / 10)
      refine ⟨by omega, ?_, i3⟩
      rw [show s + 1 - (trimN (a / 10) s).2 = s - (trimN (a / 10) s).2 + 1 by omega, Nat.pow_succ, ← Nat.mul_assoc, i2]
      omega
    · rw [trimN_stop h]
      exact ⟨Nat.le_refl _, by simp, fun _ => h⟩

theorem trimN_again (a s : Nat) : trimN (trimN a s).1 (trimN a s).2 = trimN a s := by
  obtain ⟨-, -, h3⟩ := trimN_all s a
  generalize trimN a s = r at *
  obtain ⟨b, k⟩ := r
  cases k with
  | zero => exact trimN_zero b
  | succ k => exact trimN_stop (h3 (Nat.succ_pos _))

theorem sg_zof {z : Int} {n : Nat} (h : z ≠ 0 → n ≠ 0) : sg (zof (sg z) n) = sg z ∨ z = 0 := by
  by_cases hz : z = 0
  · exact .inr hz
  · left
    have := h hz
    unfold sg zof
    by_cases k : z < 0
    · rw [if_pos (by simpa using k), decide_eq_decide]
      omega
    · rw [if_neg (by simpa using k), decide_eq_decide]
      omega

/-- What trimming makes of a decimal. -/
theorem dtrim_z {z s : Int} (h : decB (sg z) (L z.natAbs) s = true) :
    ∃ (x : Int) (k : Nat), dtrimR (sg z) (L z.natAbs) s = (sg x, L x.natAbs, (k : Int)) ∧ (k : Int) ≤ s ∧ x * ((10 ^ (s - k).toNat : Nat) : Int) = z ∧ (0 < k → x.natAbs % 10 ≠ 0) ∧ x.natAbs ≤ z.natAbs ∧ trimN x.natAbs k = (x.natAbs, k) := by
  obtain ⟨-, -, h0, h1⟩ := decB_iff.1 h
  obtain ⟨t1, t2, t3⟩ := trimN_all s.toNat z.natAbs
  have t4 := trimN_again z.natAbs s.toNat
  have t5 := trimN_le s.toNat z.natAbs
  have e : dtrimR (sg z) (L z.natAbs) s = (sg z, L (trimN z.natAbs s.toNat).1, ((trimN z.natAbs s.toNat).2 : Int)) := by
    unfold dtrimR
    rw [if_pos h, val_zD]
  rw [e]
  generalize trimN z.natAbs s.toNat = r at *
  obtain ⟨b, k⟩ := r
  simp only at *
  have hb : z ≠ 0 → b ≠ 0 := fun hz e => by
    subst e
    rw [Nat.zero_mul] at t2
    omega
  refine ⟨zof (sg z) b, k, ?_, by omega, ?_, ?_, ?_, ?_⟩
  · rw [zof_abs2]
    rcases sg_zof hb with c | c
    · rw [c]
    · subst c
      have : b = 0 := by
        rcases Nat.eq_zero_or_pos b with q | q
        · exact q
        · have := Nat.mul_pos q (Nat.pow_pos (n := s.toNat - k) (show 0 < 10 by decide))
          omega
      subst this
      rfl
  · rw [show (s - k).toNat = s.toNat - k by omega]
    have hz : zof (sg z) (b * 10 ^ (s.toNat - k)) = z := by rw [t2, zof_sg_abs]
    refine Eq.trans ?_ hz
    generalize 10 ^ (s.toNat - k) = m
    generalize sg z = g
    unfold zof
    split
    · rw [Int.natCast_mul, Int.neg_mul]
    · rw [Int.natCast_mul]
  · rw [zof_abs2]; exact t3
  · rw [zof_abs2]; exact t5
  · rw [zof_abs2]; exact t4

/-- Rounding a trimmed decimal down by a place. -/
theorem down_z {x : Int} {k : Nat} (h : decB (sg x) (L x.natAbs) k = true) (hk : 0 < k) (h10 : x.natAbs % 10 ≠ 0) (hfit : ∀ y : Int, y.natAbs ≤ x.natAbs → (txtL (L y.natAbs)).length ≤ 30) :
    ∃ y : Int, droundR (sg x) (L x.natAbs) k ((k : Int) - 1) 2 = (sg y, L y.natAbs, (k : Int) - 1, 0) ∧ decB (sg y) (L y.natAbs) ((k : Int) - 1) = true ∧ y * 10 ≠ x := by
  obtain ⟨-, -, h0, h1⟩ := decB_iff.1 h
  have e := dround_z (t := (k : Int) - 1) (mode := 2) h ⟨by omega, by omega⟩ ⟨by omega, by omega⟩
  rw [show ((k : Int) - 1 - k).toNat = 0 by omega, show ((k : Int) - ((k : Int) - 1)).toNat = 1 by omega, Nat.pow_zero, Nat.pow_one, show ((1 : Nat) : Int) = 1 from rfl, Int.mul_one] at e
  have hr : resZ x 10 2 = zof (sg x) (x.natAbs / 10) := by
    unfold resZ qrd awayZ moreZ
    simp
  rw [hr] at e
  have hle : (zof (sg x) (x.natAbs / 10)).natAbs ≤ x.natAbs := by rw [zof_abs2]; exact Nat.div_le_self _ _
  have hf := hfit _ hle
  refine ⟨zof (sg x) (x.natAbs / 10), ?_, z_dec hf (by omega) (by omega), ?_⟩
  · rw [e]
    unfold dmake
    rw [if_pos hf]
  · intro k2
    have : (zof (sg x) (x.natAbs / 10) * 10).natAbs = x.natAbs := by rw [k2]
    rw [Int.natAbs_mul, zof_abs2] at this
    have e10 : (10 : Int).natAbs = 10 := rfl
    omega

end Go.Proofs.YthnkmjkgcnhlfaaGreatDoor
