/- Decimals as numbers and scales: what DecRound answers, and back again. Plain mathematics. -/
import Derived.Test.YthnkmjkgcnhlfaaGreatDoorRqR
namespace Go.Proofs.YthnkmjkgcnhlfaaGreatDoor
open Go.RowKit

theorem len_zD {z : Int} (h : (txtL (L z.natAbs)).length ≤ 30) : (L z.natAbs).length ≤ 16 := by
  have := txtL_short _ (L_lim z.natAbs)
  omega

theorem ok_zD {z : Int} (h : (L z.natAbs).length ≤ 16) : OkBig (sg z) (L z.natAbs) := by
  refine ⟨h, L_lim _, fun e => ?_, ?_⟩
  · have := L_nil.1 e
    unfold sg
    rw [decide_eq_false_iff_not]
    omega
  · exact L_last _

theorem z_dec {z s : Int} (h : (txtL (L z.natAbs)).length ≤ 30) (h0 : 0 ≤ s) (h1 : s ≤ 12) : decB (sg z) (L z.natAbs) s = true :=
  decB_true ⟨ok_zD (len_zD h), h, h0, h1⟩

/-- A decimal that is ok is a number and a scale. -/
theorem dec_z {p : Bool} {l : List Int} {s : Int} (h : decB p l s = true) : ∃ z : Int, p = sg z ∧ l = L z.natAbs ∧ (txtL (L z.natAbs)).length ≤ 30 ∧ 0 ≤ s ∧ s ≤ 12 := by
  obtain ⟨hok, ht, h0, h1⟩ := decB_iff.1 h
  obtain ⟨e, _⟩ := ok_limbs (okB_true hok)
  have hn : (zv p l).natAbs = (val l).toNat := by unfold zv; exact zof_abs2 _ _
  have e2 : l = L (zv p l).natAbs := by rw [hn]; exact e
  exact ⟨zv p l, ok_sign (okB_true hok), e2, by rw [← e2]; exact ht, h0, h1⟩

theorem zof_mul (z : Int) (k : Nat) : zof (sg z) (z.natAbs * k) = z * k := by
  unfold zof sg
  by_cases h : z < 0
  · rw [if_pos (by simpa using h), Int.natCast_mul, ← Int.neg_mul]
    congr 1
    omega
  · rw [if_neg (by simpa using h), Int.natCast_mul]
    congr 1
    omega

theorem val_zD (z : Int) : (val (L z.natAbs)).toNat = z.natAbs := by rw [val_L]; exact Int.toNat_natCast _

theorem dround_z {z s t mode : Int} (h : decB (sg z) (L z.natAbs) s = true) (ht : 0 ≤ t ∧ t ≤ 12) (hm : 1 ≤ mode ∧ mode ≤ 7) :
    droundR (sg z) (L z.natAbs) s t mode = dmake (resZ (z * ((10 ^ (t - s).toNat : Nat) : Int)) (10 ^ (s - t).toNat) mode) t := by
  unfold droundR
  rw [if_pos ⟨h, ht, hm⟩, val_zD, zof_mul]

/-- What divides leaves nothing to round. -/
theorem res_muls (z : Int) (k : Nat) (hk : 0 < k) (mode : Int) : resZ (z * (k : Int)) k mode = z := by
  unfold resZ
  have e : (z * (k : Int)).natAbs = z.natAbs * k := by rw [Int.natAbs_mul, Int.natAbs_natCast]
  rw [e, qrd_zero (Nat.mul_mod_left _ _), Nat.mul_div_cancel _ hk]
  have hs : sg (z * (k : Int)) = sg z := by
    unfold sg
    rw [decide_eq_decide]
    constructor
    · intro h
      rcases Int.lt_or_le z 0 with c | c
      · exact c
      · have := Int.mul_nonneg c (Int.natCast_nonneg k)
        omega
    · intro h
      exact Int.mul_neg_of_neg_of_pos h (by omega)
  rw [hs, zof_sg_abs]

/-- A decimal that was given more places comes back by giving them up. -/
theorem more_back {z s t mode mode' : Int} (h : decB (sg z) (L z.natAbs) s = true) (hst : s ≤ t) (ht : t ≤ 12) (hm : 1 ≤ mode ∧ mode ≤ 7) (hm' : 1 ≤ mode' ∧ mode' ≤ 7) (h0 : (droundR (sg z) (L z.natAbs) s t mode).2.2.2 = 0) :
    droundR (sg z) (L z.natAbs) s t mode = (sg (z * ((10 ^ (t - s).toNat : Nat) : Int)), L (z * ((10 ^ (t - s).toNat : Nat) : Int)).natAbs, t, 0) ∧
      decB (sg (z * ((10 ^ (t - s).toNat : Nat) : Int))) (L (z * ((10 ^ (t - s).toNat : Nat) : Int)).natAbs) t = true ∧
      droundR (sg (z * ((10 ^ (t - s).toNat : Nat) : Int))) (L (z * ((10 ^ (t - s).toNat : Nat) : Int)).natAbs) t s mode' = (sg z, L z.natAbs, s, 0) := by
  obtain ⟨-, h30, hs0, hs1⟩ := decB_iff.1 h
  have e := dround_z (t := t) (mode := mode) h ⟨by omega, ht⟩ hm
  rw [show (s - t).toNat = 0 by omega, Nat.pow_zero, resZ_one] at e
  have hfit : (txtL (L (z * ((10 ^ (t - s).toNat : Nat) : Int)).natAbs)).length ≤ 30 := by
    rw [e] at h0
    unfold dmake at h0
    split at h0
    · assumption
    · cases h0
  have hd := z_dec hfit (s := t) (by omega) ht
  refine ⟨by rw [e]; unfold dmake; rw [if_pos hfit], hd, ?_⟩
  rw [dround_z hd ⟨hs0, hs1⟩ hm', show (s - t).toNat = 0 by omega, Nat.pow_zero, show ((1 : Nat) : Int) = 1 from rfl, Int.mul_one, res_muls _ _ (Nat.pow_pos (by decide))]
  unfold dmake
  rw [if_pos h30]

end Go.Proofs.YthnkmjkgcnhlfaaGreatDoor
