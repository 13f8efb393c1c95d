/- Decimals as numbers and scales: what DecRound answers, and back again. Plain mathematics. Decimals as numbers and scales: how they are compared. Plain mathematics. Decimals as numbers below 10^30 and scales. Plain mathematics. Sums and differences of decimals as numbers. Plain mathematics. A trimmed decimal: the same number, and one place less is another. Plain mathematics. Decimals compared, and what is between them; trimmed ones. Plain mathematics. A trimmed decimal, and one place less. Plain mathematics. -/
import Derived.Test.YthnkmjkgcnhlfaaGreatDoorRqR
import Derived.Test.YthnkmjkgcnhlfaaGreatDoorDcC
import Derived.Test.YthnkmjkgcnhlfaaGreatDoorH22
import Derived.Test.YthnkmjkgcnhlfaaGreatDoorDcE
import Derived.Test.YthnkmjkgcnhlfaaGreatDoorDcF
import Derived.Test.YthnkmjkgcnhlfaaGreatDoorH18
namespace Go.Proofs.YthnkmjkgcnhlfaaGreatDoor
open Go.RowKit

theorem len_zD {z : Int} (h : (txtL (L z.natAbs)).length ≤ 30) : (L z.natAbs).length ≤ 16 := by
  have := txtL_short _ (L_lim z.natAbs)
  omega

theorem ok_zD {z : Int} (h : (L z.natAbs).length ≤ 16) : OkBig (sg z) (L z.natAbs) := by
  refine ⟨h, L_lim _, fun e => ?_, ?_⟩
  · have := L_nil.1 e
    unfold sg
    rw [decide_eq_false_iff_not]
    omega
  · exact L_last _

theorem z_dec {z s : Int} (h : (txtL (L z.natAbs)).length ≤ 30) (h0 : 0 ≤ s) (h1 : s ≤ 12) : decB (sg z) (L z.natAbs) s = true :=
  decB_true ⟨ok_zD (len_zD h), h, h0, h1⟩

/-- A decimal that is ok is a number and a scale. -/
theorem dec_z {p : Bool} {l : List Int} {s : Int} (h : decB p l s = true) : ∃ z : Int, p = sg z ∧ l = L z.natAbs ∧ (txtL (L z.natAbs)).length ≤ 30 ∧ 0 ≤ s ∧ s ≤ 12 := by
  obtain ⟨hok, ht, h0, h1⟩ := decB_iff.1 h
  obtain ⟨e, _⟩ := ok_limbs (okB_true hok)
  have hn : (zv p l).natAbs = (val l).toNat := by unfold zv; exact zof_abs2 _ _
  have e2 : l = L (zv p l).natAbs := by rw [hn]; exact e
  exact ⟨zv p l, ok_sign (okB_true hok), e2, by rw [← e2]; exact ht, h0, h1⟩

theorem zof_mul (z : Int) (k : Nat) : zof (sg z) (z.natAbs * k) = z * k := by
  unfold zof sg
  by_cases h : z < 0
  · rw [if_pos (by simpa using h), Int.natCast_mul, ← Int.neg_mul]
    congr 1
    omega
  · rw [if_neg (by simpa using h), Int.natCast_mul]
    congr 1
    omega

theorem val_zD (z : Int) : (val (L z.natAbs)).toNat = z.natAbs := by rw [val_L]; exact Int.toNat_natCast _

theorem dround_z {z s t mode : Int} (h : decB (sg z) (L z.natAbs) s = true) (ht : 0 ≤ t ∧ t ≤ 12) (hm : 1 ≤ mode ∧ mode ≤ 7) :
    droundR (sg z) (L z.natAbs) s t mode = dmake (resZ (z * ((10 ^ (t - s).toNat : Nat) : Int)) (10 ^ (s - t).toNat) mode) t := by
  unfold droundR
  rw [if_pos ⟨h, ht, hm⟩, val_zD, zof_mul]

/-- What divides leaves nothing to round. -/
theorem res_muls (z : Int) (k : Nat) (hk : 0 < k) (mode : Int) : resZ (z * (k : Int)) k mode = z := by
  unfold resZ
  have e : (z * (k : Int)).natAbs = z.natAbs * k := by rw [Int.natAbs_mul, Int.natAbs_natCast]
  rw [e, qrd_zero (Nat.mul_mod_left _ _), Nat.mul_div_cancel _ hk]
  have hs : sg (z * (k : Int)) = sg z := by
    unfold sg
    rw [decide_eq_decide]
    constructor
    · intro h
      rcases Int.lt_or_le z 0 with c | c
      · exact c
      · have := Int.mul_nonneg c (Int.natCast_nonneg k)
        omega
    · intro h
      exact Int.mul_neg_of_neg_of_pos h (by omega)
  rw [hs, zof_sg_abs]

/-- A decimal that was given more places comes back by giving them up. -/
theorem more_back {z s t mode mode' : Int} (h : decB (sg z) (L z.natAbs) s = true) (hst : s ≤ t) (ht : t ≤ 12) (hm : 1 ≤ mode ∧ mode ≤ 7) (hm' : 1 ≤ mode' ∧ mode' ≤ 7) (h0 : (droundR (sg z) (L z.natAbs) s t mode).2.2.2 = 0) :
    droundR (sg z) (L z.natAbs) s t mode = (sg (z * ((10 ^ (t - s).toNat : Nat) : Int)), L (z * ((10 ^ (t - s).toNat : Nat) : Int)).natAbs, t, 0) ∧
      decB (sg (z * ((10 ^ (t - s).toNat : Nat) : Int))) (L (z * ((10 ^ (t - s).toNat : Nat) : Int)).natAbs) t = true ∧
      droundR (sg (z * ((10 ^ (t - s).toNat : Nat) : Int))) (L (z * ((10 ^ (t - s).toNat : Nat) : Int)).natAbs) t s mode' = (sg z, L z.natAbs, s, 0) := by
  obtain ⟨-, h30, hs0, hs1⟩ := decB_iff.1 h
  have e := dround_z (t := t) (mode := mode) h ⟨by omega, ht⟩ hm
  rw [show (s - t).toNat = 0 by omega, Nat.pow_zero, resZ_one] at e
  have hfit : (txtL (L (z * ((10 ^ (t - s).toNat : Nat) : Int)).natAbs)).length ≤ 30 := by
    rw [e] at h0
    unfold dmake at h0
    split at h0
    · assumption
    · cases h0
  have hd := z_dec hfit (s := t) (by omega) ht
  refine ⟨by rw [e]; unfold dmake; rw [if_pos hfit], hd, ?_⟩
  rw [dround_z hd ⟨hs0, hs1⟩ hm', show (s - t).toNat = 0 by omega, Nat.pow_zero, show ((1 : Nat) : Int) = 1 from rfl, Int.mul_one, res_muls _ _ (Nat.pow_pos (by decide))]
  unfold dmake
  rw [if_pos h30]

end Go.Proofs.YthnkmjkgcnhlfaaGreatDoor

namespace Go.Proofs.YthnkmjkgcnhlfaaGreatDoor
open Go.RowKit

theorem dcmp_z {z x s t : Int} (h : decB (sg z) (L z.natAbs) s = true) (k : decB (sg x) (L x.natAbs) t = true) :
    dcmpR (sg z) (L z.natAbs) s (sg x) (L x.natAbs) t = cmpZ (z * ((10 ^ (t - s).toNat : Nat) : Int)) (x * ((10 ^ (s - t).toNat : Nat) : Int)) := by
  unfold dcmpR
  rw [if_pos ⟨h, k⟩, val_zD, val_zD, zof_mul, zof_mul]

end Go.Proofs.YthnkmjkgcnhlfaaGreatDoor

namespace Go.Proofs.YthnkmjkgcnhlfaaGreatDoor
open Go.RowKit

/-- A number that has no more figures than a decimal. -/
def Fit (z : Int) : Prop := z.natAbs < 10 ^ 30

instance (z : Int) : Decidable (Fit z) := by unfold Fit; exact inferInstance

theorem fit_iff (z : Int) : (txtL (L z.natAbs)).length ≤ 30 ↔ Fit z := by
  rw [txt_dec]
  exact (dec_len _ _ (by decide)).symm

theorem dmake_fit {z : Int} (s : Int) (h : Fit z) : dmake z s = (sg z, L z.natAbs, s, 0) := by
  unfold dmake
  rw [if_pos ((fit_iff z).2 h)]

theorem dmake_not {z : Int} (s : Int) (h : ¬ Fit z) : dmake z s = (false, [], 0, 3) := by
  unfold dmake
  rw [if_neg (fun k => h ((fit_iff z).1 k))]

theorem fit_dec {z s : Int} (h : Fit z) (h0 : 0 ≤ s) (h1 : s ≤ 12) : decB (sg z) (L z.natAbs) s = true := z_dec ((fit_iff z).2 h) h0 h1

/-- A decimal that is ok is a number and a scale. -/
theorem dec_fit {p : Bool} {l : List Int} {s : Int} (h : decB p l s = true) : ∃ z : Int, p = sg z ∧ l = L z.natAbs ∧ Fit z ∧ 0 ≤ s ∧ s ≤ 12 := by
  obtain ⟨z, h1, h2, h3, h4, h5⟩ := dec_z h
  exact ⟨z, h1, h2, (fit_iff z).1 h3, h4, h5⟩

theorem decB_fit {z s : Int} (h : decB (sg z) (L z.natAbs) s = true) : Fit z ∧ 0 ≤ s ∧ s ≤ 12 := by
  obtain ⟨-, h1, h2⟩ := decB_iff.1 h
  exact ⟨(fit_iff z).1 h1, h2⟩

theorem Fit.le {z x : Int} (h : Fit z) (k : x.natAbs ≤ z.natAbs) : Fit x := Nat.lt_of_le_of_lt k h

/-- What is 0 has no sign and no limbs. -/
theorem zero_z : sg 0 = false ∧ L (0 : Int).natAbs = [] := ⟨rfl, by rw [Int.natAbs_zero, L_zero]⟩

end Go.Proofs.YthnkmjkgcnhlfaaGreatDoor

namespace Go.Proofs.YthnkmjkgcnhlfaaGreatDoor
open Go.RowKit

theorem dadd_z {z x s t : Int} (h : decB (sg z) (L z.natAbs) s = true) (k : decB (sg x) (L x.natAbs) t = true) :
    daddR (sg z) (L z.natAbs) s (sg x) (L x.natAbs) t = dmake (z * ((10 ^ (max s t - s).toNat : Nat) : Int) + x * ((10 ^ (max s t - t).toNat : Nat) : Int)) (max s t) := by
  unfold daddR
  rw [if_pos ⟨h, k⟩, val_zD, val_zD, zof_mul, zof_mul]

theorem dsub_z {z x s t : Int} (h : decB (sg z) (L z.natAbs) s = true) (k : decB (sg x) (L x.natAbs) t = true) :
    dsubR (sg z) (L z.natAbs) s (sg x) (L x.natAbs) t = dmake (z * ((10 ^ (max s t - s).toNat : Nat) : Int) - x * ((10 ^ (max s t - t).toNat : Nat) : Int)) (max s t) := by
  unfold dsubR
  rw [if_pos ⟨h, k⟩, val_zD, val_zD, zof_mul, zof_mul]

theorem dadd_bad {p q : Bool} {l m : List Int} {s t : Int} (h : ¬ (decB p l s = true ∧ decB q m t = true)) : daddR p l s q m t = (false, [], 0, 1) := by
  unfold daddR
  rw [if_neg h]

theorem dsub_bad {p q : Bool} {l m : List Int} {s t : Int} (h : ¬ (decB p l s = true ∧ decB q m t = true)) : dsubR p l s q m t = (false, [], 0, 1) := by
  unfold dsubR
  rw [if_neg h]

theorem one_pow {n : Nat} (h : n = 0) : ((10 ^ n : Nat) : Int) = 1 := by subst h; rfl

/-- What was added can be taken away again. -/
theorem add_back {z x s t X : Int} (h : decB (sg z) (L z.natAbs) s = true) (k : decB (sg x) (L x.natAbs) t = true)
    (hX : X = z * ((10 ^ (max s t - s).toNat : Nat) : Int) + x * ((10 ^ (max s t - t).toNat : Nat) : Int)) (hf : Fit X) :
    decB (sg X) (L X.natAbs) (max s t) = true ∧ daddR (sg x) (L x.natAbs) t (sg z) (L z.natAbs) s = (sg X, L X.natAbs, max s t, 0) ∧
      (dsubR (sg X) (L X.natAbs) (max s t) (sg x) (L x.natAbs) t = (false, [], 0, 3) ∨
        ∃ y : Int, dsubR (sg X) (L X.natAbs) (max s t) (sg x) (L x.natAbs) t = (sg y, L y.natAbs, max s t, 0) ∧ dcmpR (sg y) (L y.natAbs) (max s t) (sg z) (L z.natAbs) s = 0) := by
  obtain ⟨hz, hs0, hs1⟩ := decB_fit h
  obtain ⟨hx, ht0, ht1⟩ := decB_fit k
  have hd := fit_dec hf (s := max s t) (by omega) (by omega)
  refine ⟨hd, ?_, ?_⟩
  · rw [dadd_z k h, Int.add_comm, show max t s = max s t by omega, ← hX, dmake_fit _ hf]
  · rw [dsub_z hd k, show max (max s t) t = max s t by omega, one_pow (n := (max s t - max s t).toNat) (by omega), Int.mul_one]
    have e : X - x * ((10 ^ (max s t - t).toNat : Nat) : Int) = z * ((10 ^ (max s t - s).toNat : Nat) : Int) := by rw [hX]; omega
    rw [e]
    by_cases hy : Fit (z * ((10 ^ (max s t - s).toNat : Nat) : Int))
    · refine .inr ⟨_, dmake_fit _ hy, ?_⟩
      rw [dcmp_z (fit_dec hy (by omega) (by omega)) h, one_pow (n := (s - max s t).toNat) (by omega), Int.mul_one]
      exact cmpZ_eq rfl
    · exact .inl (dmake_not _ hy)

end Go.Proofs.YthnkmjkgcnhlfaaGreatDoor

namespace Go.Proofs.YthnkmjkgcnhlfaaGreatDoor
open Go.RowKit

theorem trimN_all : ∀ (s a : Nat), (trimN a s).2 ≤ s ∧ (trimN a s).1 * 10 ^ (s - (trimN a s).2) = a ∧ (0 < (trimN a s).2 → (trimN a s).1 % 10 ≠ 0)
  | 0, a => by rw [trimN_zero]; simp
  | s + 1, a => by
    by_cases h : a % 10 = 0
    · rw [trimN_step h]
      obtain ⟨i1, i2, i3⟩ := trimN_all s (a / 10)
      refine ⟨by omega, ?_, i3⟩
      rw [show s + 1 - (trimN (a / 10) s).2 = s - (trimN (a / 10) s).2 + 1 by omega, Nat.pow_succ, ← Nat.mul_assoc, i2]
      omega
    · rw [trimN_stop h]
      exact ⟨Nat.le_refl _, by simp, fun _ => h⟩

theorem trimN_again (a s : Nat) : trimN (trimN a s).1 (trimN a s).2 = trimN a s := by
  obtain ⟨-, -, h3⟩ := trimN_all s a
  generalize trimN a s = r at *
  obtain ⟨b, k⟩ := r
  cases k with
  | zero => exact trimN_zero b
  | succ k => exact trimN_stop (h3 (Nat.succ_pos _))

theorem sg_zof {z : Int} {n : Nat} (h : z ≠ 0 → n ≠ 0) : sg (zof (sg z) n) = sg z ∨ z = 0 := by
  by_cases hz : z = 0
  · exact .inr hz
  · left
    have := h hz
    unfold sg zof
    by_cases k : z < 0
    · rw [if_pos (by simpa using k), decide_eq_decide]
      omega
    · rw [if_neg (by simpa using k), decide_eq_decide]
      omega

/-- What trimming makes of a decimal. -/
theorem dtrim_z {z s : Int} (h : decB (sg z) (L z.natAbs) s = true) :
    ∃ (x : Int) (k : Nat), dtrimR (sg z) (L z.natAbs) s = (sg x, L x.natAbs, (k : Int)) ∧ (k : Int) ≤ s ∧ x * ((10 ^ (s - k).toNat : Nat) : Int) = z ∧ (0 < k → x.natAbs % 10 ≠ 0) ∧ x.natAbs ≤ z.natAbs ∧ trimN x.natAbs k = (x.natAbs, k) := by
  obtain ⟨-, -, h0, h1⟩ := decB_iff.1 h
  obtain ⟨t1, t2, t3⟩ := trimN_all s.toNat z.natAbs
  have t4 := trimN_again z.natAbs s.toNat
  have t5 := trimN_le s.toNat z.natAbs
  have e : dtrimR (sg z) (L z.natAbs) s = (sg z, L (trimN z.natAbs s.toNat).1, ((trimN z.natAbs s.toNat).2 : Int)) := by
    unfold dtrimR
    rw [if_pos h, val_zD]
  rw [e]
  generalize trimN z.natAbs s.toNat = r at *
  obtain ⟨b, k⟩ := r
  simp only at *
  have hb : z ≠ 0 → b ≠ 0 := fun hz e => by
    subst e
    rw [Nat.zero_mul] at t2
    omega
  refine ⟨zof (sg z) b, k, ?_, by omega, ?_, ?_, ?_, ?_⟩
  · rw [zof_abs2]
    rcases sg_zof hb with c | c
    · rw [c]
    · subst c
      have : b = 0 := by
        rcases Nat.eq_zero_or_pos b with q | q
        · exact q
        · have := Nat.mul_pos q (Nat.pow_pos (n := s.toNat - k) (show 0 < 10 by decide))
          omega
      subst this
      rfl
  · rw [show (s - k).toNat = s.toNat - k by omega]
    have hz : zof (sg z) (b * 10 ^ (s.toNat - k)) = z := by rw [t2, zof_sg_abs]
    refine Eq.trans ?_ hz
    generalize 10 ^ (s.toNat - k) = m
    generalize sg z = g
    unfold zof
    split
    · rw [Int.natCast_mul, Int.neg_mul]
    · rw [Int.natCast_mul]
  · rw [zof_abs2]; exact t3
  · rw [zof_abs2]; exact t5
  · rw [zof_abs2]; exact t4

/-- Rounding a trimmed decimal down by a place. -/
theorem down_z {x : Int} {k : Nat} (h : decB (sg x) (L x.natAbs) k = true) (hk : 0 < k) (h10 : x.natAbs % 10 ≠ 0) (hfit : ∀ y : Int, y.natAbs ≤ x.natAbs → (txtL (L y.natAbs)).length ≤ 30) :
    ∃ y : Int, droundR (sg x) (L x.natAbs) k ((k : Int) - 1) 2 = (sg y, L y.natAbs, (k : Int) - 1, 0) ∧ decB (sg y) (L y.natAbs) ((k : Int) - 1) = true ∧ y * 10 ≠ x := by
  obtain ⟨-, -, h0, h1⟩ := decB_iff.1 h
  have e := dround_z (t := (k : Int) - 1) (mode := 2) h ⟨by omega, by omega⟩ ⟨by omega, by omega⟩
  rw [show ((k : Int) - 1 - k).toNat = 0 by omega, show ((k : Int) - ((k : Int) - 1)).toNat = 1 by omega, Nat.pow_zero, Nat.pow_one, show ((1 : Nat) : Int) = 1 from rfl, Int.mul_one] at e
  have hr : resZ x 10 2 = zof (sg x) (x.natAbs / 10) := by
    unfold resZ qrd awayZ moreZ
    simp
  rw [hr] at e
  have hle : (zof (sg x) (x.natAbs / 10)).natAbs ≤ x.natAbs := by rw [zof_abs2]; exact Nat.div_le_self _ _
  have hf := hfit _ hle
  refine ⟨zof (sg x) (x.natAbs / 10), ?_, z_dec hf (by omega) (by omega), ?_⟩
  · rw [e]
    unfold dmake
    rw [if_pos hf]
  · intro k2
    have : (zof (sg x) (x.natAbs / 10) * 10).natAbs = x.natAbs := by rw [k2]
    rw [Int.natAbs_mul, zof_abs2] at this
    have e10 : (10 : Int).natAbs = 10 := rfl
    omega

end Go.Proofs.YthnkmjkgcnhlfaaGreatDoor

namespace Go.Proofs.YthnkmjkgcnhlfaaGreatDoor
open Go.RowKit

theorem dcmp_bad {p q : Bool} {l m : List Int} {s t : Int} (h : ¬ (decB p l s = true ∧ decB q m t = true)) : dcmpR p l s q m t = 2 := by
  unfold dcmpR
  rw [if_neg h]

/-- What is trimmed is as great as it was. -/
theorem trim_cmp {p : Bool} {l : List Int} {s : Int} (h : decB p l s = true) : ∃ tp tl ts, dtrimR p l s = (tp, tl, ts) ∧ dcmpR p l s tp tl ts = 0 ∧ dcmpR tp tl ts p l s = 0 ∧ decB tp tl ts = true ∧ ts ≤ s ∧ dtrimR tp tl ts = (tp, tl, ts) := by
  obtain ⟨z, rfl, rfl, hf, h0, h1⟩ := dec_fit h
  obtain ⟨x, k, e, hk, hx, h10, hle, hag⟩ := dtrim_z h
  have hd := fit_dec (hf.le hle) (s := k) (by omega) (by omega)
  have hz : s - k = ((s - k).toNat : Int) := by omega
  refine ⟨_, _, _, e, ?_, ?_, hd, hk, ?_⟩
  · rw [dcmp_z h hd, one_pow (n := ((k : Int) - s).toNat) (by omega), Int.mul_one]
    exact cmpZ_eq hx.symm
  · rw [dcmp_z hd h, one_pow (n := ((k : Int) - s).toNat) (by omega), Int.mul_one]
    exact cmpZ_eq hx
  · unfold dtrimR
    rw [if_pos hd, val_zD, Int.toNat_natCast, hag]

theorem pow_posI (n : Nat) : (0 : Int) < ((10 ^ n : Nat) : Int) := Int.natCast_pos.2 (Nat.pow_pos (by decide))

theorem cmp_turned (x y : Int) : cmpZ y x = - cmpZ x y := by
  rcases Int.lt_trichotomy x y with h | h | h
  · rw [cmpZ_lt h, cmpZ_gt h]; rfl
  · subst h; rw [cmpZ_eq rfl]; rfl
  · rw [cmpZ_gt h, cmpZ_lt h]

theorem cmp_scaled (x y : Int) {k : Int} (hk : 0 < k) : cmpZ (x * k) (y * k) = cmpZ x y := by
  rcases Int.lt_trichotomy x y with h | h | h
  · rw [cmpZ_lt h, cmpZ_lt (Int.mul_lt_mul_of_pos_right h hk)]
  · subst h; rw [cmpZ_eq rfl, cmpZ_eq rfl]
  · rw [cmpZ_gt h, cmpZ_gt (Int.mul_lt_mul_of_pos_right h hk)]

/-- Both brought to the greater scale. -/
theorem cmp_max (z x s t : Int) : cmpZ (z * ((10 ^ (t - s).toNat : Nat) : Int)) (x * ((10 ^ (s - t).toNat : Nat) : Int)) = cmpZ (z * ((10 ^ (max s t - s).toNat : Nat) : Int)) (x * ((10 ^ (max s t - t).toNat : Nat) : Int)) := by
  rcases Int.le_total s t with h | h
  · rw [show max s t = t by omega, show (s - t).toNat = (t - t).toNat by omega]
  · rw [show max s t = s by omega, show (t - s).toNat = (s - s).toNat by omega]

theorem sg_decide (z : Int) : sg z = decide (z < 0) := rfl

theorem cmp_law {p q : Bool} {l m : List Int} {s t n : Int} (h : dcmpR p l s q m t = n) (hn : n ≠ 2) :
    -1 ≤ n ∧ n ≤ 1 ∧ dcmpR q m t p l s = -n ∧ (∃ xg xl xs k, dsubR p l s q m t = (xg, xl, xs, k) ∧ (k = 0 → decide (n < 0) = xg ∧ ((xl.length : Int) == 0) = (n == 0))) ∧ ∃ tp tl ts, dtrimR p l s = (tp, tl, ts) ∧ dcmpR p l s tp tl ts = 0 := by
  by_cases hok : decB p l s = true ∧ decB q m t = true
  case neg => exact absurd (h.symm.trans (dcmp_bad hok)) hn
  obtain ⟨h1, h2⟩ := hok
  obtain ⟨tp, tl, ts, e1, e2, -⟩ := trim_cmp h1
  obtain ⟨z, rfl, rfl, -⟩ := dec_fit h1
  obtain ⟨x, rfl, rfl, -⟩ := dec_fit h2
  rw [dcmp_z h1 h2] at h
  have hm := h
  rw [cmp_max] at hm
  refine ⟨?_, ?_, ?_, ?_, tp, tl, ts, e1, e2⟩
  · rw [← h]; exact (cmpZ_small _ _).1
  · rw [← h]; exact (cmpZ_small _ _).2
  · rw [dcmp_z h2 h1, cmp_turned, h]
  · rw [dsub_z h1 h2]
    generalize z * ((10 ^ (max s t - s).toNat : Nat) : Int) = a at *
    generalize x * ((10 ^ (max s t - t).toNat : Nat) : Int) = b at *
    by_cases hf : Fit (a - b)
    · refine ⟨_, _, _, _, dmake_fit _ hf, fun _ => ?_⟩
      rcases Int.lt_trichotomy a b with c | c | c
      · rw [cmpZ_lt c] at hm
        subst hm
        refine ⟨by rw [sg_decide]; simp; omega, ?_⟩
        have : (L (a - b).natAbs).length ≠ 0 := fun e => by have := L_len_zero.1 e; omega
        rw [show ((-1 : Int) == 0) = false from rfl, beq_eq_false_iff_ne]
        omega
      · subst c
        rw [cmpZ_eq rfl] at hm
        subst hm
        rw [Int.sub_self]
        exact ⟨rfl, by rw [zero_z.2]; rfl⟩
      · rw [cmpZ_gt c] at hm
        subst hm
        refine ⟨by rw [sg_decide]; simp; omega, ?_⟩
        have : (L (a - b).natAbs).length ≠ 0 := fun e => by have := L_len_zero.1 e; omega
        rw [show ((1 : Int) == 0) = false from rfl, beq_eq_false_iff_ne]
        omega
    · exact ⟨_, _, _, _, dmake_not _ hf, fun e => by cases e⟩

end Go.Proofs.YthnkmjkgcnhlfaaGreatDoor

namespace Go.Proofs.YthnkmjkgcnhlfaaGreatDoor
open Go.RowKit

theorem trim_law {p : Bool} {l : List Int} {s : Int} (h : decB p l s = true) : ∃ tp tl ts, dtrimR p l s = (tp, tl, ts) ∧ dcmpR tp tl ts p l s = 0 ∧ ts ≤ s ∧ 0 ≤ ts ∧ ts ≤ 12 ∧ dtrimR tp tl ts = (tp, tl, ts) ∧
    (0 < ts → ∃ yg yl c, droundR tp tl ts (ts - 1) 2 = (yg, yl, ts - 1, 0) ∧ dcmpR yg yl (ts - 1) tp tl ts = c ∧ c ≠ 0) := by
  obtain ⟨z, rfl, rfl, hf, h0, h1⟩ := dec_fit h
  obtain ⟨x, k, e, hk, hx, h10, hle, hag⟩ := dtrim_z h
  have hd := fit_dec (hf.le hle) (s := k) (by omega) (by omega)
  refine ⟨_, _, _, e, ?_, hk, by omega, by omega, ?_, fun hp => ?_⟩
  · rw [dcmp_z hd h, one_pow (n := ((k : Int) - s).toNat) (by omega), Int.mul_one]
    exact cmpZ_eq hx
  · unfold dtrimR
    rw [if_pos hd, val_zD, Int.toNat_natCast, hag]
  · obtain ⟨y, d1, d2, d3⟩ := down_z hd (by omega) (h10 (by omega)) (fun y hy => (fit_iff y).2 ((hf.le hle).le hy))
    refine ⟨_, _, _, d1, rfl, ?_⟩
    rw [dcmp_z d2 hd, show ((k : Int) - ((k : Int) - 1)).toNat = 1 by omega, one_pow (n := ((k : Int) - 1 - (k : Int)).toNat) (by omega), Int.mul_one, Nat.pow_one]
    intro c
    apply d3
    unfold cmpZ at c
    split at c
    · cases c
    · split at c
      · cases c
      · have e10 : ((10 : Nat) : Int) = 10 := rfl
        omega

theorem trim_bad {p : Bool} {l : List Int} {s : Int} (h : decB p l s = false) : dtrimR p l s = (false, [], 0) := by
  unfold dtrimR
  rw [if_neg (by rw [h]; simp)]

end Go.Proofs.YthnkmjkgcnhlfaaGreatDoor
