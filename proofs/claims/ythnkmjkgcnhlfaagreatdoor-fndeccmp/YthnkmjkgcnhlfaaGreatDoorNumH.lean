/- Decimals compared, and what is between them; trimmed ones. Plain mathematics. -/
import Derived.Test.YthnkmjkgcnhlfaaGreatDoorNumG
import Derived.Test.YthnkmjkgcnhlfaaGreatDoorTrmM
namespace Go.Proofs.YthnkmjkgcnhlfaaGreatDoor
open Go.RowKit

theorem dcmp_bad {p q : Bool} {l m : List Int} {s t : Int} (h : ¬ (decB p l s = true ∧ decB q m t = true)) : dcmpR p l s q m t = 2 := by
  unfold dcmpR
  rw [if_neg h]

/-- What is trimmed is as great as it was. -/
theorem trim_cmp {p : Bool} {l : List Int} {s : Int} (h : decB p l s = true) : ∃ tp tl ts, dtrimR p l s = (tp, tl, ts) ∧ dcmpR p l s tp tl ts = 0 ∧ dcmpR tp tl ts p l s = 0 ∧ decB tp tl ts = true ∧ ts ≤ s ∧ dtrimR tp tl ts = (tp, tl, ts) := by
  obtain ⟨z, rfl, rfl, hf, h0, h1⟩ := dec_fit h
  obtain ⟨x, k, e, hk, hx, h10, hle, hag⟩ := dtrim_z h
  have hd := fit_dec (hf.le hle) (s := k) (by omega) (by omega)
  have hz : s - k = ((s - k).toNat : Int) := by omega
  refine ⟨_, _, _, e, ?_, ?_, hd, hk, ?_⟩
  · rw [dcmp_z h hd, one_pow (n := ((k : Int) - s).toNat) (by omega), Int.mul_one]
    exact cmpZ_eq hx.symm
  · rw [dcmp_z hd h, one_pow (n := ((k : Int) - s).toNat) (by omega), Int.mul_one]
    exact cmpZ_eq hx
  · unfold dtrimR
    rw [if_pos hd, val_zD, Int.toNat_natCast, hag]

theorem pow_posI (n : Nat) : (0 : Int) < ((10 ^ n : Nat) : Int) := Int.natCast_pos.2 (Nat.pow_pos (by decide))

theorem cmp_turned (x y : Int) : cmpZ y x = - cmpZ x y := by
  rcases Int.lt_trichotomy x y with h | h | h
  · rw [cmpZ_lt h, cmpZ_gt h]; rfl
  · subst h; rw [cmpZ_eq rfl]; rfl
  · rw [cmpZ_gt h, cmpZ_lt h]

theorem cmp_scaled (x y : Int) {k : Int} (hk : 0 < k) : cmpZ (x * k) (y * k) = cmpZ x y := by
  rcases Int.lt_trichotomy x y with h | h | h
  · rw [cmpZ_lt h, cmpZ_lt (Int.mul_lt_mul_of_pos_right h hk)]
  · subst h; rw [cmpZ_eq rfl, cmpZ_eq rfl]
  · rw [cmpZ_gt h, cmpZ_gt (Int.mul_lt_mul_of_pos_right h hk)]

/-- Both brought to the greater scale. -/
theorem cmp_max (z x s t : Int) : cmpZ (z * ((10 ^ (t - s).toNat : Nat) : Int)) (x * ((10 ^ (s - t).toNat : Nat) : Int)) = cmpZ (z * ((10 ^ (max s t - s).toNat : Nat) : Int)) (x * ((10 ^ (max s t - t).toNat : Nat) : Int)) := by
  rcases Int.le_total s t with h | h
  · rw [show max s t = t by omega, show (s - t).toNat = (t - t).toNat by omega]
  · rw [show max s t = s by omega, show (t - s).toNat = (s - s).toNat by omega]

theorem sg_decide (z : Int) : sg z = decide (z < 0) := rfl

theorem cmp_law {p q : Bool} {l m : List Int} {s t n : Int} (h : dcmpR p l s q m t = n) (hn : n ≠ 2) :
    -1 ≤ n ∧ n ≤ 1 ∧ dcmpR q m t p l s = -n ∧ (∃ xg xl xs k, dsubR p l s q m t = (xg, xl, xs, k) ∧ (k = 0 → decide (n < 0) = xg ∧ ((xl.length : Int) == 0) = (n == 0))) ∧ ∃ tp tl ts, dtrimR p l s = (tp, tl, ts) ∧ dcmpR p l s tp tl ts = 0 := by
  by_cases hok : decB p l s = true ∧ decB q m t = true
  case neg => exact absurd (h.symm.trans (dcmp_bad hok)) hn
  obtain ⟨h1, h2⟩ := hok
  obtain ⟨tp, tl, ts, e1, e2, -⟩ := trim_cmp h1
  obtain ⟨z, rfl, rfl, -⟩ := dec_fit h1
  obtain ⟨x, rfl, rfl, -⟩ := dec_fit h2
  rw [dcmp_z h1 h2] at h
  have hm := h
  rw [cmp_max] at hm
  refine ⟨?_, ?_, ?_, ?_, tp, tl, ts, e1, e2⟩
  · rw [← h]; exact (cmpZ_small _ _).1
  · rw [← h]; exact (cmpZ_small _ _).2
  · rw [dcmp_z h2 h1, cmp_turned, h]
  · rw [dsub_z h1 h2]
    generalize z * ((10 ^ (max s t - s).toNat : Nat) : Int) = a at *
    generalize x * ((10 ^ (max s t - t).toNat : Nat) : Int) = b at *
    by_cases hf : Fit (a - b)
    · refine ⟨_, _, _, _, dmake_fit _ hf, fun _ => ?_⟩
      rcases Int.lt_trichotomy a b with c | c | c
      · rw [cmpZ_lt c] at hm
        subst hm
        refine ⟨by rw [sg_decide]; simp; omega, ?_⟩
        have : (L (a - b).natAbs).length ≠ 0 := fun e => by have := L_len_zero.1 e; omega
        rw [show ((-1 : Int) == 0) = false from rfl, beq_eq_false_iff_ne]
        omega
      · subst c
        rw [cmpZ_eq rfl] at hm
        subst hm
        rw [Int.sub_self]
        exact ⟨rfl, by rw [zero_z.2]; rfl⟩
      · rw [cmpZ_gt c] at hm
        subst hm
        refine ⟨by rw [sg_decide]; simp; omega, ?_⟩
        have : (L (a - b).natAbs).length ≠ 0 := fun e => by have := L_len_zero.1 e; omega
        rw [show ((1 : Int) == 0) = false from rfl, beq_eq_false_iff_ne]
        omega
    · exact ⟨_, _, _, _, dmake_not _ hf, fun e => by cases e⟩

end Go.Proofs.YthnkmjkgcnhlfaaGreatDoor
