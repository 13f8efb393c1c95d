/- Rounding in two steps, towards one side. Plain mathematics. -/
import Derived.Test.YthnkmjkgcnhlfaaGreatDoorK00
namespace Go.Proofs.YthnkmjkgcnhlfaaGreatDoor
open Go.RowKit

/-- Whether a way that goes to one side goes away from 0. -/
def dirB (m : Int) (neg : Bool) : Bool := if m = 1 then true else if m = 2 then false else if m = 3 then !neg else neg

theorem qrd_dir {neg : Bool} {a b : Nat} {m : Int} (hm : 1 ≤ m ∧ m ≤ 4) : qrd neg a b m = a / b + (if a % b ≠ 0 ∧ dirB m neg = true then 1 else 0) := by
  unfold qrd awayZ moreZ dirB
  by_cases h1 : m = 1
  · simp [h1]
  · by_cases h2 : m = 2
    · simp [h2]
    · by_cases h3 : m = 3
      · simp [h3]
      · have h4 : m = 4 := by omega
        simp [h4]

theorem up_div {a b : Nat} (hb : 0 < b) : a / b + (if a % b ≠ 0 then 1 else 0) = (a + (b - 1)) / b := by
  have e := Nat.div_add_mod a b
  have hr := Nat.mod_lt a hb
  generalize a / b = q at *
  generalize a % b = r at *
  subst e
  rw [Nat.add_assoc, Nat.add_comm (b * q), Nat.add_mul_div_left _ _ hb, Nat.add_comm _ q]
  congr 1
  by_cases h : r = 0
  · subst h
    rw [if_neg (by simp), Nat.zero_add, Nat.div_eq_of_lt (by omega)]
  · rw [if_pos h]
    symm
    exact Nat.div_eq_of_lt_le (by omega) (by omega)

theorem qrd_twice {neg : Bool} {a b c : Nat} {m : Int} (hm : 1 ≤ m ∧ m ≤ 4) (hb : 0 < b) (hc : 0 < c) : qrd neg (qrd neg a b m) c m = qrd neg a (b * c) m := by
  rw [qrd_dir hm, qrd_dir hm, qrd_dir hm]
  cases dirB m neg
  · simp only [Bool.false_eq_true, and_false, if_false, Nat.add_zero]
    exact Nat.div_div_eq_div_mul a b c
  · simp only [and_true]
    rw [up_div hc, up_div hb, up_div (Nat.mul_pos hb hc), show (a + (b - 1)) / b + (c - 1) = (a + (b - 1) + b * (c - 1)) / b by rw [Nat.add_mul_div_left _ _ hb], Nat.div_div_eq_div_mul]
    congr 1
    obtain ⟨c, rfl⟩ : ∃ k, c = k + 1 := ⟨c - 1, by omega⟩
    rw [Nat.add_sub_cancel, Nat.mul_add, Nat.mul_one]
    omega

theorem res_twice {X : Int} {b c : Nat} {m : Int} (hm : 1 ≤ m ∧ m ≤ 4) (hb : 0 < b) (hc : 0 < c) : resZ (resZ X b m) c m = resZ X (b * c) m := by
  have e := qrd_twice (neg := sg X) (a := X.natAbs) hm hb hc
  have z0 : ∀ g : Bool, qrd g 0 c m = 0 := fun g => by rw [qrd_dir hm]; simp
  unfold resZ
  rw [zof_abs2]
  generalize qrd (sg X) X.natAbs b m = n at *
  rw [← e]
  by_cases hn : n = 0
  · subst hn
    rw [z0, z0]
    unfold zof
    simp
  · by_cases hX : X = 0
    · subst hX
      have : sg (zof (sg 0) n) = sg 0 := by
        unfold sg zof
        simp
      rw [this]
    · rcases sg_zof (z := X) (n := n) (fun _ => hn) with h | h
      · rw [h]
      · exact absurd h hX

theorem res_scaled {X : Int} {b k : Nat} {m : Int} (hm : 1 ≤ m ∧ m ≤ 4) (hb : 0 < b) (hk : 0 < k) : resZ (X * (k : Int)) (k * b) m = resZ X b m := by
  rw [← res_twice hm hk hb, res_muls _ _ hk]

theorem round_twice {z s t u m : Int} (hm : 1 ≤ m ∧ m ≤ 4) (hut : u ≤ t) :
    resZ (resZ (z * ((10 ^ (t - s).toNat : Nat) : Int)) (10 ^ (s - t).toNat) m * ((10 ^ (u - t).toNat : Nat) : Int)) (10 ^ (t - u).toNat) m = resZ (z * ((10 ^ (u - s).toNat : Nat) : Int)) (10 ^ (s - u).toNat) m := by
  have hp : ∀ n : Nat, 0 < 10 ^ n := fun n => Nat.pow_pos (by decide)
  rw [show (u - t).toNat = 0 by omega, Nat.pow_zero, show ((1 : Nat) : Int) = 1 from rfl, Int.mul_one, res_twice hm (hp _) (hp _), ← Nat.pow_add]
  by_cases h : t ≤ s
  · rw [show (t - s).toNat = 0 by omega, show (u - s).toNat = 0 by omega, show (s - t).toNat + (t - u).toNat = (s - u).toNat by omega]
  · rw [show (s - t).toNat + (t - u).toNat = (t - u).toNat by omega]
    by_cases k : s ≤ u
    · rw [show (t - s).toNat = (u - s).toNat + (t - u).toNat by omega, Nat.pow_add, Int.natCast_mul, ← Int.mul_assoc, res_muls _ _ (hp _), show (s - u).toNat = 0 by omega, Nat.pow_zero, resZ_one]
    · rw [show (t - u).toNat = (t - s).toNat + (s - u).toNat by omega, Nat.pow_add, res_scaled hm (hp _) (hp _), show (u - s).toNat = 0 by omega, Nat.pow_zero, show ((1 : Nat) : Int) = 1 from rfl, Int.mul_one]

theorem dround_no2 {p : Bool} {l : List Int} {s t mode : Int} (h : ¬ (decB p l s = true ∧ (0 ≤ t ∧ t ≤ 12) ∧ (1 ≤ mode ∧ mode ≤ 7))) : droundR p l s t mode = (false, [], 0, 1) := by
  unfold droundR
  rw [if_neg h]

theorem twice_law {p og : Bool} {l ol : List Int} {s t m os : Int} (h : droundR p l s t m = (og, ol, os, 0)) (h5 : m < 5) :
    0 ≤ t ∧ t ≤ 12 ∧ ∀ u : Int, 0 ≤ u → u ≤ t → ∃ yg yl ys yc, droundR og ol os u m = (yg, yl, ys, yc) ∧ droundR p l s u m = (yg, yl, ys, yc) := by
  by_cases hg : decB p l s = true ∧ (0 ≤ t ∧ t ≤ 12) ∧ (1 ≤ m ∧ m ≤ 7)
  case neg =>
    rw [dround_no2 hg] at h
    simp at h
  obtain ⟨hb, ht, hm⟩ := hg
  refine ⟨ht.1, ht.2, fun u hu0 hut => ?_⟩
  obtain ⟨z, rfl, rfl, -⟩ := dec_fit hb
  rw [dround_z hb ht hm] at h
  by_cases hf : Fit (resZ (z * ((10 ^ (t - s).toNat : Nat) : Int)) (10 ^ (s - t).toNat) m)
  case neg =>
    rw [dmake_not _ hf] at h
    simp at h
  rw [dmake_fit _ hf] at h
  simp only [Prod.mk.injEq] at h
  obtain ⟨rfl, rfl, rfl, -⟩ := h
  have E : droundR (sg (resZ (z * ((10 ^ (t - s).toNat : Nat) : Int)) (10 ^ (s - t).toNat) m)) (L (resZ (z * ((10 ^ (t - s).toNat : Nat) : Int)) (10 ^ (s - t).toNat) m).natAbs) t u m = droundR (sg z) (L z.natAbs) s u m := by
    rw [dround_z hb ⟨hu0, by omega⟩ hm, dround_z (fit_dec hf ht.1 ht.2) ⟨hu0, by omega⟩ hm, round_twice ⟨hm.1, by omega⟩ hut]
  obtain ⟨a, b, c, d, hO⟩ : ∃ a b c d, droundR (sg z) (L z.natAbs) s u m = (a, b, c, d) := ⟨_, _, _, _, rfl⟩
  exact ⟨a, b, c, d, E.trans hO, hO⟩

end Go.Proofs.YthnkmjkgcnhlfaaGreatDoor
