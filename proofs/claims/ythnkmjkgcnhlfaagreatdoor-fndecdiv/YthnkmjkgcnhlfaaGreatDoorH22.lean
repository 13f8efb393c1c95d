/- What a number is written as, by its figures: plain mathematics. How many figures numbers have: plain mathematics. -/
import Derived.Test.YthnkmjkgcnhlfaaGreatDoorH11
namespace Go.Proofs.YthnkmjkgcnhlfaaGreatDoor


theorem dec_step (n : Nat) (h : 10 ≤ n) : Lib.decDigits n = Lib.decDigits (n / 10) ++ [UInt8.ofNat (48 + n % 10)] := by
  rw [Lib.decDigits, dif_neg (by omega)]

theorem dec_limb {n : Nat} (h : 10000 ≤ n) : Lib.decDigits n = Lib.decDigits (n / 10000) ++ limbT ((n % 10000 : Nat) : Int) := by
  rw [dec_step n (by omega), dec_step (n / 10) (by omega), dec_step (n / 10 / 10) (by omega), dec_step (n / 10 / 10 / 10) (by omega), limbT_eq (by omega) (by omega)]
  rw [show n / 10 / 10 / 10 / 10 = n / 10000 by omega, show n / 10 / 10 / 10 % 10 = ((n % 10000 : Nat) : Int).toNat / 1000 % 10 by omega, show n / 10 / 10 % 10 = ((n % 10000 : Nat) : Int).toNat / 100 % 10 by omega, show n / 10 % 10 = ((n % 10000 : Nat) : Int).toNat / 10 % 10 by omega, show n % 10 = ((n % 10000 : Nat) : Int).toNat % 10 by omega]
  simp

theorem txt_cons {x : Int} {l : List Int} (h : l ≠ []) : txtL (x :: l) = txtL l ++ limbT x := by
  have hl : 0 < l.length := List.length_pos_iff.2 h
  unfold txtL
  rw [if_neg (by simp), if_neg h, txtAt_step (by simp; omega)]
  congr 1
  unfold txtAt
  have e : (x :: l).getD ((x :: l).length - 1) 0 = l.getD (l.length - 1) 0 := by
    obtain ⟨k, hk⟩ : ∃ k, l.length = k + 1 := ⟨l.length - 1, by omega⟩
    simp [hk]
  rw [e]
  simp

/-- The text of limbs is that of the number. -/
theorem txt_dec (n : Nat) : txtL (L n) = Lib.decDigits n := by
  induction n using Nat.strongRecOn with
  | ind n ih =>
    by_cases h0 : n = 0
    · subst h0
      rw [L_zero, dd1 (by omega)]
      rfl
    · by_cases h1 : n < 10000
      · rw [L_pos (Nat.pos_of_ne_zero h0), show n / 10000 = 0 by omega, L_zero, show n % 10000 = n by omega]
        unfold txtL txtAt
        simp
      · have hne : L (n / 10000) ≠ [] := fun e => by have := L_nil.1 e; omega
        rw [L_pos (Nat.pos_of_ne_zero h0), txt_cons hne, ih (n / 10000) (by omega), ← dec_limb (n := n) (by omega)]

end Go.Proofs.YthnkmjkgcnhlfaaGreatDoor

namespace Go.Proofs.YthnkmjkgcnhlfaaGreatDoor


theorem dec_pos (n : Nat) : 0 < (Lib.decDigits n).length := by
  by_cases h : n < 10
  · rw [dd1 h]
    simp
  · rw [dec_step n (by omega)]
    simp

theorem dec_len (n k : Nat) (hk : 0 < k) : n < 10 ^ k ↔ (Lib.decDigits n).length ≤ k := by
  induction k generalizing n with
  | zero => omega
  | succ k ih =>
    by_cases h : n < 10
    · rw [dd1 h]
      simp
      have : 10 ^ 1 ≤ 10 ^ (k + 1) := Nat.pow_le_pow_right (by decide) (by omega)
      omega
    · rw [dec_step n (by omega), List.length_append, List.length_singleton]
      by_cases k0 : k = 0
      · subst k0
        have hp := dec_pos (n / 10)
        rw [show (10 : Nat) ^ (0 + 1) = 10 from rfl]
        omega
      · have := ih (n / 10) (by omega)
        rw [Nat.pow_succ]
        omega

theorem dec_mono {a b : Nat} (h : a ≤ b) : (Lib.decDigits a).length ≤ (Lib.decDigits b).length := by
  have hp := dec_pos b
  have := (dec_len b (Lib.decDigits b).length hp).2 (Nat.le_refl _)
  exact (dec_len a _ hp).1 (by omega)

end Go.Proofs.YthnkmjkgcnhlfaaGreatDoor
