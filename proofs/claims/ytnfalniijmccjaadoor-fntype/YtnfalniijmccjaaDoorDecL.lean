/- How many figures numbers have: plain mathematics. -/
import Derived.Test.YtnfalniijmccjaaDoorTxD
namespace Go.Proofs.YtnfalniijmccjaaDoor


theorem dec_pos (n : Nat) : 0 < (Lib.decDigits n).length := by
  by_cases h : n < 10
  · rw [dd1 h]
    simp
  · rw [dec_step n (by omega)]
    simp

theorem dec_len (n k : Nat) (hk : 0 < k) : n < 10 ^ k ↔ (Lib.decDigits n).length ≤ k := by
  induction k generalizing n with
  | zero => omega
  | succ k ih =>
    by_cases h : n < 10
    · rw [dd1 h]
      simp
      have : 10 ^ 1 ≤ 10 ^ (k + 1) := Nat.pow_le_pow_right (by decide) (by omega)
      omega
    · rw [dec_step n (by omega), List.length_append, List.length_singleton]
      by_cases k0 : k = 0
      · subst k0
        have hp := dec_pos (n / 10)
        rw [show (10 : Nat) ^ (0 + 1) = 10 from rfl]
        omega
      · have := ih (n / 10) (by omega)
        rw [Nat.pow_succ]
        omega

theorem dec_mono {a b : Nat} (h : a ≤ b) : (Lib.decDigits a).length ≤ (Lib.decDigits b).length := by
  have hp := dec_pos b
  have := (dec_len b (Lib.decDigits b).length hp).2 (Nat.le_refl _)
  exact (dec_len a _ hp).1 (by omega)

end Go.Proofs.YtnfalniijmccjaaDoor
