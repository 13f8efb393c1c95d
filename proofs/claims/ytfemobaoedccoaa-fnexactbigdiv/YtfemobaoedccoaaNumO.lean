/- Numbers that are ok, by their numbers. -/
import Derived.Test.YtfemobaoedccoaaNumA

namespace Go.Proofs.Ytfemobaoedccoaa


theorem fit_le {a c : Int} (ha : (L a.natAbs).length ≤ 16) (h : c.natAbs ≤ a.natAbs) : (L c.natAbs).length ≤ 16 := L_len_le (Nat.lt_of_le_of_lt h (lt_of_L_len ha))

theorem outR_fit {z : Int} (h : (L z.natAbs).length ≤ 16) : outR true z = (sg z, L z.natAbs, true) := by unfold outR; rw [if_pos ⟨rfl, h⟩]

theorem sg_nat (n : Nat) : sg (n : Int) = false := by simp [sg]

/-- A number that is ok, by its number. -/
theorem num_of {p : Bool} {l : List Int} (h : okB p l = true) : ∃ a : Int, p = sg a ∧ l = L a.natAbs ∧ (L a.natAbs).length ≤ 16 := by
  obtain ⟨e, hlt⟩ := ok_limbs h
  have hn : (zv p l).natAbs = (val l).toNat := by unfold zv zof; split <;> omega
  exact ⟨zv p l, ok_sign h, by rw [hn]; exact e, by rw [hn]; exact L_len_le hlt⟩

end Go.Proofs.Ytfemobaoedccoaa
