/- A day out of its parts, and its parts out of a day. Plain mathematics. -/
import Derived.Test.YtnfalniijmccjaaDoorDayXa
namespace Go.Proofs.YtnfalniijmccjaaDoor

theorem lastR_mo {n : Int} (h : IsDay n) : lastR ((moN n : Int) / 12 + 1) ((moN n : Int) % 12 + 1) = lastM (moN n) := by
  have hl := moN_lt h.1 h.2
  unfold lastR
  rw [if_pos (show YM _ _ from ⟨by omega, by omega, by omega, by omega⟩)]
  unfold lastM
  rw [show ((moN n / 12 : Nat) : Int) = (moN n : Int) / 12 by omega, show ((moN n % 12 : Nat) : Int) = (moN n : Int) % 12 by omega]

theorem ofR_parts {n : Int} (h : IsDay n) : dayR ((moN n : Int) / 12 + 1) ((moN n : Int) % 12 + 1) (dyN n) = n := by
  have hl := moN_lt h.1 h.2
  have hd := dyN_bounds h.1 h.2
  have e := lastR_mo h
  have hy : YM ((moN n : Int) / 12 + 1) ((moN n : Int) % 12 + 1) := ⟨by omega, by omega, by omega, by omega⟩
  unfold lastR at e
  rw [if_pos hy] at e
  unfold dayR
  rw [if_pos ⟨hy, hd.1, by rw [e]; exact hd.2⟩, show moOf ((moN n : Int) / 12 + 1) ((moN n : Int) % 12 + 1) = moN n by unfold moOf; omega]
  unfold dyN; omega

theorem parts_of {y m d : Int} (h : YM y m ∧ 1 ≤ d ∧ d ≤ lastD y m) : IsDay (dayR y m d) ∧ (moN (dayR y m d) : Int) / 12 + 1 = y ∧ (moN (dayR y m d) : Int) % 12 + 1 = m ∧ dyN (dayR y m d) = d := by
  have e : dayR y m d = ahead (moOf y m) + d := if_pos h
  have hk := moOf_lt h.1
  have hc := moOf_cast h.1
  have hl := moOf_last h.1
  have s := ahead_succ (moOf y m)
  have n0 := ahead_nonneg (moOf y m)
  have up := ahead_le (show moOf y m + 1 ≤ 119988 by omega)
  rw [ahead_end] at up
  have em : moN (dayR y m d) = moOf y m := moN_of ⟨by rw [e]; omega, by rw [e, s, hl]; omega⟩
  obtain ⟨hy1, hy2, hm1, hm2⟩ := h.1
  refine ⟨⟨by rw [e]; omega, by rw [e]; omega⟩, ?_, ?_, ?_⟩
  · rw [em]; omega
  · rw [em]; omega
  · unfold dyN; rw [em, e]; omega

theorem ofR_out {y m d : Int} (h : ¬ (YM y m ∧ 1 ≤ d ∧ d ≤ lastD y m)) : dayR y m d = 0 := if_neg h

end Go.Proofs.YtnfalniijmccjaaDoor
