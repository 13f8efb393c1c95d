/- The parts of a text and of the least one above all that begin with it. -/
import Derived.Test.YtannepjmidaboaaKeyA
import Derived.Test.YtannepjmidaboaaLexM
import Derived.Lib.Strings
namespace Go.Proofs.Ytannepjmidaboaa
open Go.RowKit

theorem byte_at (s : ByteArray) (i : Nat) (h : i < s.size) : s[i] = s.data.toList[i]'(by simpa using h) := by
  simp [ByteArray.getElem_eq_getElem_data]

theorem abv_parts {s : ByteArray} {k : Nat} (h : AbN s k) (h0 : k ≠ 0) :
    ∃ P c F, s.toList = P ++ c :: F ∧ c.toNat ≠ 255 ∧ (∀ x ∈ F, x = 255) ∧ (abv s k).toList = P ++ [c + 1] := by
  obtain ⟨hk, hF, hc⟩ := h
  have hl : s.data.toList.length = s.size := by simp
  have hlt : k - 1 < s.data.toList.length := by omega
  refine ⟨s.data.toList.take (k - 1), s.data.toList[k - 1], s.data.toList.drop k, ?_, ?_, ?_, ?_⟩
  · rw [Lib.toList_data]
    have e : s.data.toList.drop (k - 1) = s.data.toList[k - 1] :: s.data.toList.drop k := by
      rw [← List.getElem_cons_drop hlt, show k - 1 + 1 = k by omega]
    rw [← e, List.take_append_drop]
  · have := hc (by omega) (by omega)
    rwa [byte_at] at this
  · intro x hx
    obtain ⟨i, hi, rfl⟩ := List.getElem_of_mem hx
    rw [List.length_drop] at hi
    rw [List.getElem_drop]
    have := hF (k + i) (by omega) (by omega)
    rw [byte_at] at this
    exact UInt8.toNat_inj.1 this
  · rw [show abv s k = s.extract 0 (k - 1) ++ ⟨#[s[k - 1]'(by omega) + 1]⟩ from dif_pos ⟨by omega, by omega⟩, Lib.toList_data, ByteArray.data_append, Array.toList_append, Lib.extract_data, byte_at]
    simp

theorem begins_iff (s t : ByteArray) : ((t.extract 0 s.size).toList == s.toList) = true ↔ ∃ u, t.toList = s.toList ++ u := by
  have hs : s.data.toList.length = s.size := by simp
  have ht : t.data.toList.length = t.size := by simp
  rw [beq_iff_eq, Lib.toList_data, Lib.toList_data, Lib.toList_data, Lib.extract_data]
  simp only [List.drop_zero, Nat.sub_zero]
  constructor
  · intro e
    exact ⟨t.data.toList.drop s.size, by rw [← e, List.take_append_drop]⟩
  · rintro ⟨u, e⟩
    rw [e, ← hs, List.take_left']
    rfl

theorem app_toList (s t : ByteArray) : (s ++ t).toList = s.toList ++ t.toList := by
  rw [Lib.toList_data, Lib.toList_data, Lib.toList_data, ByteArray.data_append, Array.toList_append]

end Go.Proofs.Ytannepjmidaboaa
