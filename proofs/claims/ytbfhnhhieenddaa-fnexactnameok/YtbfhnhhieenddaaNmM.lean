/- Words of the language in one text, blanks around each: plain mathematics. -/
import Derived.Test.YtbfhnhhieenddaaProg
import Derived.Lib.IndexMore
import Derived.KernelRfl
namespace Go.Proofs.Ytbfhnhhieenddaa
open Go

/-- The words that are no names. -/
def wordsL : List (List UInt8) := [[97, 110, 100], [97, 118, 103], [98, 101, 103, 105, 110], [98, 111, 111, 108], [98, 121], [99, 111, 109, 109, 105, 116], [99, 111, 117, 110, 116], [100, 97, 121], [100, 101, 108, 101, 116, 101], [100, 111, 119, 110], [100, 114, 111, 112], [102, 97, 108, 115, 101], [102, 114, 111, 109], [103, 114, 111, 117, 112], [105, 110, 100, 101, 120], [105, 110, 115, 101, 114, 116], [105, 115], [106, 111, 105, 110], [108, 101, 97, 115, 116], [108, 105, 109, 105, 116], [109, 111, 115, 116], [109, 117, 115, 116], [110, 111, 116], [110, 117, 108, 108], [110, 117, 109], [111, 110], [111, 110, 108, 121], [111, 114], [111, 114, 100, 101, 114], [111, 117, 116, 101, 114], [114, 111, 108, 108, 98, 97, 99, 107], [115, 101, 108, 101, 99, 116], [115, 101, 116], [115, 112, 97, 110], [115, 117, 109], [116, 97, 98, 108, 101], [116, 101, 120, 116], [116, 114, 117, 101], [117, 112, 100, 97, 116, 101], [119, 104, 101, 114, 101]]
/-- All of them, a blank around each. -/
def wordsT : List UInt8 := 32 :: wordsL.flatMap (fun x => x ++ [32])

/-- What stands ahead of the first blank, if there is one. -/
def tok (l : List UInt8) : Option (List UInt8) := if l.contains 32 then some (l.takeWhile (· != 32)) else none

theorem tok_of {s r : List UInt8} (h : ∀ x ∈ s, x ≠ 32) : tok (s ++ 32 :: r) = some s := by
  unfold tok
  rw [if_pos (by simp)]
  congr 1
  induction s with
  | nil => simp
  | cons x s ih =>
    have hx : x ≠ 32 := h x List.mem_cons_self
    rw [List.cons_append, List.takeWhile_cons_of_pos (by simpa using hx), ih (fun y hy => h y (List.mem_cons_of_mem _ hy))]

theorem words_there : ((List.range (wordsT.length + 1)).all fun i => match wordsT.drop i with | [] => true | x :: t => x != 32 || (match tok t with | none => true | some y => wordsL.contains y)) = true := by decide +kernel
theorem words_all : (wordsL.all fun y => (List.range (wordsT.length + 1)).any fun i => Lib.occAt wordsT (32 :: (y ++ [32])) i) = true := by decide +kernel

theorem occ_iff {s sub : List UInt8} {i : Nat} : Lib.occAt s sub i = true ↔ ∃ r, s.drop i = sub ++ r := by
  unfold Lib.occAt
  rw [List.isPrefixOf_iff_prefix]
  exact ⟨fun ⟨r, h⟩ => ⟨r, h.symm⟩, fun ⟨r, h⟩ => ⟨r, h.symm⟩⟩

theorem contains_word {s : List UInt8} (h : ∀ x ∈ s, x ≠ 32) : Lib.contains wordsT (32 :: (s ++ [32])) = wordsL.contains s := by
  have key : (∃ i, i ≤ wordsT.length ∧ Lib.occAt wordsT (32 :: (s ++ [32])) i = true) ↔ wordsL.contains s = true := by
    constructor
    · rintro ⟨i, hi, ho⟩
      obtain ⟨r, hr⟩ := occ_iff.1 ho
      have := List.all_eq_true.1 words_there i (List.mem_range.2 (by omega))
      rw [hr] at this
      simp only [List.cons_append, List.append_assoc] at this
      rw [tok_of h] at this
      simpa using this
    · intro hc
      have := List.all_eq_true.1 words_all s (by simpa using hc)
      obtain ⟨i, hi, ho⟩ := List.any_eq_true.1 this
      exact ⟨i, by have := List.mem_range.1 hi; omega, ho⟩
  unfold Lib.contains
  rcases Lib.index_spec wordsT (32 :: (s ++ [32])) with ⟨h1, h2⟩ | ⟨i, h1, h2, h3, _⟩
  · rw [h1]
    have : wordsL.contains s = false := by
      rw [← Bool.not_eq_true]
      intro hc
      obtain ⟨i, hi, ho⟩ := key.2 hc
      rw [h2 i hi] at ho
      cases ho
    rw [this]
    rfl
  · rw [h1, key.1 ⟨i, h2, h3⟩]
    simp

end Go.Proofs.Ytbfhnhhieenddaa
