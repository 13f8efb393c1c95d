/- The number of a text or -1, and what both parts of a type's text say. -/
import Derived.Test.YtnfalniijmccjaaDoorTgM
import Derived.Test.YtnfalniijmccjaaDoorNmC
namespace Go.Proofs.YtnfalniijmccjaaDoor
open Go.RowKit

/-- The number that a text is; -1, if it is none. -/
def NumOr (s : ByteArray) (x : Int) : Prop := (∃ n : Nat, x = n ∧ NumT s n) ∨ (x = -1 ∧ ∀ n, ¬ NumT s n)

theorem numOr_is (s : ByteArray) : ∃ x, NumOr s x := by
  by_cases h : ∃ n, NumT s n
  · obtain ⟨n, hn⟩ := h
    exact ⟨n, .inl ⟨n, rfl, hn⟩⟩
  · exact ⟨-1, .inr ⟨rfl, fun n hn => h ⟨n, hn⟩⟩⟩

theorem l1NumOr_any (w : World) (s : ByteArray) (x : Int) (hs : s.size ≤ maxLen) (h : NumOr s x) :
    Calls Tryd.prog 89 #[.string s] w fun e w' => e = .returned (.int .i64 x) ∧ w' = w := by
  rcases h with ⟨n, rfl, hn⟩ | ⟨rfl, hn⟩
  · exact l1Num_yes w s n hn
  · exact l1Num_no w s hs hn

theorem numOr_eq {s : ByteArray} {x b : Int} (h : NumOr s x) (e : s.data.toList = Lib.itoa b) (h0 : 0 ≤ b) (h1 : b < 10 ^ 9) : x = b := by
  obtain ⟨n, rfl⟩ := Int.eq_ofNat_of_zero_le h0
  have hn : NumT s n := ⟨e, by omega⟩
  rcases h with ⟨k, rfl, hk⟩ | ⟨-, hk⟩
  · rw [numT_same hk.1 hn.1]
  · exact absurd hn (hk n)

theorem type_num_iff {s A B : ByteArray} {x y : Int} (HA : ∀ a b e, TypT s a b e → a = 2 ∧ TypeIs 2 b e ∧ A.data.toList = Lib.itoa b ∧ B.data.toList = Lib.itoa e)
    (HB : ∀ d e : Nat, NumT A d → NumT B e → numT d e = s) (hx : NumOr A x) (hy : NumOr B y) : (TypeIs 2 x y → TypT s 2 x y) ∧ (¬ TypeIs 2 x y → ∀ a b e, ¬ TypT s a b e) := by
  constructor
  · intro h
    rcases type_kinds h with ⟨-, h1, h2, h3⟩ | ⟨h0, -⟩ | ⟨h0, -⟩ | ⟨h0, -⟩ | ⟨h0, -⟩
    · rcases hx with ⟨n, rfl, hn⟩ | ⟨rfl, -⟩
      · rcases hy with ⟨m, rfl, hm⟩ | ⟨rfl, -⟩
        · exact ⟨h, HB n m hn hm⟩
        · omega
      · omega
    all_goals exact absurd h0 (by decide)
  · intro h a b e k
    obtain ⟨rfl, hi, e1, e2⟩ := HA a b e k
    apply h
    rcases type_kinds hi with ⟨-, h1, h2, h3⟩ | ⟨h0, -⟩ | ⟨h0, -⟩ | ⟨h0, -⟩ | ⟨h0, -⟩
    · rw [numOr_eq hx e1 (by omega) (by omega), numOr_eq hy e2 (by omega) (by omega)]
      exact hi
    all_goals exact absurd h0 (by decide)

end Go.Proofs.YtnfalniijmccjaaDoor
