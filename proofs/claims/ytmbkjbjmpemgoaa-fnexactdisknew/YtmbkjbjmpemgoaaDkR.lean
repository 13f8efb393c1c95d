/- Boxes and lists of a disk behind marks. -/
import Derived.Test.YtmbkjbjmpemgoaaDkN
import Derived.Test.YtmbkjbjmpemgoaaDbx
namespace Go.Proofs.Ytmbkjbjmpemgoaa
open Go.RowKit

theorem DBox.but {w w' : World} {b : Nat} {vc vw : Value} {room left : Int} {r s : Option Nat} (h : DBox w b vc vw room left) (k : But2 w w' r s) (hr : some b ≠ r) (hs : some b ≠ s) : DBox w' b vc vw room left :=
  ⟨(k.cell (p := ⟨b, 0, none⟩) h.lt hr hs).trans h.c0, (k.cell (p := ⟨b, 1, none⟩) h.lt hr hs).trans h.c1, (k.cell (p := ⟨b, 2, none⟩) h.lt hr hs).trans h.c2, (k.cell (p := ⟨b, 3, none⟩) h.lt hr hs).trans h.c3⟩

theorem ownsRow_but {B : Nat} {t : TypeId} {k : Nat} {v : Value} {n : Nat} {xs : List Value} {w w' : World} {r s : Option Nat} (h : w.ownsRow B t k v n xs) (u : But2 w w' r s) (hn : ∀ x, v.ownBlock = some x → some x ≠ r ∧ some x ≠ s) : w'.ownsRow B t k v n xs := by
  obtain ⟨h1, h2⟩ := h
  refine ⟨h1, ?_⟩
  rcases h2 with h2 | ⟨g, cap, cur, rfl, hB, hg, hr⟩
  · exact .inl h2
  · exact .inr ⟨g, cap, cur, rfl, hB, by rw [u.block g (Array.getElem?_eq_some_iff.1 hg).1 (hn g rfl).1 (hn g rfl).2]; exact hg, hr⟩

end Go.Proofs.Ytmbkjbjmpemgoaa
