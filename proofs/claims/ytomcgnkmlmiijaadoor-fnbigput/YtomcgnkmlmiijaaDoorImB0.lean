/- Lists: what holds of each place. -/
import Derived.Test.YtomcgnkmlmiijaaDoorImA
import Derived.Laws.CopyOwn
namespace Go.Proofs.YtomcgnkmlmiijaaDoor
open Go.RowKit

/-- Each place of a row within bounds. -/
theorem mem_of_getD {c : List Int} {P : Int → Prop} (h : ∀ j, j < c.length → P (c.getD j 0)) : ∀ x ∈ c, P x := by
  intro x hx
  obtain ⟨j, hj, rfl⟩ := List.getElem_of_mem hx
  have := h j hj
  rwa [getD_at hj] at this

theorem getD_app_zeros (l : List Int) (k j : Nat) : (l ++ List.replicate k (0 : Int)).getD j 0 = l.getD j 0 := by
  simp only [List.getD_eq_getElem?_getD, List.getElem?_append, List.getElem?_replicate]
  by_cases hj : j < l.length
  · rw [if_pos hj]
  · rw [if_neg hj, List.getElem?_eq_none (l := l) (by omega)]
    split <;> rfl

end Go.Proofs.YtomcgnkmlmiijaaDoor
