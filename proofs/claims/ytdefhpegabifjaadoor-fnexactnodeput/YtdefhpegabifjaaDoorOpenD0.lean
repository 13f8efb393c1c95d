/- Texts that come in, opened. -/
import Derived.Test.YtdefhpegabifjaaDoorOpenI
import Derived.Test.YtdefhpegabifjaaDoorDkA0
import Derived.SliceStrings
namespace Go.Proofs.YtdefhpegabifjaaDoor
open Go.ChangeShapes Go.WideShapes Go.ChangeAt Go.RowKit Go.Joins

theorem Tryd.cellsStr : Tryd.prog.cellsOf 9 = 1 := by kernel_rfl

theorem open_texts {H : Type} {enc : TypeId × Value → H} {W : World} {n : Nat} {v : Value} {x : DataW H × List MemPlace}
    (h : DataW.trod enc Tryd.prog W 0 (fun _ => true) true n 22 [v] = some x) : ∃ l : List ByteArray, ReadsS W v l := by
  rcases open_strings Tryd.underlying22 Tryd.underlying9 Tryd.cellsStr h with ⟨hcs, _⟩ | ⟨a, len, cap, ss, hcs, _, hl, hm, hz, _, hcell, hsz⟩
  · simp at hcs
    subst hcs
    exact ⟨[], none, 0, 0, 0, rfl, ⟨by simp, by simp [maxLen], fun k => by simp at k, fun _ => rfl, fun i hi => by simp at hi, fun i hi => by simp at hi⟩⟩
  · simp at hcs
    subst hcs
    simp at hz
    have e : (ss.take len).length = len := by rw [List.length_take]; omega
    have hs : ∀ i (h : i < (ss.take len).length), (ss.take len)[i].size ≤ maxLen := fun i hi => hsz _ (List.mem_of_mem_take (List.getElem_mem hi))
    refine ⟨ss.take len, ?_⟩
    by_cases h0 : len = 0
    · subst h0
      exact ⟨some a, 0, 0, cap, by simp, ⟨by simp, hm, fun k => by simp at k, fun k => by simp at k, fun i hi => by simp at hi, hs⟩⟩
    · obtain ⟨b, off, spot⟩ := a
      have hspot : spot = none := by
        have := World.cell?_spot (hcell 0 (by omega))
        simpa [Addr.add] using this
      subst hspot
      refine ⟨some ⟨b, off, none⟩, b, off, cap, by rw [e], ⟨by omega, hm, fun _ => rfl, fun k => by simp at k, fun i hi => ?_, hs⟩⟩
      have hc := hcell i (by omega)
      rw [Addr.add_lit] at hc
      rw [hc]
      simp [List.getElem_take, List.getD_eq_getElem?_getD, List.getElem?_eq_getElem (show i < ss.length by omega)]

end Go.Proofs.YtdefhpegabifjaaDoor
