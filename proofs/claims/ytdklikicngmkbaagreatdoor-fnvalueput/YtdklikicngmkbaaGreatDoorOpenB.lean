/- Bytes that come in, opened: each reads as a byte. -/
import Derived.Test.YtdklikicngmkbaaGreatDoorOpenI
import Derived.Test.YtdklikicngmkbaaGreatDoorH00
namespace Go.Proofs.YtdklikicngmkbaaGreatDoor
open Go.ChangeShapes Go.WideShapes Go.ChangeAt Go.RowKit Go.Joins

theorem Tryz.cellsByte : Tryz.prog.cellsOf 5 = 1 := by kernel_rfl

theorem wf_byte {n : Int} (h : (Lit.int .u8 n).wf = true) : 0 ≤ n ∧ n ≤ 255 := by
  simp only [Lit.wf, Bool.and_eq_true, decide_eq_true_eq] at h
  exact h

set_option maxRecDepth 100000 in
theorem open_bytes {H : Type} {enc : TypeId × Value → H} {W : World} {base : Nat} {v : Value} {d : DataW H} {p : List MemPlace}
    (hv : Value.okWide Tryz.prog W .any base 22 v) (h : DataW.Trod enc Tryz.prog W 0 (fun _ => true) true 22 v d p) : Byt W v := by
  obtain ⟨a1, n, cap, rfl⟩ := okWide_slice Tryz.underlying22 hv
  obtain ⟨fuel, hf⟩ := h
  rcases open_ints Tryz.underlying22 Tryz.underlying5 Tryz.cellsByte hf with ⟨hcs, _⟩ | ⟨x, len, cap', zs, hcs, _, hl, hm, hz, _, hcell, hwz⟩
  · simp [Value.cells] at hcs
    obtain ⟨rfl, rfl, rfl⟩ := hcs
    exact ⟨none, 0, 0, 0, 0, rfl, by omega, by omega, fun k => by omega, fun i hi => by omega⟩
  · simp [Value.cells] at hcs
    obtain ⟨rfl, rfl, rfl⟩ := hcs
    simp at hz
    obtain ⟨b, off, spot⟩ := x
    unfold maxLen at hm
    refine ⟨_, b, off, n, cap, rfl, hl, by omega, fun k => ?_, fun i hi => ?_⟩
    · have hspot : spot = none := by
        have := World.cell?_spot (hcell 0 (by omega))
        simpa [Addr.add] using this
      rw [hspot]
    · have hspot : spot = none := by
        have := World.cell?_spot (hcell 0 (by omega))
        simpa [Addr.add] using this
      subst hspot
      have hc := hcell i (by omega)
      rw [Addr.add_lit] at hc
      have hi2 : i < zs.length := by omega
      have e : zs.getD i 0 = zs[i] := by simp [List.getD_eq_getElem?_getD, List.getElem?_eq_getElem hi2]
      rw [e] at hc
      have hw := wf_byte (hwz _ (List.getElem_mem hi2))
      exact ⟨zs[i], hc, hw.1, by omega⟩

end Go.Proofs.YtdklikicngmkbaaGreatDoor
