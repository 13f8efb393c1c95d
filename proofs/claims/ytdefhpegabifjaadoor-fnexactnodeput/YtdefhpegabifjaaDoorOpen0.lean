/- Numbers that come in, opened: a slice of int as it reads. -/
import Derived.Test.YtdefhpegabifjaaDoorOpenI
import Derived.Test.YtdefhpegabifjaaDoorBase
import Derived.ProofKit
import Derived.OpenShut
import Derived.ShutString
import Derived.ChangeOld
import Derived.Below
import Derived.Lib.SmallJoins
namespace Go.Proofs.YtdefhpegabifjaaDoor
open Go.ChangeShapes Go.WideShapes Go.ChangeAt Go.RowKit Go.Joins

theorem Tryd.cellsInt : Tryd.prog.cellsOf 3 = 1 := by kernel_rfl

theorem open_limbs {H : Type} {enc : TypeId × Value → H} {W : World} {m : Nat} {v : Value} {x : DataW H × List MemPlace}
    (h : DataW.trod enc Tryd.prog W 0 (fun _ => true) true m 23 [v] = some x) : ∃ l : List Int, Reads W v l ∧ ∀ n ∈ l, (Lit.int .i64 n).wf = true := by
  rcases open_ints Tryd.underlying23 Tryd.underlying3 Tryd.cellsInt h with ⟨hcs, _⟩ | ⟨x, len, cap, zs, hcs, _, hl, hm, hz, _, hcell, hwz⟩
  · simp at hcs
    subst hcs
    exact ⟨[], ⟨none, 0, 0, 0, rfl, ⟨by simp, by simp [maxLen], fun k => by simp at k, fun _ => rfl, fun i hi => by simp at hi⟩⟩, by simp⟩
  · simp at hcs
    subst hcs
    simp at hz
    have e : (zs.take len).length = len := by rw [List.length_take]; omega
    refine ⟨zs.take len, ?_, fun n hn => hwz n (List.mem_of_mem_take hn)⟩
    by_cases h0 : len = 0
    · subst h0
      exact ⟨some x, 0, 0, cap, by simp, ⟨by simp, hm, fun k => by simp at k, fun k => by simp at k, fun i hi => by simp at hi⟩⟩
    · obtain ⟨b, off, spot⟩ := x
      have hspot : spot = none := by
        have := World.cell?_spot (hcell 0 (by omega))
        simpa [Addr.add] using this
      subst hspot
      refine ⟨some ⟨b, off, none⟩, b, off, cap, by rw [e], ⟨by omega, hm, fun _ => rfl, fun k => by simp at k, fun i hi => ?_⟩⟩
      have hc := hcell i (by omega)
      rw [Addr.add_lit] at hc
      rw [hc]
      simp [List.getElem_take, List.getD_eq_getElem?_getD, List.getElem?_eq_getElem (show i < zs.length by omega)]

end Go.Proofs.YtdefhpegabifjaaDoor
