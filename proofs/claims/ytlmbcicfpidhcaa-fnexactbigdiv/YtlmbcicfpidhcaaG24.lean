/- What the frames of laws over plain arguments ask of the program: closed facts. A number that comes in, opened: its sign and its limbs as they read. -/
import Derived.Test.YtlmbcicfpidhcaaRows
import Derived.ProofKit
import Derived.OpenShut
import Derived.ShutString
import Derived.ChangeOld
import Derived.Below
import Derived.Lib.SmallJoins
import Derived.Test.YtlmbcicfpidhcaaG00
namespace Go.Proofs.Ytlmbcicfpidhcaa

theorem Try.own : ownKnob Try.prog.godebug = none := by kernel_rfl
theorem Try.laidOut : laidOutB Try.prog = true := by kernel_rfl

end Go.Proofs.Ytlmbcicfpidhcaa

namespace Go.Proofs.Ytlmbcicfpidhcaa
open Go.ChangeShapes Go.WideShapes Go.ChangeAt Go.RowKit Go.Joins

theorem Try.cellsBig : Try.prog.cellsOf 37 = 2 := by kernel_rfl
theorem Try.cellsInt : Try.prog.cellsOf 3 = 1 := by kernel_rfl

theorem open_limbs {H : Type} {enc : TypeId × Value → H} {W : World} {m : Nat} {v : Value} {x : DataW H × List MemPlace}
    (h : DataW.trod enc Try.prog W 0 (fun _ => true) true m 23 [v] = some x) : ∃ l : List Int, Reads W v l ∧ ∀ n ∈ l, (Lit.int .i64 n).wf = true := by
  rcases open_ints Try.underlying23 Try.underlying3 Try.cellsInt h with ⟨hcs, _⟩ | ⟨x, len, cap, zs, hcs, _, hl, hm, hz, _, hcell, hwz⟩
  · simp at hcs
    subst hcs
    exact ⟨[], ⟨none, 0, 0, 0, rfl, ⟨by simp, by simp [maxLen], fun k => by simp at k, fun _ => rfl, fun i hi => by simp at hi⟩⟩, by simp⟩
  · simp at hcs
    subst hcs
    simp at hz
    have e : (zs.take len).length = len := by rw [List.length_take]; omega
    refine ⟨zs.take len, ?_, fun n hn => hwz n (List.mem_of_mem_take hn)⟩
    by_cases h0 : len = 0
    · subst h0
      exact ⟨some x, 0, 0, cap, by simp, ⟨by simp, hm, fun k => by simp at k, fun k => by simp at k, fun i hi => by simp at hi⟩⟩
    · obtain ⟨b, off, spot⟩ := x
      have hspot : spot = none := by
        have := World.cell?_spot (hcell 0 (by omega))
        simpa [Addr.add] using this
      subst hspot
      refine ⟨some ⟨b, off, none⟩, b, off, cap, by rw [e], ⟨by omega, hm, fun _ => rfl, fun k => by simp at k, fun i hi => ?_⟩⟩
      have hc := hcell i (by omega)
      rw [Addr.add_lit] at hc
      rw [hc]
      simp [List.getElem_take, List.getD_eq_getElem?_getD, List.getElem?_eq_getElem (show i < zs.length by omega)]

set_option maxRecDepth 100000 in
theorem open_bigs {H : Type} {enc : TypeId × Value → H} {W : World} {base : Nat} {v : Value} {d : DataW H} {p : List MemPlace}
    (hv : Value.okWide Try.prog W .any base 37 v) (h : DataW.Trod enc Try.prog W 0 (fun _ => true) true 37 v d p) :
    ∃ (neg : Bool) (s : Value) (l : List Int), v = .agg #[.bool neg, s] ∧ Reads W s l ∧ ∀ n ∈ l, (Lit.int .i64 n).wf = true := by
  obtain ⟨c0, c1, y0, y1, m, rfl, rfl, rfl, hy0, hy1⟩ := open_agg2 Try.underlying37 (by kernel_rfl) Try.cellsBig hv h
  obtain ⟨neg, e0, _⟩ := DataW.trod_bool Try.underlying4 hy0
  simp at e0
  subst e0
  obtain ⟨l, hl, hw⟩ := open_limbs hy1
  exact ⟨neg, c1, l, rfl, hl, hw⟩

end Go.Proofs.Ytlmbcicfpidhcaa
