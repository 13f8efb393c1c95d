/- What the frames of laws over plain arguments ask of the program: closed facts. A number that comes in, opened: its sign and its limbs as they read. A decimal that comes in, opened: its sign, its limbs as they read, its scale. -/
import Derived.Test.YtjamogkenghonaaGreatDoorRows
import Derived.ProofKit
import Derived.OpenShut
import Derived.ShutString
import Derived.ChangeOld
import Derived.Below
import Derived.Lib.SmallJoins
import Derived.Test.YtjamogkenghonaaGreatDoorGa
namespace Go.Proofs.YtjamogkenghonaaGreatDoor

theorem Tryz.own : ownKnob Tryz.prog.godebug = none := by kernel_rfl
theorem Tryz.laidOut : laidOutB Tryz.prog = true := by kernel_rfl

end Go.Proofs.YtjamogkenghonaaGreatDoor

namespace Go.Proofs.YtjamogkenghonaaGreatDoor
open Go.ChangeShapes Go.WideShapes Go.ChangeAt Go.RowKit Go.Joins

theorem Tryz.cellsBig : Tryz.prog.cellsOf 24 = 2 := by kernel_rfl
theorem Tryz.cellsInt : Tryz.prog.cellsOf 3 = 1 := by kernel_rfl

theorem open_limbs {H : Type} {enc : TypeId × Value → H} {W : World} {m : Nat} {v : Value} {x : DataW H × List MemPlace}
    (h : DataW.trod enc Tryz.prog W 0 (fun _ => true) true m 22 [v] = some x) : ∃ l : List Int, Reads W v l ∧ ∀ n ∈ l, (Lit.int .i64 n).wf = true := by
  rcases open_ints Tryz.underlying22 Tryz.underlying3 Tryz.cellsInt h with ⟨hcs, _⟩ | ⟨x, len, cap, zs, hcs, _, hl, hm, hz, _, hcell, hwz⟩
  · simp at hcs
    subst hcs
    exact ⟨[], ⟨none, 0, 0, 0, rfl, ⟨by simp, by simp [maxLen], fun k => by simp at k, fun _ => rfl, fun i hi => by simp at hi⟩⟩, by simp⟩
  · simp at hcs
    subst hcs
    simp at hz
    have e : (zs.take len).length = len := by rw [List.length_take]; omega
    refine ⟨zs.take len, ?_, fun n hn => hwz n (List.mem_of_mem_take hn)⟩
    by_cases h0 : len = 0
    · subst h0
      exact ⟨some x, 0, 0, cap, by simp, ⟨by simp, hm, fun k => by simp at k, fun k => by simp at k, fun i hi => by simp at hi⟩⟩
    · obtain ⟨b, off, spot⟩ := x
      have hspot : spot = none := by
        have := World.cell?_spot (hcell 0 (by omega))
        simpa [Addr.add] using this
      subst hspot
      refine ⟨some ⟨b, off, none⟩, b, off, cap, by rw [e], ⟨by omega, hm, fun _ => rfl, fun k => by simp at k, fun i hi => ?_⟩⟩
      have hc := hcell i (by omega)
      rw [Addr.add_lit] at hc
      rw [hc]
      simp [List.getElem_take, List.getD_eq_getElem?_getD, List.getElem?_eq_getElem (show i < zs.length by omega)]

set_option maxRecDepth 100000 in
theorem open_bigs {H : Type} {enc : TypeId × Value → H} {W : World} {base : Nat} {v : Value} {d : DataW H} {p : List MemPlace}
    (hv : Value.okWide Tryz.prog W .any base 24 v) (h : DataW.Trod enc Tryz.prog W 0 (fun _ => true) true 24 v d p) :
    ∃ (neg : Bool) (s : Value) (l : List Int), v = .agg #[.bool neg, s] ∧ Reads W s l ∧ ∀ n ∈ l, (Lit.int .i64 n).wf = true := by
  obtain ⟨c0, c1, y0, y1, m, rfl, rfl, rfl, hy0, hy1⟩ := open_agg2 Tryz.underlying24 (by kernel_rfl) Tryz.cellsBig hv h
  obtain ⟨neg, e0, _⟩ := DataW.trod_bool Tryz.underlying4 hy0
  simp at e0
  subst e0
  obtain ⟨l, hl, hw⟩ := open_limbs hy1
  exact ⟨neg, c1, l, rfl, hl, hw⟩

end Go.Proofs.YtjamogkenghonaaGreatDoor

namespace Go.Proofs.YtjamogkenghonaaGreatDoor
open Go.ChangeShapes Go.WideShapes Go.ChangeAt Go.RowKit Go.Joins

theorem Tryz.cellsDec : Tryz.prog.cellsOf 26 = 3 := by kernel_rfl
theorem Tryz.cellsBool : Tryz.prog.cellsOf 4 = 1 := by kernel_rfl
theorem Tryz.cellsInts : Tryz.prog.cellsOf 22 = 1 := by kernel_rfl

set_option maxRecDepth 100000 in
theorem open_decs {H : Type} {enc : TypeId × Value → H} {W : World} {base : Nat} {v : Value} {d : DataW H} {p : List MemPlace}
    (hv : Value.okWide Tryz.prog W .any base 26 v) (h : DataW.Trod enc Tryz.prog W 0 (fun _ => true) true 26 v d p) :
    ∃ (neg : Bool) (s : Value) (l : List Int) (sc : Int), v = .agg #[.bool neg, s, .int .i64 sc] ∧ Reads W s l ∧ -9223372036854775808 ≤ sc ∧ sc ≤ 9223372036854775807 := by
  obtain ⟨cs, rfl, hsz⟩ := okWide_struct Tryz.underlying26 hv
  obtain ⟨c0, c1, c2, rfl⟩ := array3 (hsz.trans Tryz.cellsDec)
  obtain ⟨fuel, hf⟩ := h
  obtain ⟨y0, y1, n, -, -, h0, h1⟩ := trod_struct2 Tryz.underlying26 hf
  simp only [Value.cells, Tryz.cellsBig, Tryz.cellsInt, List.drop_zero, List.drop_succ_cons, List.take_succ_cons, List.take_zero] at h0 h1
  obtain ⟨k, e1, _, wk⟩ := DataW.trod_int Tryz.underlying3 h1
  obtain ⟨z0, z1, n', -, -, g0, g1⟩ := trod_struct2 Tryz.underlying24 h0
  simp only [Tryz.cellsBool, Tryz.cellsInts, List.drop_zero, List.drop_succ_cons, List.take_succ_cons, List.take_zero] at g0 g1
  obtain ⟨neg, e0, _⟩ := DataW.trod_bool Tryz.underlying4 g0
  obtain ⟨l, hl, _⟩ := open_limbs g1
  simp at e0 e1
  subst e0 e1
  refine ⟨neg, c1, l, k, rfl, hl, ?_⟩
  have e1 : IntKind.i64.min = -9223372036854775808 := rfl
  have e2 : IntKind.i64.max = 9223372036854775807 := rfl
  simp [Lit.wf, e1, e2] at wk
  exact wk

end Go.Proofs.YtjamogkenghonaaGreatDoor
