/- A decimal that comes in, opened: its sign, its limbs as they read, its scale. -/
import Derived.Test.YtnegndajejhflaaDoorOpen
namespace Go.Proofs.YtnegndajejhflaaDoor
open Go.ChangeShapes Go.WideShapes Go.ChangeAt Go.RowKit Go.Joins

theorem Tryd.cellsDec : Tryd.prog.cellsOf 26 = 3 := by kernel_rfl
theorem Tryd.cellsBool : Tryd.prog.cellsOf 4 = 1 := by kernel_rfl
theorem Tryd.cellsInts : Tryd.prog.cellsOf 22 = 1 := by kernel_rfl

set_option maxRecDepth 100000 in
theorem open_decs {H : Type} {enc : TypeId × Value → H} {W : World} {base : Nat} {v : Value} {d : DataW H} {p : List MemPlace}
    (hv : Value.okWide Tryd.prog W .any base 26 v) (h : DataW.Trod enc Tryd.prog W 0 (fun _ => true) true 26 v d p) :
    ∃ (neg : Bool) (s : Value) (l : List Int) (sc : Int), v = .agg #[.bool neg, s, .int .i64 sc] ∧ Reads W s l ∧ -9223372036854775808 ≤ sc ∧ sc ≤ 9223372036854775807 := by
  obtain ⟨cs, rfl, hsz⟩ := okWide_struct Tryd.underlying26 hv
  obtain ⟨c0, c1, c2, rfl⟩ := array3 (hsz.trans Tryd.cellsDec)
  obtain ⟨fuel, hf⟩ := h
  obtain ⟨y0, y1, n, -, -, h0, h1⟩ := trod_struct2 Tryd.underlying26 hf
  simp only [Value.cells, Tryd.cellsBig, Tryd.cellsInt, List.drop_zero, List.drop_succ_cons, List.take_succ_cons, List.take_zero] at h0 h1
  obtain ⟨k, e1, _, wk⟩ := DataW.trod_int Tryd.underlying3 h1
  obtain ⟨z0, z1, n', -, -, g0, g1⟩ := trod_struct2 Tryd.underlying24 h0
  simp only [Tryd.cellsBool, Tryd.cellsInts, List.drop_zero, List.drop_succ_cons, List.take_succ_cons, List.take_zero] at g0 g1
  obtain ⟨neg, e0, _⟩ := DataW.trod_bool Tryd.underlying4 g0
  obtain ⟨l, hl, _⟩ := open_limbs g1
  simp at e0 e1
  subst e0 e1
  refine ⟨neg, c1, l, k, rfl, hl, ?_⟩
  have e1 : IntKind.i64.min = -9223372036854775808 := rfl
  have e2 : IntKind.i64.max = 9223372036854775807 := rfl
  simp [Lit.wf, e1, e2] at wk
  exact wk

end Go.Proofs.YtnegndajejhflaaDoor
