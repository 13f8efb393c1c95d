/- A value that comes in, opened: its cells, its limbs as they read. -/
import Derived.Test.YtnegndajejhflaaDoorOpenDc
import Derived.Test.YtnegndajejhflaaDoorOpenS
namespace Go.Proofs.YtnegndajejhflaaDoor
open Go.ChangeShapes Go.WideShapes Go.ChangeAt Go.RowKit Go.Joins

theorem Tryd.cellsVal : Tryd.prog.cellsOf 30 = 9 := by kernel_rfl
theorem Tryd.cellsTxt : Tryd.prog.cellsOf 9 = 1 := by kernel_rfl
theorem Tryd.cellsNumV : Tryd.prog.cellsOf 3 = 1 := by kernel_rfl
theorem Tryd.cellsSpn : Tryd.prog.cellsOf 28 = 2 := by kernel_rfl

theorem array9 {α : Type} {cs : Array α} (h : cs.size = 9) : ∃ c0 c1 c2 c3 c4 c5 c6 c7 c8, cs = #[c0, c1, c2, c3, c4, c5, c6, c7, c8] := by
  obtain ⟨l⟩ := cs
  match l, h with
  | [c0, c1, c2, c3, c4, c5, c6, c7, c8], _ => exact ⟨c0, c1, c2, c3, c4, c5, c6, c7, c8, rfl⟩

theorem trod_six {H : Type} {enc : TypeId × Value → H} {W : World} {t : TypeId} {f0 f1 f2 f3 f4 f5 : Field} {fuel : Nat} {cs : List Value} {x : DataW H × List MemPlace} (ht : Tryd.prog.underlying t = some (.struct #[f0, f1, f2, f3, f4, f5]))
    (h : DataW.trod enc Tryd.prog W 0 (fun _ => true) true fuel t cs = some x) :
    ∃ y0 y1 y2 y3 y4 y5 n, DataW.trod enc Tryd.prog W 0 (fun _ => true) true n f0.type ((cs.drop f0.offset).take (Tryd.prog.cellsOf f0.type)) = some y0 ∧
      DataW.trod enc Tryd.prog W 0 (fun _ => true) true n f1.type ((cs.drop f1.offset).take (Tryd.prog.cellsOf f1.type)) = some y1 ∧
      DataW.trod enc Tryd.prog W 0 (fun _ => true) true n f2.type ((cs.drop f2.offset).take (Tryd.prog.cellsOf f2.type)) = some y2 ∧
      DataW.trod enc Tryd.prog W 0 (fun _ => true) true n f3.type ((cs.drop f3.offset).take (Tryd.prog.cellsOf f3.type)) = some y3 ∧
      DataW.trod enc Tryd.prog W 0 (fun _ => true) true n f4.type ((cs.drop f4.offset).take (Tryd.prog.cellsOf f4.type)) = some y4 ∧
      DataW.trod enc Tryd.prog W 0 (fun _ => true) true n f5.type ((cs.drop f5.offset).take (Tryd.prog.cellsOf f5.type)) = some y5 := by
  obtain ⟨xs, n, _, rfl, hl, hlen, hf⟩ := DataW.trod_struct ht h
  match xs, hlen with
  | [y0, y1, y2, y3, y4, y5], _ => exact ⟨y0, y1, y2, y3, y4, y5, n, by simpa using hf 0 f0 rfl, by simpa using hf 1 f1 rfl, by simpa using hf 2 f2 rfl, by simpa using hf 3 f3 rfl, by simpa using hf 4 f4 rfl, by simpa using hf 5 f5 rfl⟩

set_option maxRecDepth 100000 in
theorem open_values {H : Type} {enc : TypeId × Value → H} {W : World} {base : Nat} {v : Value} {dd : DataW H} {p : List MemPlace}
    (hv : Value.okWide Tryd.prog W .any base 30 v) (h : DataW.Trod enc Tryd.prog W 0 (fun _ => true) true 30 v dd p) :
    ∃ (k : Int) (y n : Bool) (ao : Option Addr) (l : List Int) (cap : Nat) (sc d mo da : Int) (t : ByteArray), v = .agg #[.int .i64 k, .bool y, .bool n, .slice ao l.length cap, .int .i64 sc, .int .i64 d, .int .i64 mo, .int .i64 da, .string t] ∧ Reads W (.slice ao l.length cap) l ∧ t.size ≤ maxLen := by
  obtain ⟨cs, rfl, hsz⟩ := okWide_struct Tryd.underlying30 hv
  obtain ⟨c0, c1, c2, c3, c4, c5, c6, c7, c8, rfl⟩ := array9 (hsz.trans Tryd.cellsVal)
  obtain ⟨fuel, hf⟩ := h
  obtain ⟨y0, y1, y2, y3, y4, y5, m, h0, h1, h2, h3, h4, h5⟩ := trod_six Tryd.underlying30 hf
  simp only [Value.cells, Tryd.cellsNumV, Tryd.cellsBool, Tryd.cellsDec, Tryd.cellsSpn, Tryd.cellsTxt, List.drop_zero, List.drop_succ_cons, List.take_succ_cons, List.take_zero] at h0 h1 h2 h3 h4 h5
  obtain ⟨k, e0, _, _⟩ := DataW.trod_int Tryd.underlying3 h0
  obtain ⟨y, e1, _⟩ := DataW.trod_bool Tryd.underlying4 h1
  obtain ⟨z0, z1, n1, -, -, g0, g1⟩ := trod_struct2 Tryd.underlying26 h2
  simp only [Tryd.cellsBig, Tryd.cellsNumV, List.drop_zero, List.drop_succ_cons, List.take_succ_cons, List.take_zero] at g0 g1
  obtain ⟨sc, e4, _, _⟩ := DataW.trod_int Tryd.underlying3 g1
  obtain ⟨u0, u1, n2, -, -, q0, q1⟩ := trod_struct2 Tryd.underlying24 g0
  simp only [Tryd.cellsBool, Tryd.cellsInts, List.drop_zero, List.drop_succ_cons, List.take_succ_cons, List.take_zero] at q0 q1
  obtain ⟨n, e2, _⟩ := DataW.trod_bool Tryd.underlying4 q0
  obtain ⟨l, hl, _⟩ := open_limbs q1
  obtain ⟨d, e5, _, _⟩ := DataW.trod_int Tryd.underlying3 h3
  obtain ⟨s0, s1, n3, -, -, r0, r1⟩ := trod_struct2 Tryd.underlying28 h4
  simp only [Tryd.cellsNumV, List.drop_zero, List.drop_succ_cons, List.take_succ_cons, List.take_zero] at r0 r1
  obtain ⟨mo, e6, _, _⟩ := DataW.trod_int Tryd.underlying3 r0
  obtain ⟨da, e7, _, _⟩ := DataW.trod_int Tryd.underlying3 r1
  obtain ⟨t, e8, -, ht⟩ := DataW.trod_string Tryd.underlying9 h5
  simp at e0 e1 e2 e4 e5 e6 e7 e8
  subst e0 e1 e2 e4 e5 e6 e7 e8
  obtain ⟨ao, b, off, cap, rfl, hr⟩ := hl
  exact ⟨k, y, n, ao, l, cap, sc, d, mo, da, t, rfl, ⟨ao, b, off, cap, rfl, hr⟩, ht⟩

end Go.Proofs.YtnegndajejhflaaDoor
