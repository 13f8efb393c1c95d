/- A node that comes in, opened: its keys, its texts and its kids as they read. -/
import Derived.Test.YtdefhpegabifjaaDoorOpenD0
import Derived.Test.YtdefhpegabifjaaDoorOpen0
namespace Go.Proofs.YtdefhpegabifjaaDoor
open Go.ChangeShapes Go.WideShapes Go.ChangeAt Go.RowKit Go.Joins

theorem Tryd.cellsNode : Tryd.prog.cellsOf 25 = 4 := by kernel_rfl

set_option maxRecDepth 100000 in
theorem open_nodes {H : Type} {enc : TypeId × Value → H} {W : World} {base : Nat} {v : Value} {d : DataW H} {p : List MemPlace}
    (hv : Value.okWide Tryd.prog W .any base 25 v) (h : DataW.Trod enc Tryd.prog W 0 (fun _ => true) true 25 v d p) :
    ∃ (lf : Bool) (vk vv vi : Value) (ks vs : List ByteArray) (is : List Int), v = .agg #[.bool lf, vk, vv, vi] ∧ ReadsS W vk ks ∧ ReadsS W vv vs ∧ Reads W vi is := by
  obtain ⟨c0, c1, c2, c3, y0, y1, y2, y3, n, rfl, rfl, rfl, hy0, hy1, hy2, hy3⟩ := open_agg4 Tryd.underlying25 (by kernel_rfl) Tryd.cellsNode hv h
  obtain ⟨lf, e0, _⟩ := DataW.trod_bool Tryd.underlying4 hy0
  simp at e0
  subst e0
  obtain ⟨ks, hk⟩ := open_texts hy1
  obtain ⟨vs, hv⟩ := open_texts hy2
  obtain ⟨is, hi, _⟩ := open_limbs hy3
  exact ⟨lf, c1, c2, c3, ks, vs, is, rfl, hk, hv, hi⟩

end Go.Proofs.YtdefhpegabifjaaDoor
