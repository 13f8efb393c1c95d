/- Two numbers in their boxes. -/
import Derived.Test.YtomcgnkmlmiijaaDoorGb
namespace Go.Proofs.YtomcgnkmlmiijaaDoor
open Go.RowKit



/-- Two numbers in their boxes. -/
structure Bx2 (w0 w' : World) (p : Bool) (u : Value) (q : Bool) (v : Value) : Prop where
  below : Below w0.heap.size w0 w'
  a0 : w'.cell? ⟨w0.heap.size, 0, none⟩ = some (.bool p)
  a1 : w'.cell? ⟨w0.heap.size, 1, none⟩ = some u
  b0 : w'.cell? ⟨w0.heap.size + 1, 0, none⟩ = some (.bool q)
  b1 : w'.cell? ⟨w0.heap.size + 1, 1, none⟩ = some v

theorem Bx2.later {w0 w w' : World} {p q : Bool} {u v : Value} (h : Bx2 w0 w p u q v) (k : Below w.heap.size w w') : Bx2 w0 w' p u q v :=
  ⟨h.below.trans (k.mono h.below.size), cell_later k h.a0, cell_later k h.a1, cell_later k h.b0, cell_later k h.b1⟩

theorem Bx2.start (w : World) (p q : Bool) (u v : Value) : Bx2 w ((w.alloc (.cells #[.bool p, u] 25)).alloc (.cells #[.bool q, v] 25)) p u q v :=
  ⟨((Below.refl _ _).alloc (Nat.le_refl _) _).alloc (by simp) _, by go_simp, by go_simp, by go_simp, by go_simp⟩

end Go.Proofs.YtomcgnkmlmiijaaDoor
