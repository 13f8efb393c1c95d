/- What numbers answer; l1Big of the specification. -/
import Derived.Test.YthnkmjkgcnhlfaaGreatDoorH04
import Derived.Test.YthnkmjkgcnhlfaaGreatDoorBigC
import Derived.Test.YthnkmjkgcnhlfaaGreatDoorH02
import Derived.Test.YthnkmjkgcnhlfaaGreatDoorOkA
namespace Go.Proofs.YthnkmjkgcnhlfaaGreatDoor
open Go.RowKit
set_option maxRecDepth 100000

/-- Two numbers in their boxes, and a place for the answer. -/
structure Bx (w0 w' : World) (p : Bool) (u : Value) (q : Bool) (v : Value) : Prop where
  below : Below w0.heap.size w0 w'
  a0 : w'.cell? ⟨w0.heap.size, 0, none⟩ = some (.bool p)
  a1 : w'.cell? ⟨w0.heap.size, 1, none⟩ = some u
  b0 : w'.cell? ⟨w0.heap.size + 1, 0, none⟩ = some (.bool q)
  b1 : w'.cell? ⟨w0.heap.size + 1, 1, none⟩ = some v
  r0 : w'.cell? ⟨w0.heap.size + 1 + 1, 0, none⟩ = some (.bool false)
  r1 : w'.cell? ⟨w0.heap.size + 1 + 1, 1, none⟩ = some (.slice none 0 0)
  f0 : w'.frozen? ⟨w0.heap.size + 1 + 1, 0, none⟩ = false
  f1 : w'.frozen? ⟨w0.heap.size + 1 + 1, 1, none⟩ = false
  lt : w0.heap.size + 1 + 1 < w'.heap.size

theorem Bx.later {w0 w w' : World} {p q : Bool} {u v : Value} (h : Bx w0 w p u q v) (k : Below w.heap.size w w') : Bx w0 w' p u q v :=
  ⟨h.below.trans (k.mono h.below.size), cell_later k h.a0, cell_later k h.a1, cell_later k h.b0, cell_later k h.b1, cell_later k h.r0, cell_later k h.r1, frozen_later k h.f0 h.lt, frozen_later k h.f1 h.lt, lt_later k h.lt⟩

theorem Bx.start (w : World) (p q : Bool) (u v : Value) : Bx w (((w.alloc (.cells #[.bool p, u] 25)).alloc (.cells #[.bool q, v] 25)).alloc (.cells #[.bool false, .slice none 0 0] 25)) p u q v :=
  ⟨(((Below.refl _ _).alloc (Nat.le_refl _) _).alloc (by simp) _).alloc (by simp; omega) _, by go_simp, by go_simp, by go_simp, by go_simp, by go_simp, by go_simp, by go_simp, by go_simp, by simp⟩

end Go.Proofs.YthnkmjkgcnhlfaaGreatDoor
