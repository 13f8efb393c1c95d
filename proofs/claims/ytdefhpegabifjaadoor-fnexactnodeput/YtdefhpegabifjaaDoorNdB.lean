/- A box of four cells. -/
import Derived.Test.YtdefhpegabifjaaDoorCelH
namespace Go.Proofs.YtdefhpegabifjaaDoor
open Go.RowKit
set_option linter.unusedSimpArgs false

/-- A box of four cells, as it stands. -/
structure N4 (W : World) (b : Nat) (x0 x1 x2 x3 : Value) : Prop where
  c0 : W.cell? ⟨b, 0, none⟩ = some x0
  c1 : W.cell? ⟨b, 1, none⟩ = some x1
  c2 : W.cell? ⟨b, 2, none⟩ = some x2
  c3 : W.cell? ⟨b, 3, none⟩ = some x3
  f0 : W.frozen? ⟨b, 0, none⟩ = false
  f1 : W.frozen? ⟨b, 1, none⟩ = false
  f2 : W.frozen? ⟨b, 2, none⟩ = false
  f3 : W.frozen? ⟨b, 3, none⟩ = false
  lt : b < W.heap.size

theorem N4.ofBlock {w w' : World} {b : Nat} {x0 x1 x2 x3 : Value} (h : N4 w b x0 x1 x2 x3) (hb : w'.heap[b]? = w.heap[b]?) (hs : w.heap.size ≤ w'.heap.size) : N4 w' b x0 x1 x2 x3 :=
  ⟨(World.cell?_of_block (w := w) (a := ⟨b, 0, none⟩) hb).trans h.c0, (World.cell?_of_block (w := w) (a := ⟨b, 1, none⟩) hb).trans h.c1, (World.cell?_of_block (w := w) (a := ⟨b, 2, none⟩) hb).trans h.c2, (World.cell?_of_block (w := w) (a := ⟨b, 3, none⟩) hb).trans h.c3, (World.frozen?_of_block (w := w) (a := ⟨b, 0, none⟩) hb).trans h.f0, (World.frozen?_of_block (w := w) (a := ⟨b, 1, none⟩) hb).trans h.f1, (World.frozen?_of_block (w := w) (a := ⟨b, 2, none⟩) hb).trans h.f2, (World.frozen?_of_block (w := w) (a := ⟨b, 3, none⟩) hb).trans h.f3, Nat.lt_of_lt_of_le h.lt hs⟩
theorem N4.later {w w' : World} {b : Nat} {x0 x1 x2 x3 : Value} (h : N4 w b x0 x1 x2 x3) (k : Below w.heap.size w w') : N4 w' b x0 x1 x2 x3 := h.ofBlock (k.block b h.lt) k.size
theorem N4.other {w : World} {b : Nat} {x0 x1 x2 x3 : Value} (h : N4 w b x0 x1 x2 x3) {a : Addr} (ha : b ≠ a.block) (u : Value) : N4 (w.setCell a u) b x0 x1 x2 x3 :=
  h.ofBlock (Below.heap_setCell w a u b ha) (by simp [World.setCell])
theorem N4.new (X : World) (x0 x1 x2 x3 : Value) (ty : TypeId) : N4 (X.alloc (.cells #[x0, x1, x2, x3] ty)) X.heap.size x0 x1 x2 x3 :=
  ⟨by go_simp, by go_simp, by go_simp, by go_simp, by go_simp, by go_simp, by go_simp, by go_simp, by simp⟩
theorem N4.put0 {w : World} {b : Nat} {x0 x1 x2 x3 : Value} (h : N4 w b x0 x1 x2 x3) (u : Value) : N4 (w.setCell ⟨b, 0, none⟩ u) b u x1 x2 x3 :=
  ⟨cell_hit h.c0 u, cell_pass h.c1 (by decide) u, cell_pass h.c2 (by decide) u, cell_pass h.c3 (by decide) u, by simpa using h.f0, by simpa using h.f1, by simpa using h.f2, by simpa using h.f3, by simpa [World.setCell] using h.lt⟩
theorem N4.put1 {w : World} {b : Nat} {x0 x1 x2 x3 : Value} (h : N4 w b x0 x1 x2 x3) (u : Value) : N4 (w.setCell ⟨b, 1, none⟩ u) b x0 u x2 x3 :=
  ⟨cell_pass h.c0 (by decide) u, cell_hit h.c1 u, cell_pass h.c2 (by decide) u, cell_pass h.c3 (by decide) u, by simpa using h.f0, by simpa using h.f1, by simpa using h.f2, by simpa using h.f3, by simpa [World.setCell] using h.lt⟩
theorem N4.put2 {w : World} {b : Nat} {x0 x1 x2 x3 : Value} (h : N4 w b x0 x1 x2 x3) (u : Value) : N4 (w.setCell ⟨b, 2, none⟩ u) b x0 x1 u x3 :=
  ⟨cell_pass h.c0 (by decide) u, cell_pass h.c1 (by decide) u, cell_hit h.c2 u, cell_pass h.c3 (by decide) u, by simpa using h.f0, by simpa using h.f1, by simpa using h.f2, by simpa using h.f3, by simpa [World.setCell] using h.lt⟩
theorem N4.put3 {w : World} {b : Nat} {x0 x1 x2 x3 : Value} (h : N4 w b x0 x1 x2 x3) (u : Value) : N4 (w.setCell ⟨b, 3, none⟩ u) b x0 x1 x2 u :=
  ⟨cell_pass h.c0 (by decide) u, cell_pass h.c1 (by decide) u, cell_pass h.c2 (by decide) u, cell_hit h.c3 u, by simpa using h.f0, by simpa using h.f1, by simpa using h.f2, by simpa using h.f3, by simpa [World.setCell] using h.lt⟩

end Go.Proofs.YtdefhpegabifjaaDoor
