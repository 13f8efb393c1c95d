/- A box of a number that stands empty while a call goes on. -/
import Derived.Test.YtomcgnkmlmiijaaDoorBgL
namespace Go.Proofs.YtomcgnkmlmiijaaDoor
open Go.RowKit


/-- The place for an answer, made first. -/
structure EBox' (w0 w : World) : Prop where
  below : Below w0.heap.size w0 w
  c0 : w.cell? ⟨w0.heap.size, 0, none⟩ = some (.bool false)
  c1 : w.cell? ⟨w0.heap.size, 1, none⟩ = some (.slice none 0 0)
  f0 : w.frozen? ⟨w0.heap.size, 0, none⟩ = false
  f1 : w.frozen? ⟨w0.heap.size, 1, none⟩ = false
  lt : w0.heap.size < w.heap.size

theorem EBox'.later {w0 w w' : World} (h : EBox' w0 w) (b : Below w.heap.size w w') : EBox' w0 w' :=
  ⟨h.below.trans (b.mono h.below.size), cell_later b h.c0, cell_later b h.c1, frozen_later b h.f0 h.lt, frozen_later b h.f1 h.lt, lt_later b h.lt⟩

theorem EBox'.start (w : World) : EBox' w (w.alloc (.cells #[.bool false, .slice none 0 0] 25)) :=
  ⟨(Below.refl _ _).alloc (Nat.le_refl _) _, by go_simp, by go_simp, by go_simp, by go_simp, by simp⟩

end Go.Proofs.YtomcgnkmlmiijaaDoor
