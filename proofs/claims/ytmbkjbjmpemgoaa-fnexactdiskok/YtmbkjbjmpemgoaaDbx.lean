/- A disk in a box. -/
import Derived.Test.YtmbkjbjmpemgoaaDkC
namespace Go.Proofs.Ytmbkjbjmpemgoaa
open Go.RowKit

/-- A disk in a box. -/
structure DBox (w : World) (b : Nat) (vc vw : Value) (room left : Int) : Prop where
  c0 : w.cell? ⟨b, 0, none⟩ = some vc
  c1 : w.cell? ⟨b, 1, none⟩ = some vw
  c2 : w.cell? ⟨b, 2, none⟩ = some (.int .i64 room)
  c3 : w.cell? ⟨b, 3, none⟩ = some (.int .i64 left)

theorem DBox.lt {w : World} {b : Nat} {vc vw : Value} {room left : Int} (h : DBox w b vc vw room left) : b < w.heap.size := World.block_lt_of_cell? w _ h.c0
theorem DBox.later {w w' : World} {b : Nat} {vc vw : Value} {room left : Int} (h : DBox w b vc vw room left) (k : Below w.heap.size w w') : DBox w' b vc vw room left :=
  ⟨(k.cell (p := ⟨b, 0, none⟩) h.lt).trans h.c0, (k.cell (p := ⟨b, 1, none⟩) h.lt).trans h.c1, (k.cell (p := ⟨b, 2, none⟩) h.lt).trans h.c2, (k.cell (p := ⟨b, 3, none⟩) h.lt).trans h.c3⟩
theorem DBox.new (w : World) (vc vw : Value) (room left : Int) (t : TypeId) : DBox (w.alloc (.cells #[vc, vw, .int .i64 room, .int .i64 left] t)) w.heap.size vc vw room left := by
  constructor <;> simp [go_sem]

end Go.Proofs.Ytmbkjbjmpemgoaa
