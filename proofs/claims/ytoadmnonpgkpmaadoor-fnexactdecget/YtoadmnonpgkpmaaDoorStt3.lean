/- A box of three cells beside what a law's walk carries. -/
import Derived.Test.YtoadmnonpgkpmaaDoorStt1
namespace Go.Proofs.YtoadmnonpgkpmaaDoor
open Go.RowKit

/-- A box more, of three cells. -/
theorem Stt.box3 {w w1 : World} {cs : List (Nat × Nat × Value)} {os : List (Nat × Nat × Value × List Int)} (h : Stt w w1 cs os) (x y z : Value) (t : TypeId) :
    Stt w (w1.alloc (.cells #[x, y, z] t)) (cs ++ [(w1.heap.size, 0, x), (w1.heap.size, 1, y), (w1.heap.size, 2, z)]) os := by
  have k : Below w1.heap.size w1 (w1.alloc (.cells #[x, y, z] t)) := (Below.refl _ _).alloc (Nat.le_refl _) _
  refine ⟨(h.later k).below, fun c hm => ?_, (h.later k).owns⟩
  rcases List.mem_append.1 hm with hm | hm
  · exact (h.later k).cells c hm
  · simp at hm
    rcases hm with rfl | rfl | rfl <;> simp

end Go.Proofs.YtoadmnonpgkpmaaDoor
