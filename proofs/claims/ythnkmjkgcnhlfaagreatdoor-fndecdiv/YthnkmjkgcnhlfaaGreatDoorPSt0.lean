/- What a promise's walk carries from call to call: numbers in boxes. -/
import Derived.Test.YthnkmjkgcnhlfaaGreatDoorH07
namespace Go.Proofs.YthnkmjkgcnhlfaaGreatDoor
open Go.RowKit


/-- The law began in w; now, in W, each of 'bs' (block, sign, slice, list) stands in its box. -/
structure PS (w W : World) (bs : List (Nat × Bool × Value × List Int)) : Prop where
  below : Below w.heap.size w W
  box : ∀ b ∈ bs, W.cell? ⟨b.1, 0, none⟩ = some (.bool b.2.1) ∧ W.cell? ⟨b.1, 1, none⟩ = some b.2.2.1 ∧ Reads W b.2.2.1 b.2.2.2 ∧ b.1 < W.heap.size

theorem PS.start {w W : World} (h : Below w.heap.size w W) : PS w W [] := ⟨h, by simp⟩

theorem PS.later {w W W' : World} {bs : List (Nat × Bool × Value × List Int)} (h : PS w W bs) (k : Below W.heap.size W W') : PS w W' bs :=
  ⟨h.below.trans (k.mono h.below.size), fun b hb => ⟨cell_later k (h.box b hb).1, cell_later k (h.box b hb).2.1, (h.box b hb).2.2.1.later k, Nat.lt_of_lt_of_le (h.box b hb).2.2.2 k.size⟩⟩

theorem PS.add {w W : World} {bs : List (Nat × Bool × Value × List Int)} (h : PS w W bs) (g : Bool) (s : Value) (l : List Int) (hr : Reads W s l) :
    PS w (W.alloc (.cells #[.bool g, s] 25)) (bs ++ [(W.heap.size, g, s, l)]) := by
  have k : Below W.heap.size W (W.alloc (.cells #[.bool g, s] 25)) := (Below.refl _ _).alloc (Nat.le_refl _) _
  refine ⟨(h.later k).below, fun b hb => ?_⟩
  rcases List.mem_append.1 hb with hb | hb
  · exact (h.later k).box b hb
  · simp at hb
    subst hb
    exact ⟨by simp, by simp, hr.later k, by simp⟩

end Go.Proofs.YthnkmjkgcnhlfaaGreatDoor
