/- What a promise's walk carries from call to call: decimals in boxes, each with its sign, its slice, the list that the slice reads as, and its scale. -/
import Derived.Test.YthnkmjkgcnhlfaaGreatDoorH08
namespace Go.Proofs.YthnkmjkgcnhlfaaGreatDoor
open Go.RowKit

/-- The law began in w; now, in W, each of 'bs' (block, sign, slice, list, scale) stands in its box. -/
structure DS (w W : World) (bs : List (Nat × Bool × Value × List Int × Int)) : Prop where
  below : Below w.heap.size w W
  box : ∀ b ∈ bs, W.cell? ⟨b.1, 0, none⟩ = some (.bool b.2.1) ∧ W.cell? ⟨b.1, 1, none⟩ = some b.2.2.1 ∧ W.cell? ⟨b.1, 2, none⟩ = some (.int .i64 b.2.2.2.2) ∧ Reads W b.2.2.1 b.2.2.2.1 ∧ b.1 < W.heap.size

theorem DS.start {w W : World} (h : Below w.heap.size w W) : DS w W [] := ⟨h, by simp⟩

theorem DS.later {w W W' : World} {bs : List (Nat × Bool × Value × List Int × Int)} (h : DS w W bs) (k : Below W.heap.size W W') : DS w W' bs :=
  ⟨h.below.trans (k.mono h.below.size), fun b hb => ⟨cell_later k (h.box b hb).1, cell_later k (h.box b hb).2.1, cell_later k (h.box b hb).2.2.1, (h.box b hb).2.2.2.1.later k, Nat.lt_of_lt_of_le (h.box b hb).2.2.2.2 k.size⟩⟩

theorem DS.add {w W : World} {bs : List (Nat × Bool × Value × List Int × Int)} (h : DS w W bs) (g : Bool) (v : Value) (l : List Int) (s : Int) (hr : Reads W v l) :
    DS w (W.alloc (.cells #[.bool g, v, .int .i64 s] 27)) (bs ++ [(W.heap.size, g, v, l, s)]) := by
  have k : Below W.heap.size W (W.alloc (.cells #[.bool g, v, .int .i64 s] 27)) := (Below.refl _ _).alloc (Nat.le_refl _) _
  refine ⟨(h.later k).below, fun b hb => ?_⟩
  rcases List.mem_append.1 hb with hb | hb
  · exact (h.later k).box b hb
  · simp at hb
    subst hb
    exact ⟨by simp, by simp, by simp, hr.later k, by simp⟩

theorem DS.less {w W : World} {bs bs' : List (Nat × Bool × Value × List Int × Int)} (h : DS w W bs) (k : ∀ b ∈ bs', b ∈ bs) : DS w W bs' := ⟨h.below, fun b hb => h.box b (k b hb)⟩

end Go.Proofs.YthnkmjkgcnhlfaaGreatDoor
