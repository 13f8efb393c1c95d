/- Boxes for a decimal that stand empty, and are filled. -/
import Derived.Test.YthnkmjkgcnhlfaaGreatDoorH08
namespace Go.Proofs.YthnkmjkgcnhlfaaGreatDoor
open Go.RowKit

/-- A box for a decimal that stands empty. -/
structure EDb (w : World) (k : Nat) : Prop where
  c0 : w.cell? ⟨k, 0, none⟩ = some (.bool false)
  c1 : w.cell? ⟨k, 1, none⟩ = some (.slice none 0 0)
  c2 : w.cell? ⟨k, 2, none⟩ = some (.int .i64 0)
  f0 : w.frozen? ⟨k, 0, none⟩ = false
  f1 : w.frozen? ⟨k, 1, none⟩ = false
  f2 : w.frozen? ⟨k, 2, none⟩ = false
  lt : k < w.heap.size

theorem EDb.later {w w' : World} {k : Nat} (h : EDb w k) (b : Below w.heap.size w w') : EDb w' k :=
  ⟨cell_later b h.c0, cell_later b h.c1, cell_later b h.c2, frozen_later b h.f0 h.lt, frozen_later b h.f1 h.lt, frozen_later b h.f2 h.lt, lt_later b h.lt⟩

theorem EDb.new (X : World) : EDb (X.alloc (.cells #[.bool false, .slice none 0 0, .int .i64 0] 27)) X.heap.size :=
  ⟨by go_simp, by go_simp, by go_simp, by go_simp, by go_simp, by go_simp, by simp⟩

theorem EDb.alloc {X w' : World} (b : Below (X.alloc (.cells #[.bool false, .slice none 0 0, .int .i64 0] 27)).heap.size (X.alloc (.cells #[.bool false, .slice none 0 0, .int .i64 0] 27)) w') : EDb w' X.heap.size := (EDb.new X).later b

theorem EDb.drew {X w' : World} (b : Below (X.alloc (.cells #[.bool false, .slice none 0 0, .int .i64 0] 27)).drew.heap.size (X.alloc (.cells #[.bool false, .slice none 0 0, .int .i64 0] 27)).drew w') : EDb w' X.heap.size :=
  ((EDb.new X).later (Below.refl _ _).drew).later b

/-- A box that stood empty is filled. -/
theorem Stt.set3 {w w1 : World} {cs : List (Nat × Nat × Value)} {os : List (Nat × Nat × Value × List Int)} (h : Stt w w1 cs os) {k : Nat} {x y z a b c : Value} (h0 : w1.cell? ⟨k, 0, none⟩ = some a) (h1 : w1.cell? ⟨k, 1, none⟩ = some b) (h2 : w1.cell? ⟨k, 2, none⟩ = some c)
    (hk : w.heap.size ≤ k) (hcs : ∀ c ∈ cs, c.1 ≠ k) (hos : ∀ o ∈ os, k < o.1 ∨ o.2.1 ≤ k) :
    Stt w (((w1.setCell ⟨k, 0, none⟩ x).setCell ⟨k, 1, none⟩ y).setCell ⟨k, 2, none⟩ z) (cs ++ [(k, 0, x), (k, 1, y), (k, 2, z)]) os := by
  have hh : ∀ j, j ≠ k → (((w1.setCell ⟨k, 0, none⟩ x).setCell ⟨k, 1, none⟩ y).setCell ⟨k, 2, none⟩ z).heap[j]? = w1.heap[j]? := by
    intro j hj
    rw [Below.heap_setCell _ _ _ _ (by exact hj), Below.heap_setCell _ _ _ _ (by exact hj), Below.heap_setCell _ _ _ _ (by exact hj)]
  refine ⟨((h.below.setCell (by exact hk) _).setCell (by exact hk) _).setCell (by exact hk) _, fun c hm => ?_, fun o hm => ?_⟩
  · rcases List.mem_append.1 hm with hm | hm
    · exact (World.cell?_of_block (a := ⟨c.1, c.2.1, none⟩) (hh c.1 (hcs c hm))).trans (h.cells c hm)
    · simp at hm
      rcases hm with rfl | rfl | rfl
      · go_simp
      · go_simp
      · go_simp
  · obtain ⟨q1, q2, q3, q4⟩ := h.owns o hm
    refine ⟨World.ownsRow.kept (row := some k) q1 ⟨rfl, rfl, rfl, by simp, fun j _ hj => hh j (fun e => hj (by rw [e]))⟩ ?_, q2, by simpa using q3, q4⟩
    cases hb : o.2.2.1.ownBlock with
    | none => exact .inl rfl
    | some j =>
      refine .inr (fun e => ?_)
      obtain rfl := Option.some.inj e
      have a := (q1.lt j hb).1
      have b := q2 j hb
      have := hos o hm
      omega

/-- A box that was made behind wb is filled. -/
theorem Stt.fill3 {w wb w5 : World} {cs : List (Nat × Nat × Value)} {os : List (Nat × Nat × Value × List Int)} {n : Nat × Nat × Value × List Int} (Sb : Stt w wb cs os) (S5 : Stt w w5 cs (os ++ [n])) {k : Nat} (E : EDb w5 k) (hk : wb.heap.size ≤ k) (hn : k < n.1) (x y z : Value) :
    Stt w (((w5.setCell ⟨k, 0, none⟩ x).setCell ⟨k, 1, none⟩ y).setCell ⟨k, 2, none⟩ z) (cs ++ [(k, 0, x), (k, 1, y), (k, 2, z)]) (os ++ [n]) := by
  refine S5.set3 E.c0 E.c1 E.c2 (Nat.le_trans Sb.below.size hk) (fun c hc => Nat.ne_of_lt (Nat.lt_of_lt_of_le (World.block_lt_of_cell? _ _ (Sb.cells c hc)) hk)) ?_
  intro o ho
  rcases List.mem_append.1 ho with ho | ho
  · exact .inr (Nat.le_trans (Sb.owns o ho).2.2.1 hk)
  · simp at ho
    subst ho
    exact .inl hn

end Go.Proofs.YthnkmjkgcnhlfaaGreatDoor
