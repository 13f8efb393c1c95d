/- Boxes that stand empty, and are filled, wherever a drawn region made them. -/
import Derived.Test.YthnkmjkgcnhlfaaGreatDoorH07
namespace Go.Proofs.YthnkmjkgcnhlfaaGreatDoor
open Go.RowKit

theorem Own.ofBlock {B : Nat} {w W : World} {v : Value} {l : List Int} (h : Own B w v l) (hb : ∀ k, v.ownBlock = some k → W.heap[k]? = w.heap[k]?) : Own B W v l := by
  refine ⟨h.1, ?_⟩
  rcases h.2 with hn | ⟨g, cap, cur, rfl, hb', hg, rest⟩
  · exact .inl hn
  · exact .inr ⟨g, cap, cur, rfl, hb', (hb g rfl).trans hg, rest⟩

/-- Two boxes filled, wherever they were made. -/
theorem Stt.fill2 {w wb w5 W : World} {cs : List (Nat × Nat × Value)} {os : List (Nat × Nat × Value × List Int)} (Sb : Stt w wb cs os) {s t : Value} {l m : List Int} {B E B' E' k0 k1 : Nat} {x0 y0 x1 y1 : Value}
    (oq : Own B w5 s l) (or : Own B' w5 t m) (lq : wb.heap.size ≤ B) (lr : wb.heap.size ≤ B') (eq : ∀ k, s.ownBlock = some k → k < E) (er : ∀ k, t.ownBlock = some k → k < E') (hE : E ≤ w5.heap.size) (hE' : E' ≤ w5.heap.size)
    (hBW : Below wb.heap.size wb W) (hs : w5.heap.size ≤ W.heap.size) (hW : ∀ j, j < w5.heap.size → j ≠ k0 → j ≠ k1 → W.heap[j]? = w5.heap[j]?)
    (h0 : (k0 < B ∧ k0 < B') ∨ w5.heap.size ≤ k0) (h1 : (k1 < B ∧ k1 < B') ∨ w5.heap.size ≤ k1)
    (c00 : W.cell? ⟨k0, 0, none⟩ = some x0) (c01 : W.cell? ⟨k0, 1, none⟩ = some y0) (c10 : W.cell? ⟨k1, 0, none⟩ = some x1) (c11 : W.cell? ⟨k1, 1, none⟩ = some y1) :
    Stt w W (cs ++ [(k0, 0, x0), (k0, 1, y0), (k1, 0, x1), (k1, 1, y1)]) (os ++ [(B, E, s, l), (B', E', t, m)]) := by
  have hb := Sb.below.size
  refine ⟨(Sb.later hBW).below, fun c hm => ?_, fun o hm => ?_⟩
  · rcases List.mem_append.1 hm with hm | hm
    · exact (Sb.later hBW).cells c hm
    · simp at hm
      rcases hm with rfl | rfl | rfl | rfl <;> assumption
  · rcases List.mem_append.1 hm with hm | hm
    · exact (Sb.later hBW).owns o hm
    · simp at hm
      rcases hm with rfl | rfl
      · exact ⟨oq.ofBlock fun k hk => hW k (oq.lt k hk).2 (by have := (oq.lt k hk).1; have := (oq.lt k hk).2; omega) (by have := (oq.lt k hk).1; have := (oq.lt k hk).2; omega), eq, Nat.le_trans hE hs, Nat.le_trans hb lq⟩
      · exact ⟨or.ofBlock fun k hk => hW k (or.lt k hk).2 (by have := (or.lt k hk).1; have := (or.lt k hk).2; omega) (by have := (or.lt k hk).1; have := (or.lt k hk).2; omega), er, Nat.le_trans hE' hs, Nat.le_trans hb lr⟩

theorem heap_alloc_lt (w : World) (o : Obj) (j : Nat) (h : j < w.heap.size) : (w.alloc o).heap[j]? = w.heap[j]? := ((Below.refl w.heap.size w).alloc (Nat.le_refl _) o).block j h

theorem below_back {X w' : World} {o : Obj} (b : Below (X.alloc o).heap.size (X.alloc o) w') : Below X.heap.size X w' :=
  ((Below.refl _ _).alloc (Nat.le_refl _) o).trans (b.mono (by simp))

theorem below_back2 {X w' : World} {o o' : Obj} (b : Below ((X.alloc o).alloc o').heap.size ((X.alloc o).alloc o') w') : Below X.heap.size X w' := below_back (below_back b)

/-- Boxes that stand empty, each made behind the one before. -/
def EBs (w : World) (ks : List Nat) : Prop := (∀ k ∈ ks, EBox w k) ∧ ks.Pairwise (· < ·)

theorem EBs.empty (w : World) : EBs w [] := ⟨by simp, by simp⟩

theorem EBs.later {w w' : World} {ks : List Nat} (h : EBs w ks) (b : Below w.heap.size w w') : EBs w' ks := ⟨fun k hk => (h.1 k hk).later b, h.2⟩

theorem EBs.new {X : World} {ks : List Nat} (h : EBs X ks) : EBs (X.alloc (.cells #[.bool false, .slice none 0 0] 25)) (ks ++ [X.heap.size]) := by
  refine ⟨fun k hk => ?_, ?_⟩
  · rcases List.mem_append.1 hk with hk | hk
    · exact (h.1 k hk).later ((Below.refl _ _).alloc (Nat.le_refl _) _)
    · simp at hk
      subst hk
      exact EBox.new X
  · rw [List.pairwise_append]
    refine ⟨h.2, by simp, fun a ha b hb => ?_⟩
    simp at hb
    subst hb
    exact (h.1 a ha).lt

theorem EBs.step1 {X w' : World} {ks : List Nat} (h : EBs X ks) (b : Below (X.alloc (.cells #[.bool false, .slice none 0 0] 25)).heap.size (X.alloc (.cells #[.bool false, .slice none 0 0] 25)) w') : EBs w' (ks ++ [X.heap.size]) := h.new.later b

theorem EBs.step2 {X w' : World} {ks : List Nat} (h : EBs X ks) (b : Below ((X.alloc (.cells #[.bool false, .slice none 0 0] 25)).alloc (.cells #[.bool false, .slice none 0 0] 25)).heap.size ((X.alloc (.cells #[.bool false, .slice none 0 0] 25)).alloc (.cells #[.bool false, .slice none 0 0] 25)) w') : EBs w' (ks ++ [X.heap.size, X.heap.size + 1]) := by
  have := h.new.new.later b
  simpa using this

theorem EBs.drew1 {X w' : World} (b : Below (X.alloc (.cells #[.bool false, .slice none 0 0] 25)).drew.heap.size (X.alloc (.cells #[.bool false, .slice none 0 0] 25)).drew w') : EBs w' [X.heap.size] :=
  ((EBs.empty X).new.later (Below.refl _ _).drew).later b

theorem EBs.drew2 {X w' : World} (b : Below ((X.alloc (.cells #[.bool false, .slice none 0 0] 25)).alloc (.cells #[.bool false, .slice none 0 0] 25)).drew.heap.size ((X.alloc (.cells #[.bool false, .slice none 0 0] 25)).alloc (.cells #[.bool false, .slice none 0 0] 25)).drew w') : EBs w' [X.heap.size, X.heap.size + 1] := by
  have := (((EBs.empty X).new.new).later (Below.refl _ _).drew).later b
  simpa using this

theorem EBs.lts {w : World} {ks : List Nat} (h : EBs w ks) : ∀ k ∈ ks, k < w.heap.size := fun k hk => (h.1 k hk).lt

/-- What one box says to a walk. -/
theorem EBs.open1 {w : World} {a : Nat} (h : EBs w [a]) : (w.cell? ⟨a, 0, none⟩ = some (.bool false) ∧ w.cell? ⟨a, 1, none⟩ = some (.slice none 0 0) ∧ w.frozen? ⟨a, 0, none⟩ = false ∧ w.frozen? ⟨a, 1, none⟩ = false ∧ a < w.heap.size) ∧ ¬ (a = w.heap.size) ∧ ¬ (w.heap.size = a) := by
  obtain ⟨h0, h1, h2, h3, h4⟩ := h.1 a (by simp)
  exact ⟨⟨h0, h1, h2, h3, h4⟩, by omega, by omega⟩

/-- What two boxes say. -/
theorem EBs.open2 {w : World} {a b : Nat} (h : EBs w [a, b]) : (w.cell? ⟨a, 0, none⟩ = some (.bool false) ∧ w.cell? ⟨a, 1, none⟩ = some (.slice none 0 0) ∧ w.frozen? ⟨a, 0, none⟩ = false ∧ w.frozen? ⟨a, 1, none⟩ = false ∧ a < w.heap.size) ∧
    (w.cell? ⟨b, 0, none⟩ = some (.bool false) ∧ w.cell? ⟨b, 1, none⟩ = some (.slice none 0 0) ∧ w.frozen? ⟨b, 0, none⟩ = false ∧ w.frozen? ⟨b, 1, none⟩ = false ∧ b < w.heap.size) ∧ ¬ (a = b) ∧ ¬ (b = a) := by
  obtain ⟨h0, h1, h2, h3, h4⟩ := h.1 a (by simp)
  obtain ⟨g0, g1, g2, g3, g4⟩ := h.1 b (by simp)
  have := h.2
  simp at this
  exact ⟨⟨h0, h1, h2, h3, h4⟩, ⟨g0, g1, g2, g3, g4⟩, by omega, by omega⟩

/-- Two boxes filled, wherever they were made, also between the lists. -/
theorem Stt.fill2b {w wb w5 W : World} {cs : List (Nat × Nat × Value)} {os : List (Nat × Nat × Value × List Int)} (Sb : Stt w wb cs os) {s t : Value} {l m : List Int} {B E B' E' k0 k1 : Nat} {x0 y0 x1 y1 : Value}
    (oq : Own B w5 s l) (or : Own B' w5 t m) (lq : wb.heap.size ≤ B) (lr : wb.heap.size ≤ B') (eq : ∀ k, s.ownBlock = some k → k < E) (er : ∀ k, t.ownBlock = some k → k < E') (hE : E ≤ w5.heap.size) (hE' : E' ≤ w5.heap.size)
    (hBW : Below wb.heap.size wb W) (hs : w5.heap.size ≤ W.heap.size) (hW : ∀ j, j < w5.heap.size → j ≠ k0 → j ≠ k1 → W.heap[j]? = w5.heap[j]?)
    (h0 : (k0 < B ∨ E ≤ k0) ∧ (k0 < B' ∨ E' ≤ k0)) (h1 : (k1 < B ∨ E ≤ k1) ∧ (k1 < B' ∨ E' ≤ k1))
    (c00 : W.cell? ⟨k0, 0, none⟩ = some x0) (c01 : W.cell? ⟨k0, 1, none⟩ = some y0) (c10 : W.cell? ⟨k1, 0, none⟩ = some x1) (c11 : W.cell? ⟨k1, 1, none⟩ = some y1) :
    Stt w W (cs ++ [(k0, 0, x0), (k0, 1, y0), (k1, 0, x1), (k1, 1, y1)]) (os ++ [(B, E, s, l), (B', E', t, m)]) := by
  have hb := Sb.below.size
  refine ⟨(Sb.later hBW).below, fun c hm => ?_, fun o hm => ?_⟩
  · rcases List.mem_append.1 hm with hm | hm
    · exact (Sb.later hBW).cells c hm
    · simp at hm
      rcases hm with rfl | rfl | rfl | rfl <;> assumption
  · rcases List.mem_append.1 hm with hm | hm
    · exact (Sb.later hBW).owns o hm
    · simp at hm
      rcases hm with rfl | rfl
      · exact ⟨oq.ofBlock fun k hk => hW k (oq.lt k hk).2 (by have := (oq.lt k hk).1; have := eq k hk; omega) (by have := (oq.lt k hk).1; have := eq k hk; omega), eq, Nat.le_trans hE hs, Nat.le_trans hb lq⟩
      · exact ⟨or.ofBlock fun k hk => hW k (or.lt k hk).2 (by have := (or.lt k hk).1; have := er k hk; omega) (by have := (or.lt k hk).1; have := er k hk; omega), er, Nat.le_trans hE' hs, Nat.le_trans hb lr⟩

end Go.Proofs.YthnkmjkgcnhlfaaGreatDoor
