/- What a law's walk carries. -/
import Derived.Test.YtlmbcicfpidhcaaG00
import Derived.Test.YtlmbcicfpidhcaaG01
import Derived.WalkSpells
namespace Go.Proofs.Ytlmbcicfpidhcaa
open Go.RowKit


/-- The law began in w; now, in w', the cells 'cs' (block, place, value) hold, and the lists 'os' (from block, to block, value, ints) are owned. -/
structure Stt (w w' : World) (cs : List (Nat × Nat × Value)) (os : List (Nat × Nat × Value × List Int)) : Prop where
  below : Below w.heap.size w w'
  cells : ∀ c ∈ cs, w'.cell? ⟨c.1, c.2.1, none⟩ = some c.2.2
  owns : ∀ o ∈ os, Own o.1 w' o.2.2.1 o.2.2.2 ∧ (∀ k, o.2.2.1.ownBlock = some k → k < o.2.1) ∧ o.2.1 ≤ w'.heap.size ∧ w.heap.size ≤ o.1

theorem Stt.later {w w1 w2 : World} {cs : List (Nat × Nat × Value)} {os : List (Nat × Nat × Value × List Int)} (h : Stt w w1 cs os) (k : Below w1.heap.size w1 w2) : Stt w w2 cs os :=
  ⟨h.below.trans (k.mono h.below.size), fun c hc => cell_later k (h.cells c hc), fun o ho => ⟨(h.owns o ho).1.later k, (h.owns o ho).2.1, Nat.le_trans (h.owns o ho).2.2.1 k.size, (h.owns o ho).2.2.2⟩⟩

theorem Stt.drew {w w1 : World} {cs : List (Nat × Nat × Value)} {os : List (Nat × Nat × Value × List Int)} (h : Stt w w1 cs os) : Stt w w1.drew cs os := h.later (Below.refl _ _).drew

theorem Stt.drewN {w w1 : World} {cs : List (Nat × Nat × Value)} {os : List (Nat × Nat × Value × List Int)} (h : Stt w w1 cs os) (n : Nat) : Stt w (w1.drewN n) cs os := h.later (below_drewN (Below.refl _ _) n)

/-- A list more, out of a call that made it. -/
theorem Stt.own {w w1 w2 : World} {cs : List (Nat × Nat × Value)} {os : List (Nat × Nat × Value × List Int)} (h : Stt w w1 cs os) (k : Below w1.heap.size w1 w2) {s : Value} {l : List Int} (ho : Own w1.heap.size w2 s l) :
    Stt w w2 cs (os ++ [(w1.heap.size, w2.heap.size, s, l)]) := by
  refine ⟨(h.later k).below, (h.later k).cells, fun o hm => ?_⟩
  rcases List.mem_append.1 hm with hm | hm
  · exact (h.later k).owns o hm
  · simp at hm
    subst hm
    exact ⟨ho, fun j hj => (ho.lt j hj).2, Nat.le_refl _, h.below.size⟩

/-- A box more, of two cells. -/
theorem Stt.box {w w1 : World} {cs : List (Nat × Nat × Value)} {os : List (Nat × Nat × Value × List Int)} (h : Stt w w1 cs os) (x y : Value) (t : TypeId) :
    Stt w (w1.alloc (.cells #[x, y] t)) (cs ++ [(w1.heap.size, 0, x), (w1.heap.size, 1, y)]) os := by
  have k : Below w1.heap.size w1 (w1.alloc (.cells #[x, y] t)) := (Below.refl _ _).alloc (Nat.le_refl _) _
  refine ⟨(h.later k).below, fun c hm => ?_, (h.later k).owns⟩
  rcases List.mem_append.1 hm with hm | hm
  · exact (h.later k).cells c hm
  · simp at hm
    rcases hm with rfl | rfl <;> simp

/-- Cells alone. -/
theorem Stt.less {w w1 : World} {cs cs' : List (Nat × Nat × Value)} {os os' : List (Nat × Nat × Value × List Int)} (h : Stt w w1 cs os) (hc : ∀ c ∈ cs', c ∈ cs) (ho : ∀ o ∈ os', o ∈ os) : Stt w w1 cs' os' :=
  ⟨h.below, fun c k => h.cells c (hc c k), fun o k => h.owns o (ho o k)⟩

/-- Marks laid over one list: all else stays that lies in other blocks. -/
theorem Stt.mark {w w1 w2 : World} {cs : List (Nat × Nat × Value)} {os1 os2 : List (Nat × Nat × Value × List Int)} {B E : Nat} {s : Value} {l l' : List Int} (h : Stt w w1 cs (os1 ++ (B, E, s, l) :: os2))
    (ho : Own B w2 s l') (hg : w1.grownBy w2 s.ownBlock) (hcs : ∀ c ∈ cs, c.1 < B ∨ E ≤ c.1) (hos1 : ∀ o ∈ os1, o.2.1 ≤ B) (hos2 : ∀ o ∈ os2, E ≤ o.1) : Stt w w2 cs (os1 ++ (B, E, s, l') :: os2) := by
  obtain ⟨h1, h2, h3, h4⟩ := h.owns (B, E, s, l) (by simp)
  have hne : ∀ k, (k < B ∨ E ≤ k) → some k ≠ s.ownBlock := by
    intro k hk e
    have a := (h1.lt k e.symm).1
    have b := h2 k e.symm
    simp only at a b
    omega
  have hne' : ∀ (o : Nat × Nat × Value × List Int), o ∈ os1 ++ os2 → (o.2.2.1.ownBlock = none ∨ o.2.2.1.ownBlock ≠ s.ownBlock) := by
    intro o hm
    have hm' : o ∈ os1 ++ (B, E, s, l) :: os2 := by simp at hm ⊢; rcases hm with hm | hm <;> simp [hm]
    obtain ⟨q1, q2, _, _⟩ := h.owns o hm'
    cases hk : o.2.2.1.ownBlock with
    | none => exact .inl rfl
    | some k =>
      refine .inr (hne k ?_)
      have a := (q1.lt k hk).1
      have b := q2 k hk
      rcases List.mem_append.1 hm with hm | hm
      · have := hos1 o hm; omega
      · have := hos2 o hm; omega
  refine ⟨⟨hg.os.trans h.below.os, hg.tape.trans h.below.tape, hg.output.trans h.below.output, Nat.le_trans h.below.size hg.size, fun k hk => ?_⟩, fun c hc => hg.cell (h.cells c hc) (hne _ (hcs c hc)), fun o hm => ?_⟩
  · rw [hg.block k (Nat.lt_of_lt_of_le hk h.below.size) (hne k (.inl (Nat.lt_of_lt_of_le hk h4))), h.below.block k hk]
  · by_cases e : o = (B, E, s, l')
    · subst e
      exact ⟨ho, h2, Nat.le_trans h3 hg.size, h4⟩
    · have hm2 : o ∈ os1 ++ os2 := by simp at hm ⊢; rcases hm with hm | hm | hm <;> simp_all
      have hm' : o ∈ os1 ++ (B, E, s, l) :: os2 := by simp at hm2 ⊢; rcases hm2 with hm2 | hm2 <;> simp [hm2]
      obtain ⟨q1, q2, q3, q4⟩ := h.owns o hm'
      exact ⟨World.ownsRow.kept q1 hg (hne' o hm2), q2, Nat.le_trans q3 hg.size, q4⟩

/-- A box that stands empty. -/
structure EBox (w : World) (k : Nat) : Prop where
  c0 : w.cell? ⟨k, 0, none⟩ = some (.bool false)
  c1 : w.cell? ⟨k, 1, none⟩ = some (.slice none 0 0)
  f0 : w.frozen? ⟨k, 0, none⟩ = false
  f1 : w.frozen? ⟨k, 1, none⟩ = false
  lt : k < w.heap.size

theorem EBox.later {w w' : World} {k : Nat} (h : EBox w k) (b : Below w.heap.size w w') : EBox w' k :=
  ⟨cell_later b h.c0, cell_later b h.c1, frozen_later b h.f0 h.lt, frozen_later b h.f1 h.lt, lt_later b h.lt⟩

theorem EBox.new (X : World) : EBox (X.alloc (.cells #[.bool false, .slice none 0 0] 25)) X.heap.size :=
  ⟨by go_simp, by go_simp, by go_simp, by go_simp, by simp⟩

theorem EBox.alloc {X w' : World} (b : Below (X.alloc (.cells #[.bool false, .slice none 0 0] 25)).heap.size (X.alloc (.cells #[.bool false, .slice none 0 0] 25)) w') : EBox w' X.heap.size := (EBox.new X).later b

theorem EBox.drew {X w' : World} (b : Below (X.alloc (.cells #[.bool false, .slice none 0 0] 25)).drew.heap.size (X.alloc (.cells #[.bool false, .slice none 0 0] 25)).drew w') : EBox w' X.heap.size :=
  ((EBox.new X).later (Below.refl _ _).drew).later b

/-- A box that stood empty is filled. -/
theorem Stt.set2 {w w1 : World} {cs : List (Nat × Nat × Value)} {os : List (Nat × Nat × Value × List Int)} (h : Stt w w1 cs os) {k : Nat} {x y a b : Value} (h0 : w1.cell? ⟨k, 0, none⟩ = some a) (h1 : w1.cell? ⟨k, 1, none⟩ = some b)
    (hk : w.heap.size ≤ k) (hcs : ∀ c ∈ cs, c.1 ≠ k) (hos : ∀ o ∈ os, k < o.1 ∨ o.2.1 ≤ k) :
    Stt w ((w1.setCell ⟨k, 0, none⟩ x).setCell ⟨k, 1, none⟩ y) (cs ++ [(k, 0, x), (k, 1, y)]) os := by
  have hh : ∀ j, j ≠ k → ((w1.setCell ⟨k, 0, none⟩ x).setCell ⟨k, 1, none⟩ y).heap[j]? = w1.heap[j]? := by
    intro j hj
    rw [Below.heap_setCell _ _ _ _ (by exact hj), Below.heap_setCell _ _ _ _ (by exact hj)]
  refine ⟨(h.below.setCell (by exact hk) _).setCell (by exact hk) _, fun c hm => ?_, fun o hm => ?_⟩
  · rcases List.mem_append.1 hm with hm | hm
    · exact (World.cell?_of_block (a := ⟨c.1, c.2.1, none⟩) (hh c.1 (hcs c hm))).trans (h.cells c hm)
    · simp at hm
      rcases hm with rfl | rfl
      · go_simp
      · go_simp
  · obtain ⟨q1, q2, q3, q4⟩ := h.owns o hm
    refine ⟨World.ownsRow.kept (row := some k) q1 ⟨rfl, rfl, rfl, by simp, fun j _ hj => hh j (fun e => hj (by rw [e]))⟩ ?_, q2, by simpa using q3, q4⟩
    cases hb : o.2.2.1.ownBlock with
    | none => exact .inl rfl
    | some j =>
      refine .inr (fun e => ?_)
      obtain rfl := Option.some.inj e
      have a := (q1.lt j hb).1
      have b := q2 j hb
      have := hos o hm
      omega

/-- A box that was made behind wb is filled. -/
theorem Stt.fill {w wb w5 : World} {cs : List (Nat × Nat × Value)} {os : List (Nat × Nat × Value × List Int)} {n : Nat × Nat × Value × List Int} (Sb : Stt w wb cs os) (S5 : Stt w w5 cs (os ++ [n])) {k : Nat} (E : EBox w5 k) (hk : wb.heap.size ≤ k) (hn : k < n.1) (x y : Value) :
    Stt w ((w5.setCell ⟨k, 0, none⟩ x).setCell ⟨k, 1, none⟩ y) (cs ++ [(k, 0, x), (k, 1, y)]) (os ++ [n]) := by
  refine S5.set2 E.c0 E.c1 (Nat.le_trans Sb.below.size hk) (fun c hc => Nat.ne_of_lt (Nat.lt_of_lt_of_le (World.block_lt_of_cell? _ _ (Sb.cells c hc)) hk)) ?_
  intro o ho
  rcases List.mem_append.1 ho with ho | ho
  · exact .inr (Nat.le_trans (Sb.owns o ho).2.2.1 hk)
  · simp at ho
    subst ho
    exact .inl hn

theorem Stt.blk {w w' : World} {cs : List (Nat × Nat × Value)} {os : List (Nat × Nat × Value × List Int)} (h : Stt w w' cs os) {c : Nat × Nat × Value} (hc : c ∈ cs) : c.1 < w'.heap.size := World.block_lt_of_cell? _ _ (h.cells c hc)

end Go.Proofs.Ytlmbcicfpidhcaa
