/- Both divisions of any two numbers, by one contract; what a law's walk carries where a call makes two lists and the law two boxes. -/
import Derived.Test.YtfemobaoedccoaaDivN
import Derived.Test.YtfemobaoedccoaaDivZ
import Derived.Test.YtfemobaoedccoaaNumO
import Derived.Test.YtfemobaoedccoaaState
namespace Go.Proofs.Ytfemobaoedccoaa
open Go.RowKit

/-- What a division answers: two numbers of its own, in other blocks, and whether. -/
def GivesPair (w : World) (og : Bool) (ol : List Int) (oh : Bool) (om : List Int) (ok : Bool) (e : Ending) (w' : World) : Prop :=
  ∃ (qo ro : Option Addr) (qc rc Bq Eq Br Er : Nat), e = .returned (.tuple #[.agg #[.bool og, .slice qo ol.length qc], .agg #[.bool oh, .slice ro om.length rc], .bool ok]) ∧
    Own Bq w' (.slice qo ol.length qc) ol ∧ Own Br w' (.slice ro om.length rc) om ∧ w.heap.size ≤ Bq ∧ w.heap.size ≤ Br ∧
    (∀ k, (Value.slice qo ol.length qc).ownBlock = some k → k < Eq) ∧ (∀ k, (Value.slice ro om.length rc).ownBlock = some k → k < Er) ∧ (Eq ≤ Br ∨ Er ≤ Bq) ∧ Eq ≤ w'.heap.size ∧ Er ≤ w'.heap.size ∧ Below w.heap.size w w'

theorem bigDiv_both (p q : Bool) (l m : List Int) : ∃ (og : Bool) (ol : List Int) (oh : Bool) (om : List Int) (ok : Bool), ol.length ≤ 16 ∧ om.length ≤ 16 ∧
    (∀ (W : World) (u v : Value), Reads W u l → Reads W v m → Calls Try.prog 24 #[.agg #[.bool p, u], .agg #[.bool q, v]] W (GivesPair W og ol oh om ok)) ∧
    (∀ (W : World) (u v : Value), Reads W u l → Reads W v m → Calls Try.prog 20 #[.agg #[.bool p, u], .agg #[.bool q, v]] W (GivesPair W og ol oh om ok)) := by
  by_cases hno : okB p l = true → okB q m = true → m = []
  · exact ⟨sg 0, L (0 : Int).natAbs, sg 0, L (0 : Int).natAbs, false, by simp [L_zero], by simp [L_zero], fun W u v hu hv => specBigDiv_no W p q u v l m hu hv hno, fun W u v hu hv => implBigDiv_no W p q u v l m hu hv hno⟩
  · rw [Classical.not_imp, Classical.not_imp] at hno
    obtain ⟨h1, h2, h3⟩ := hno
    obtain ⟨a, rfl, rfl, ha⟩ : ∃ a : Int, p = sg a ∧ l = L a.natAbs ∧ (L a.natAbs).length ≤ 16 := num_of h1
    obtain ⟨b, rfl, rfl, hb⟩ : ∃ b : Int, q = sg b ∧ m = L b.natAbs ∧ (L b.natAbs).length ≤ 16 := num_of h2
    refine ⟨sg (a.tdiv b), L (a.tdiv b).natAbs, sg (restZ a b), L (restZ a b).natAbs, decide (b ≠ 0), fit_quo ha, ?_, fun W u v hu hv => specDiv_z ha hb hu hv, fun W u v hu hv => implDiv_z ha hb hu hv⟩
    unfold restZ
    split
    · simp [L_zero]
    · exact fit_rest ha

/-- Two lists more, out of a call that made them. -/
theorem Stt.own2 {w w1 w2 : World} {cs : List (Nat × Nat × Value)} {os : List (Nat × Nat × Value × List Int)} (h : Stt w w1 cs os) (k : Below w1.heap.size w1 w2) {s t : Value} {l m : List Int} {B E B' E' : Nat}
    (ho : Own B w2 s l) (ho' : Own B' w2 t m) (hb : w1.heap.size ≤ B) (hb' : w1.heap.size ≤ B') (he : ∀ j, s.ownBlock = some j → j < E) (he' : ∀ j, t.ownBlock = some j → j < E') (hE : E ≤ w2.heap.size) (hE' : E' ≤ w2.heap.size) :
    Stt w w2 cs (os ++ [(B, E, s, l), (B', E', t, m)]) := by
  refine ⟨(h.later k).below, (h.later k).cells, fun o hm => ?_⟩
  rcases List.mem_append.1 hm with hm | hm
  · exact (h.later k).owns o hm
  · simp at hm
    have := h.below.size
    rcases hm with rfl | rfl
    · exact ⟨ho, he, hE, Nat.le_trans this hb⟩
    · exact ⟨ho', he', hE', Nat.le_trans this hb'⟩

/-- Marks laid over one list: all else stays that lies in other blocks, wherever. -/
theorem Stt.markd {w w1 w2 : World} {cs : List (Nat × Nat × Value)} {os1 os2 : List (Nat × Nat × Value × List Int)} {B E : Nat} {s : Value} {l l' : List Int} (h : Stt w w1 cs (os1 ++ (B, E, s, l) :: os2))
    (ho : Own B w2 s l') (hg : w1.grownBy w2 s.ownBlock) (hcs : ∀ c ∈ cs, c.1 < B ∨ E ≤ c.1) (hos : ∀ o ∈ os1 ++ os2, o.2.1 ≤ B ∨ E ≤ o.1) : Stt w w2 cs (os1 ++ (B, E, s, l') :: os2) := by
  obtain ⟨h1, h2, h3, h4⟩ := h.owns (B, E, s, l) (by simp)
  have hne : ∀ k, (k < B ∨ E ≤ k) → some k ≠ s.ownBlock := by
    intro k hk e
    have a := (h1.lt k e.symm).1
    have b := h2 k e.symm
    simp only at a b
    omega
  have hne' : ∀ (o : Nat × Nat × Value × List Int), o ∈ os1 ++ os2 → (o.2.2.1.ownBlock = none ∨ o.2.2.1.ownBlock ≠ s.ownBlock) := by
    intro o hm
    have hm' : o ∈ os1 ++ (B, E, s, l) :: os2 := by simp at hm ⊢; rcases hm with hm | hm <;> simp [hm]
    obtain ⟨q1, q2, _, _⟩ := h.owns o hm'
    cases hk : o.2.2.1.ownBlock with
    | none => exact .inl rfl
    | some k =>
      refine .inr (hne k ?_)
      have a := (q1.lt k hk).1
      have b := q2 k hk
      have := hos o hm
      omega
  refine ⟨⟨hg.os.trans h.below.os, hg.tape.trans h.below.tape, hg.output.trans h.below.output, Nat.le_trans h.below.size hg.size, fun k hk => ?_⟩, fun c hc => hg.cell (h.cells c hc) (hne _ (hcs c hc)), fun o hm => ?_⟩
  · rw [hg.block k (Nat.lt_of_lt_of_le hk h.below.size) (hne k (.inl (Nat.lt_of_lt_of_le hk h4))), h.below.block k hk]
  · by_cases e : o = (B, E, s, l')
    · subst e
      exact ⟨ho, h2, Nat.le_trans h3 hg.size, h4⟩
    · have hm2 : o ∈ os1 ++ os2 := by simp at hm ⊢; rcases hm with hm | hm | hm <;> simp_all
      have hm' : o ∈ os1 ++ (B, E, s, l) :: os2 := by simp at hm2 ⊢; rcases hm2 with hm2 | hm2 <;> simp [hm2]
      obtain ⟨q1, q2, q3, q4⟩ := h.owns o hm'
      exact ⟨World.ownsRow.kept q1 hg (hne' o hm2), q2, Nat.le_trans q3 hg.size, q4⟩

theorem Own.ofBlock {B : Nat} {w W : World} {v : Value} {l : List Int} (h : Own B w v l) (hb : ∀ k, v.ownBlock = some k → W.heap[k]? = w.heap[k]?) : Own B W v l := by
  refine ⟨h.1, ?_⟩
  rcases h.2 with hn | ⟨g, cap, cur, rfl, hb', hg, rest⟩
  · exact .inl hn
  · exact .inr ⟨g, cap, cur, rfl, hb', (hb g rfl).trans hg, rest⟩

/-- Two boxes filled, wherever they were made. -/
theorem Stt.fill2 {w wb w5 W : World} {cs : List (Nat × Nat × Value)} {os : List (Nat × Nat × Value × List Int)} (Sb : Stt w wb cs os) {s t : Value} {l m : List Int} {B E B' E' k0 k1 : Nat} {x0 y0 x1 y1 : Value}
    (oq : Own B w5 s l) (or : Own B' w5 t m) (lq : wb.heap.size ≤ B) (lr : wb.heap.size ≤ B') (eq : ∀ k, s.ownBlock = some k → k < E) (er : ∀ k, t.ownBlock = some k → k < E') (hE : E ≤ w5.heap.size) (hE' : E' ≤ w5.heap.size)
    (hBW : Below wb.heap.size wb W) (hs : w5.heap.size ≤ W.heap.size) (hW : ∀ j, j < w5.heap.size → j ≠ k0 → j ≠ k1 → W.heap[j]? = w5.heap[j]?)
    (h0 : (k0 < B ∧ k0 < B') ∨ w5.heap.size ≤ k0) (h1 : (k1 < B ∧ k1 < B') ∨ w5.heap.size ≤ k1)
    (c00 : W.cell? ⟨k0, 0, none⟩ = some x0) (c01 : W.cell? ⟨k0, 1, none⟩ = some y0) (c10 : W.cell? ⟨k1, 0, none⟩ = some x1) (c11 : W.cell? ⟨k1, 1, none⟩ = some y1) :
    Stt w W (cs ++ [(k0, 0, x0), (k0, 1, y0), (k1, 0, x1), (k1, 1, y1)]) (os ++ [(B, E, s, l), (B', E', t, m)]) := by
  have hb := Sb.below.size
  refine ⟨(Sb.later hBW).below, fun c hm => ?_, fun o hm => ?_⟩
  · rcases List.mem_append.1 hm with hm | hm
    · exact (Sb.later hBW).cells c hm
    · simp at hm
      rcases hm with rfl | rfl | rfl | rfl <;> assumption
  · rcases List.mem_append.1 hm with hm | hm
    · exact (Sb.later hBW).owns o hm
    · simp at hm
      rcases hm with rfl | rfl
      · exact ⟨oq.ofBlock fun k hk => hW k (oq.lt k hk).2 (by have := (oq.lt k hk).1; have := (oq.lt k hk).2; omega) (by have := (oq.lt k hk).1; have := (oq.lt k hk).2; omega), eq, Nat.le_trans hE hs, Nat.le_trans hb lq⟩
      · exact ⟨or.ofBlock fun k hk => hW k (or.lt k hk).2 (by have := (or.lt k hk).1; have := (or.lt k hk).2; omega) (by have := (or.lt k hk).1; have := (or.lt k hk).2; omega), er, Nat.le_trans hE' hs, Nat.le_trans hb lr⟩

theorem heap_alloc_lt (w : World) (o : Obj) (j : Nat) (h : j < w.heap.size) : (w.alloc o).heap[j]? = w.heap[j]? := ((Below.refl w.heap.size w).alloc (Nat.le_refl _) o).block j h

theorem below_back {X w' : World} {o : Obj} (b : Below (X.alloc o).heap.size (X.alloc o) w') : Below X.heap.size X w' :=
  ((Below.refl _ _).alloc (Nat.le_refl _) o).trans (b.mono (by simp))
theorem below_back2 {X w' : World} {o o' : Obj} (b : Below ((X.alloc o).alloc o').heap.size ((X.alloc o).alloc o') w') : Below X.heap.size X w' := below_back (below_back b)

/-- Boxes that stand empty, each made behind the one before. -/
def EBs (w : World) (ks : List Nat) : Prop := (∀ k ∈ ks, EBox w k) ∧ ks.Pairwise (· < ·)

theorem EBs.empty (w : World) : EBs w [] := ⟨by simp, by simp⟩
theorem EBs.later {w w' : World} {ks : List Nat} (h : EBs w ks) (b : Below w.heap.size w w') : EBs w' ks := ⟨fun k hk => (h.1 k hk).later b, h.2⟩
theorem EBs.new {X : World} {ks : List Nat} (h : EBs X ks) : EBs (X.alloc (.cells #[.bool false, .slice none 0 0] 25)) (ks ++ [X.heap.size]) := by
  refine ⟨fun k hk => ?_, ?_⟩
  · rcases List.mem_append.1 hk with hk | hk
    · exact (h.1 k hk).later ((Below.refl _ _).alloc (Nat.le_refl _) _)
    · simp at hk
      subst hk
      exact EBox.new X
  · rw [List.pairwise_append]
    refine ⟨h.2, by simp, fun a ha b hb => ?_⟩
    simp at hb
    subst hb
    exact (h.1 a ha).lt
theorem EBs.step1 {X w' : World} {ks : List Nat} (h : EBs X ks) (b : Below (X.alloc (.cells #[.bool false, .slice none 0 0] 25)).heap.size (X.alloc (.cells #[.bool false, .slice none 0 0] 25)) w') : EBs w' (ks ++ [X.heap.size]) := h.new.later b
theorem EBs.step2 {X w' : World} {ks : List Nat} (h : EBs X ks) (b : Below ((X.alloc (.cells #[.bool false, .slice none 0 0] 25)).alloc (.cells #[.bool false, .slice none 0 0] 25)).heap.size ((X.alloc (.cells #[.bool false, .slice none 0 0] 25)).alloc (.cells #[.bool false, .slice none 0 0] 25)) w') : EBs w' (ks ++ [X.heap.size, X.heap.size + 1]) := by
  have := h.new.new.later b
  simpa using this
theorem EBs.drew1 {X w' : World} (b : Below (X.alloc (.cells #[.bool false, .slice none 0 0] 25)).drew.heap.size (X.alloc (.cells #[.bool false, .slice none 0 0] 25)).drew w') : EBs w' [X.heap.size] :=
  ((EBs.empty X).new.later (Below.refl _ _).drew).later b
theorem EBs.drew2 {X w' : World} (b : Below ((X.alloc (.cells #[.bool false, .slice none 0 0] 25)).alloc (.cells #[.bool false, .slice none 0 0] 25)).drew.heap.size ((X.alloc (.cells #[.bool false, .slice none 0 0] 25)).alloc (.cells #[.bool false, .slice none 0 0] 25)).drew w') : EBs w' [X.heap.size, X.heap.size + 1] := by
  have := (((EBs.empty X).new.new).later (Below.refl _ _).drew).later b
  simpa using this
theorem EBs.lts {w : World} {ks : List Nat} (h : EBs w ks) : ∀ k ∈ ks, k < w.heap.size := fun k hk => (h.1 k hk).lt

/-- What one box says to a walk. -/
theorem EBs.open1 {w : World} {a : Nat} (h : EBs w [a]) : (w.cell? ⟨a, 0, none⟩ = some (.bool false) ∧ w.cell? ⟨a, 1, none⟩ = some (.slice none 0 0) ∧ w.frozen? ⟨a, 0, none⟩ = false ∧ w.frozen? ⟨a, 1, none⟩ = false ∧ a < w.heap.size) ∧ ¬ (a = w.heap.size) ∧ ¬ (w.heap.size = a) := by
  obtain ⟨h0, h1, h2, h3, h4⟩ := h.1 a (by simp)
  exact ⟨⟨h0, h1, h2, h3, h4⟩, by omega, by omega⟩
/-- What two boxes say. -/
theorem EBs.open2 {w : World} {a b : Nat} (h : EBs w [a, b]) : (w.cell? ⟨a, 0, none⟩ = some (.bool false) ∧ w.cell? ⟨a, 1, none⟩ = some (.slice none 0 0) ∧ w.frozen? ⟨a, 0, none⟩ = false ∧ w.frozen? ⟨a, 1, none⟩ = false ∧ a < w.heap.size) ∧
    (w.cell? ⟨b, 0, none⟩ = some (.bool false) ∧ w.cell? ⟨b, 1, none⟩ = some (.slice none 0 0) ∧ w.frozen? ⟨b, 0, none⟩ = false ∧ w.frozen? ⟨b, 1, none⟩ = false ∧ b < w.heap.size) ∧ ¬ (a = b) ∧ ¬ (b = a) := by
  obtain ⟨h0, h1, h2, h3, h4⟩ := h.1 a (by simp)
  obtain ⟨g0, g1, g2, g3, g4⟩ := h.1 b (by simp)
  have := h.2
  simp at this
  exact ⟨⟨h0, h1, h2, h3, h4⟩, ⟨g0, g1, g2, g3, g4⟩, by omega, by omega⟩

end Go.Proofs.Ytfemobaoedccoaa
