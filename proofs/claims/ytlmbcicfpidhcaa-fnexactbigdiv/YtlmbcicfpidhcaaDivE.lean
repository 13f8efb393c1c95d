/- Both divisions of any two numbers, by one contract; what a law's walk carries where a call makes two lists and the law two boxes. -/
import Derived.Test.YtlmbcicfpidhcaaEbS
import Derived.Test.YtlmbcicfpidhcaaDivN
import Derived.Test.YtlmbcicfpidhcaaDivZ
import Derived.Test.YtlmbcicfpidhcaaG16
import Derived.Test.YtlmbcicfpidhcaaG04
namespace Go.Proofs.Ytlmbcicfpidhcaa
open Go.RowKit


/-- What a division answers: two numbers of its own, in other blocks, and whether. -/
def GivesPair (w : World) (og : Bool) (ol : List Int) (oh : Bool) (om : List Int) (ok : Bool) (e : Ending) (w' : World) : Prop :=
  ∃ (qo ro : Option Addr) (qc rc Bq Eq Br Er : Nat), e = .returned (.tuple #[.agg #[.bool og, .slice qo ol.length qc], .agg #[.bool oh, .slice ro om.length rc], .bool ok]) ∧
    Own Bq w' (.slice qo ol.length qc) ol ∧ Own Br w' (.slice ro om.length rc) om ∧ w.heap.size ≤ Bq ∧ w.heap.size ≤ Br ∧
    (∀ k, (Value.slice qo ol.length qc).ownBlock = some k → k < Eq) ∧ (∀ k, (Value.slice ro om.length rc).ownBlock = some k → k < Er) ∧ (Eq ≤ Br ∨ Er ≤ Bq) ∧ Eq ≤ w'.heap.size ∧ Er ≤ w'.heap.size ∧ Below w.heap.size w w'

theorem bigDiv_both (p q : Bool) (l m : List Int) : ∃ (og : Bool) (ol : List Int) (oh : Bool) (om : List Int) (ok : Bool), ol.length ≤ 16 ∧ om.length ≤ 16 ∧
    (∀ (W : World) (u v : Value), Reads W u l → Reads W v m → Calls Try.prog 24 #[.agg #[.bool p, u], .agg #[.bool q, v]] W (GivesPair W og ol oh om ok)) ∧
    (∀ (W : World) (u v : Value), Reads W u l → Reads W v m → Calls Try.prog 20 #[.agg #[.bool p, u], .agg #[.bool q, v]] W (GivesPair W og ol oh om ok)) := by
  by_cases hno : okB p l = true → okB q m = true → m = []
  · exact ⟨sg 0, L (0 : Int).natAbs, sg 0, L (0 : Int).natAbs, false, by simp [L_zero], by simp [L_zero], fun W u v hu hv => specBigDiv_no W p q u v l m hu hv hno, fun W u v hu hv => implBigDiv_no W p q u v l m hu hv hno⟩
  · rw [Classical.not_imp, Classical.not_imp] at hno
    obtain ⟨h1, h2, h3⟩ := hno
    obtain ⟨a, rfl, rfl, ha⟩ : ∃ a : Int, p = sg a ∧ l = L a.natAbs ∧ (L a.natAbs).length ≤ 16 := num_of h1
    obtain ⟨b, rfl, rfl, hb⟩ : ∃ b : Int, q = sg b ∧ m = L b.natAbs ∧ (L b.natAbs).length ≤ 16 := num_of h2
    refine ⟨sg (a.tdiv b), L (a.tdiv b).natAbs, sg (restZ a b), L (restZ a b).natAbs, decide (b ≠ 0), fit_quo ha, ?_, fun W u v hu hv => specDiv_z ha hb hu hv, fun W u v hu hv => implDiv_z ha hb hu hv⟩
    unfold restZ
    split
    · simp [L_zero]
    · exact fit_rest ha

/-- Two lists more, out of a call that made them. -/
theorem Stt.own2 {w w1 w2 : World} {cs : List (Nat × Nat × Value)} {os : List (Nat × Nat × Value × List Int)} (h : Stt w w1 cs os) (k : Below w1.heap.size w1 w2) {s t : Value} {l m : List Int} {B E B' E' : Nat}
    (ho : Own B w2 s l) (ho' : Own B' w2 t m) (hb : w1.heap.size ≤ B) (hb' : w1.heap.size ≤ B') (he : ∀ j, s.ownBlock = some j → j < E) (he' : ∀ j, t.ownBlock = some j → j < E') (hE : E ≤ w2.heap.size) (hE' : E' ≤ w2.heap.size) :
    Stt w w2 cs (os ++ [(B, E, s, l), (B', E', t, m)]) := by
  refine ⟨(h.later k).below, (h.later k).cells, fun o hm => ?_⟩
  rcases List.mem_append.1 hm with hm | hm
  · exact (h.later k).owns o hm
  · simp at hm
    have := h.below.size
    rcases hm with rfl | rfl
    · exact ⟨ho, he, hE, Nat.le_trans this hb⟩
    · exact ⟨ho', he', hE', Nat.le_trans this hb'⟩

/-- Marks laid over one list: all else stays that lies in other blocks, wherever. -/
theorem Stt.markd {w w1 w2 : World} {cs : List (Nat × Nat × Value)} {os1 os2 : List (Nat × Nat × Value × List Int)} {B E : Nat} {s : Value} {l l' : List Int} (h : Stt w w1 cs (os1 ++ (B, E, s, l) :: os2))
    (ho : Own B w2 s l') (hg : w1.grownBy w2 s.ownBlock) (hcs : ∀ c ∈ cs, c.1 < B ∨ E ≤ c.1) (hos : ∀ o ∈ os1 ++ os2, o.2.1 ≤ B ∨ E ≤ o.1) : Stt w w2 cs (os1 ++ (B, E, s, l') :: os2) := by
  obtain ⟨h1, h2, h3, h4⟩ := h.owns (B, E, s, l) (by simp)
  have hne : ∀ k, (k < B ∨ E ≤ k) → some k ≠ s.ownBlock := by
    intro k hk e
    have a := (h1.lt k e.symm).1
    have b := h2 k e.symm
    simp only at a b
    omega
  have hne' : ∀ (o : Nat × Nat × Value × List Int), o ∈ os1 ++ os2 → (o.2.2.1.ownBlock = none ∨ o.2.2.1.ownBlock ≠ s.ownBlock) := by
    intro o hm
    have hm' : o ∈ os1 ++ (B, E, s, l) :: os2 := by simp at hm ⊢; rcases hm with hm | hm <;> simp [hm]
    obtain ⟨q1, q2, _, _⟩ := h.owns o hm'
    cases hk : o.2.2.1.ownBlock with
    | none => exact .inl rfl
    | some k =>
      refine .inr (hne k ?_)
      have a := (q1.lt k hk).1
      have b := q2 k hk
      have := hos o hm
      omega
  refine ⟨⟨hg.os.trans h.below.os, hg.tape.trans h.below.tape, hg.output.trans h.below.output, Nat.le_trans h.below.size hg.size, fun k hk => ?_⟩, fun c hc => hg.cell (h.cells c hc) (hne _ (hcs c hc)), fun o hm => ?_⟩
  · rw [hg.block k (Nat.lt_of_lt_of_le hk h.below.size) (hne k (.inl (Nat.lt_of_lt_of_le hk h4))), h.below.block k hk]
  · by_cases e : o = (B, E, s, l')
    · subst e
      exact ⟨ho, h2, Nat.le_trans h3 hg.size, h4⟩
    · have hm2 : o ∈ os1 ++ os2 := by simp at hm ⊢; rcases hm with hm | hm | hm <;> simp_all
      have hm' : o ∈ os1 ++ (B, E, s, l) :: os2 := by simp at hm2 ⊢; rcases hm2 with hm2 | hm2 <;> simp [hm2]
      obtain ⟨q1, q2, q3, q4⟩ := h.owns o hm'
      exact ⟨World.ownsRow.kept q1 hg (hne' o hm2), q2, Nat.le_trans q3 hg.size, q4⟩

end Go.Proofs.Ytlmbcicfpidhcaa
