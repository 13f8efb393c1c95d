/- One text more at the end of a list of texts that the call owns. -/
import Derived.Test.YtnfalniijmccjaaDoorPush
namespace Go.Proofs.YtnfalniijmccjaaDoor
open Go.RowKit

theorem Tryd.infoS : (Tryd.prog.info? 9).map (fun i => (i.zero, i.size, i.bytes)) = some (some (.string ⟨#[]⟩), 1, 16) := by kernel_rfl

/-- A list of texts that lies at the head of a row of the call's own. -/
def OwnT (B : Nat) (w : World) (v : Value) (l : List ByteArray) : Prop := w.ownsRow B 9 1 v l.length (l.map Value.string)

theorem OwnT.cellAt {B : Nat} {w : World} {g n cap : Nat} {l : List ByteArray} (h : OwnT B w (.slice (some ⟨g, 0, none⟩) n cap) l) {i : Nat} (hi : i < l.length) : w.cell? ⟨g, i, none⟩ = some (.string l[i]) := by
  have e : n = l.length := by
    obtain ⟨_, h2⟩ := h
    rcases h2 with ⟨e, _⟩ | ⟨_, _, _, e, _⟩
    · simp at e
    · simp at e; exact e.2.1
  subst e
  have := World.ownsRow.cellAt (h : w.ownsRow B 9 1 _ _ _) i (by simpa using hi)
  rw [this]
  simp [hi]

theorem OwnT.later {B : Nat} {w w' : World} {v : Value} {l : List ByteArray} (h : OwnT B w v l) (k : Below w.heap.size w w') : OwnT B w' v l := by
  obtain ⟨h1, h2⟩ := h
  refine ⟨h1, ?_⟩
  rcases h2 with h2 | ⟨g, cap, cur, rfl, hB, hg, hr⟩
  · exact .inl h2
  · exact .inr ⟨g, cap, cur, rfl, hB, by rw [k.block g (Array.getElem?_eq_some_iff.1 hg).1]; exact hg, hr⟩

theorem OwnT.split {B : Nat} {w : World} {v : Value} {l : List ByteArray} (h : OwnT B w v l) :
    (v = .slice none 0 0 ∧ l = []) ∨ ∃ g cap, v = .slice (some ⟨g, 0, none⟩) l.length cap ∧ B ≤ g ∧ g < w.heap.size ∧ l.length ≤ cap ∧ cap ≤ 9223372036854775807 := by
  obtain ⟨_, h2⟩ := h
  rcases h2 with ⟨rfl, e⟩ | ⟨g, cap, cur, rfl, hB, hg, hn, hm, _⟩
  · exact .inl ⟨rfl, List.length_eq_zero_iff.1 e⟩
  · exact .inr ⟨g, cap, rfl, hB, (Array.getElem?_eq_some_iff.1 hg).1, hn, by unfold maxLen at hm; omega⟩

theorem ownT_empty (w : World) {B : Nat} (h : B ≤ w.heap.size) : OwnT B (w.alloc (.cells #[] 9)) (.slice (some ⟨w.heap.size, 0, none⟩) 0 0) [] :=
  World.ownsRow_made w #[] 0 h (by simp [maxLen]) rfl

theorem wpList_pushS {wr : World} {ops : Array Oper} {rest : List Oper} {o : Oper} {a : Act} {Q : Exit → Act → World → Prop}
    (hg : o.guard = none) (s x : Operand) (t : TypeId) (hop : o.op = Op.call { callee := Callee.builtin Builtin.append, args := #[s, x], argTypes := #[t, t] })
    (ht : Tryd.prog.underlying t = some (.slice 9)) (B : Nat) (v : Value) (l : List ByteArray) (y : ByteArray) (hown : OwnT B wr v l) (hs : a.eval s = v) (hx : a.eval x = .slice (some ⟨wr.heap.size, 0, none⟩) 1 1)
    (hlen : l.length ≤ 8000000) (hB : B ≤ wr.heap.size)
    (hK : ∀ g cap w', OwnT B w' (.slice (some ⟨g, 0, none⟩) (l.length + 1) cap) (l ++ [y]) → Below B wr w' → l.length + 1 ≤ cap → cap ≤ 9223372036854775807 → B ≤ g → g < w'.heap.size →
      wpList Tryd.prog ops Q rest (a.put o.dst (.slice (some ⟨g, 0, none⟩) (l.length + 1) cap)) w') :
    wpList Tryd.prog ops Q (o :: rest) a (wr.alloc (.cells #[.string y] 9)) := by
  obtain ⟨i0, hi, hz0, hz1, hz2⟩ := info_parts Tryd.infoS
  refine wpList_append_own _ hg s x t hop B 9 i0 (.string ⟨#[]⟩) 1 16 ht hi hz0 hz1 hz2 rfl (by decide) v l.length (l.map Value.string) hs (World.ownsRow.alloc hown _) ⟨wr.heap.size, 0, none⟩ 1 1 [.string y] hx rfl (cell_one_new _ _ _) (by intro u hu; simp at hu; subst hu; rfl) (by unfold maxLen; omega) (by omega) (by simp; omega) ?_
  intro v' w' hown' hgrow' _
  have hO : OwnT B w' v' (l ++ [y]) := by
    unfold OwnT
    rw [List.map_append, List.length_append]
    exact hown'
  have hb : Below B wr w' := ((Below.refl B wr).alloc hB _).grown hgrow' (by simp; omega) (fun k hk => (World.ownsRow.lt hown k hk).1)
  rcases hO.split with ⟨_, h0⟩ | ⟨g, cap, rfl, hBg, hgs, hcap, hm⟩
  · simp at h0
  · rw [List.length_append] at hO hcap ⊢
    exact hK g cap w' hO hb hcap hm hBg hgs

end Go.Proofs.YtnfalniijmccjaaDoor
