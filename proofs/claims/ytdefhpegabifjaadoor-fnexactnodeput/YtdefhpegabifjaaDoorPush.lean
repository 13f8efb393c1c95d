/- One element more at the end of a list of ints that the call owns. -/
import Derived.Test.YtdefhpegabifjaaDoorProg
import Derived.Test.YtdefhpegabifjaaDoorBase
import Derived.WalkSpells
import Derived.Laws.AppendOwnNone
namespace Go.Proofs.YtdefhpegabifjaaDoor
open Go.RowKit

theorem Tryd.info3 : (Tryd.prog.info? 3).map (fun i => (i.zero, i.size, i.bytes)) = some (some (.int .i64 0), 1, 8) := by kernel_rfl

theorem wpList_push {wr : World} {ops : Array Oper} {rest : List Oper} {o : Oper} {a : Act} {Q : Exit → Act → World → Prop}
    (hg : o.guard = none) (s x : Operand) (t : TypeId) (hop : o.op = Op.call { callee := Callee.builtin Builtin.append, args := #[s, x], argTypes := #[t, t] })
    (ht : Tryd.prog.underlying t = some (.slice 3)) (B : Nat) (v : Value) (l : List Int) (y : Int) (hown : Own B wr v l) (hs : a.eval s = v) (hx : a.eval x = .slice (some ⟨wr.heap.size, 0, none⟩) 1 1)
    (hlen : l.length ≤ 8000000) (hB : B ≤ wr.heap.size)
    (hK : ∀ g cap w', Own B w' (.slice (some ⟨g, 0, none⟩) (l.length + 1) cap) (l ++ [y]) → Below B wr w' → l.length + 1 ≤ cap → cap ≤ 9223372036854775807 → B ≤ g → g < w'.heap.size →
      wpList Tryd.prog ops Q rest (a.put o.dst (.slice (some ⟨g, 0, none⟩) (l.length + 1) cap)) w') :
    wpList Tryd.prog ops Q (o :: rest) a (wr.alloc (.cells #[.int .i64 y] 3)) := by
  obtain ⟨i0, hi, hz0, hz1, hz2⟩ := info_parts Tryd.info3
  refine wpList_append_own _ hg s x t hop B 3 i0 (.int .i64 0) 1 8 ht hi hz0 hz1 hz2 rfl (by decide) v l.length (ints l) hs (World.ownsRow.alloc hown _) ⟨wr.heap.size, 0, none⟩ 1 1 [.int .i64 y] hx rfl (cell_one_new _ _ _) (by intro u hu; simp at hu; subst hu; rfl) (by unfold maxLen; omega) (by omega) (by simp; omega) ?_
  intro v' w' hown' hgrow' _
  have hO : Own B w' v' (l ++ [y]) := by
    unfold Own
    rw [ints_app, List.length_append]
    exact hown'
  have hb : Below B wr w' := ((Below.refl B wr).alloc hB _).grown hgrow' (by simp; omega) (fun k hk => (hown.lt k hk).1)
  rcases hO.split with ⟨_, h0⟩ | ⟨g, cap, rfl, hBg, hgs, hcap, hm⟩
  · simp at h0
  · rw [List.length_append] at hO hcap ⊢
    exact hK g cap w' hO hb hcap hm hBg hgs

/-- A list of no elements, just made. -/
theorem own_empty (w : World) {B : Nat} (h : B ≤ w.heap.size) : Own B (w.alloc (.cells #[] 3)) (.slice (some ⟨w.heap.size, 0, none⟩) 0 0) [] :=
  World.ownsRow_made w #[] 0 h (by simp [maxLen]) rfl

/-- A list of one element, just made. -/
theorem own_one (w : World) (x : Int) {B : Nat} (h : B ≤ w.heap.size) : Own B (w.alloc (.cells #[.int .i64 x] 3)) (.slice (some ⟨w.heap.size, 0, none⟩) 1 1) [x] :=
  World.ownsRow_lit w #[.int .i64 x] 1 h (by simp [maxLen]) rfl

/-- All elements of a list behind those of a list that the call owns. -/
theorem wpList_pushAll {wr : World} {ops : Array Oper} {rest : List Oper} {o : Oper} {a : Act} {Q : Exit → Act → World → Prop}
    (hg : o.guard = none) (s x : Operand) (t : TypeId) (hop : o.op = Op.call { callee := Callee.builtin Builtin.append, args := #[s, x], argTypes := #[t, t] })
    (ht : Tryd.prog.underlying t = some (.slice 3)) (B : Nat) (v : Value) (l : List Int) (hown : Own B wr v l) (hs : a.eval s = v) (u : Value) (m : List Int) (hr : Reads wr u m) (hx : a.eval x = u)
    (hlen : l.length + m.length ≤ 8000000) (hB : B ≤ wr.heap.size)
    (hK : ∀ ao cap w', Own B w' (.slice ao (l ++ m).length cap) (l ++ m) → Below B wr w' → wpList Tryd.prog ops Q rest (a.put o.dst (.slice ao (l ++ m).length cap)) w') :
    wpList Tryd.prog ops Q (o :: rest) a wr := by
  obtain ⟨i0, hi, hz0, hz1, hz2⟩ := info_parts Tryd.info3
  have shape : ∀ v' w', Own B w' v' (l ++ m) → Below B wr w' → wpList Tryd.prog ops Q rest (a.put o.dst v') w' := by
    intro v' w' h1 h2
    have h1' := h1
    rcases h1.split with ⟨rfl, h0⟩ | ⟨g, cap, rfl, _⟩
    · have := hK none 0 w' (by rw [h0]; rw [h0] at h1'; exact h1') h2
      rw [h0] at this
      exact this
    · exact hK _ cap w' h1' h2
  obtain ⟨ao, b, off, cap, rfl, hr⟩ := hr
  cases ao with
  | none =>
    have hc := hr.nil rfl
    have hl := hr.le
    have hm : m = [] := List.length_eq_zero_iff.1 (by omega)
    subst hm
    refine wpList_append_own_none hg s x t hop B 3 i0 1 ht hi v l.length (ints l) hs hown (by rw [hx, hc]; rfl) ?_
    exact shape v wr (by simpa using hown) (Below.refl _ _)
  | some ad =>
    refine wpList_append_own _ hg s x t hop B 3 i0 (.int .i64 0) 1 8 ht hi hz0 hz1 hz2 rfl (by decide) v l.length (ints l) hs hown ad m.length cap (ints m) hx (by simp [ints]) ?_ (ints_oneCell _ _) (by unfold maxLen; omega) (by omega) hB ?_
    · intro j y hj
      have hjm : j < m.length := by
        have := (List.getElem?_eq_some_iff.1 hj).1
        simpa [ints] using this
      have e := hr.at_ (by omega)
      obtain rfl := Option.some.inj e
      rw [ints_at hjm] at hj
      obtain rfl := Option.some.inj hj
      rw [Addr.add_lit]
      exact hr.cell j hjm
    · intro v' w' hown' hgrow' _
      refine shape v' w' ?_ ((Below.refl B wr).grown hgrow' hB (fun k hk => (hown.lt k hk).1))
      unfold Own
      rw [ints_app, List.length_append]
      exact hown'

/-- The first k of a slice that reads as l. -/
theorem Rd.cut {w : World} {ao : Option Addr} {b off cap : Nat} {l : List Int} (h : Rd w ao b off cap l) (k : Nat) : Rd w ao b off cap (l.take k) :=
  ⟨by rw [List.length_take]; have := h.le; omega, h.big, fun hp => h.at_ (by rw [List.length_take] at hp; omega), h.nil, fun i hi => by
    rw [List.length_take] at hi
    rw [List.getElem_take]
    exact h.cell i (by omega)⟩

end Go.Proofs.YtdefhpegabifjaaDoor
