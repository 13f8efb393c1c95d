/- Words for slices of int in memory: what one reads as (Reads), one that a call owns (Own), and how both stand over later worlds. One element more at the end of a list of ints that the call owns. What the texts on numbers import together, and one law on lists. Slices of numbers that are the same. -/
import Derived.Test.YtdklikicngmkbaaGreatDoorG00
import Derived.WalkKit
import Derived.WalkSmall
import Derived.Test.YtdklikicngmkbaaGreatDoorProg
import Derived.WalkSpells
import Derived.Laws.AppendOwnNone
import Derived.WalkLawsBesides
import Derived.Deep.QuietTactic
import Derived.BigQuiet
namespace Go.Proofs.YtdklikicngmkbaaGreatDoor
open Go.RowKit

/-- The cells of a list of ints. -/
def ints (l : List Int) : List Value := l.map (Value.int .i64)

theorem ints_len (l : List Int) : (ints l).length = l.length := by simp [ints]
theorem ints_app (l m : List Int) : ints (l ++ m) = ints l ++ ints m := by simp [ints]
theorem ints_set (l : List Int) (i : Nat) (x : Int) : (ints l).set i (.int .i64 x) = ints (l.set i x) := by simp [ints, List.map_set]
theorem ints_take (l : List Int) (i : Nat) : (ints l).take i = ints (l.take i) := by simp [ints, List.map_take]
theorem ints_zeros (n : Nat) : List.replicate n (Value.int .i64 0) = ints (List.replicate n 0) := by simp [ints]
theorem ints_at {l : List Int} {i : Nat} (h : i < l.length) : (ints l)[i]? = some (.int .i64 l[i]) := by
  simp [ints, h]

/-- A slice at ao, of whatever capacity, reads as l. -/
structure Rd (w : World) (ao : Option Addr) (b off cap : Nat) (l : List Int) : Prop where
  le : l.length ≤ cap
  big : cap ≤ maxLen
  at_ : 0 < l.length → ao = some ⟨b, off, none⟩
  nil : ao = none → cap = 0
  cell : ∀ i (h : i < l.length), w.cell? ⟨b, off + i, none⟩ = some (.int .i64 l[i])

def Reads (w : World) (v : Value) (l : List Int) : Prop := ∃ ao b off cap, v = .slice ao l.length cap ∧ Rd w ao b off cap l

/-- A slice that lies at the head of a row of the call's own, from block B on. -/
def Own (B : Nat) (w : World) (v : Value) (l : List Int) : Prop := w.ownsRow B 3 1 v l.length (ints l)

theorem Rd.later {w w' : World} {ao : Option Addr} {b off cap : Nat} {l : List Int} (h : Rd w ao b off cap l) (k : Below w.heap.size w w') : Rd w' ao b off cap l :=
  ⟨h.le, h.big, h.at_, h.nil, fun i hi => (k.cell (p := ⟨b, off + i, none⟩) (World.block_lt_of_cell? w _ (h.cell i hi))).trans (h.cell i hi)⟩

theorem Reads.later {w w' : World} {v : Value} {l : List Int} (h : Reads w v l) (k : Below w.heap.size w w') : Reads w' v l := by
  obtain ⟨ao, b, off, cap, e, r⟩ := h
  exact ⟨ao, b, off, cap, e, r.later k⟩

theorem Reads.alloc {w : World} {v : Value} {l : List Int} (h : Reads w v l) (o : Obj) : Reads (w.alloc o) v l :=
  h.later ((Below.refl _ _).alloc (Nat.le_refl _) o)

theorem Own.reads {B : Nat} {w : World} {v : Value} {l : List Int} (h : Own B w v l) : Reads w v l := by
  have h' := h
  obtain ⟨h1, h2⟩ := h
  rcases h2 with ⟨rfl, e⟩ | ⟨g, cap, cur, rfl, hB, hg, hn, hm, hs, ht⟩
  · exact ⟨none, 0, 0, 0, by rw [e], ⟨by omega, by simp [maxLen], fun k => (by omega), fun _ => rfl, fun i hi => (by omega)⟩⟩
  · refine ⟨some ⟨g, 0, none⟩, g, 0, cap, rfl, ⟨hn, hm, fun _ => rfl, fun k => (by cases k), fun i hi => ?_⟩⟩
    have := World.ownsRow.cellAt (h' : w.ownsRow B 3 1 _ _ _) i (by omega)
    rw [Nat.zero_add, this, ints_at hi]

theorem Own.later {B : Nat} {w w' : World} {v : Value} {l : List Int} (h : Own B w v l) (k : Below w.heap.size w w') : Own B w' v l := by
  obtain ⟨h1, h2⟩ := h
  refine ⟨h1, ?_⟩
  rcases h2 with h2 | ⟨g, cap, cur, rfl, hB, hg, hr⟩
  · exact .inl h2
  · exact .inr ⟨g, cap, cur, rfl, hB, by rw [k.block g (Array.getElem?_eq_some_iff.1 hg).1]; exact hg, hr⟩

theorem Own.mono {B B' : Nat} {w : World} {v : Value} {l : List Int} (h : Own B w v l) (k : B' ≤ B) : Own B' w v l := by
  obtain ⟨h1, h2⟩ := h
  refine ⟨h1, ?_⟩
  rcases h2 with h2 | ⟨g, cap, cur, rfl, hB, hr⟩
  · exact .inl h2
  · exact .inr ⟨g, cap, cur, rfl, by omega, hr⟩

theorem Own.nil (B : Nat) (w : World) : Own B w (.slice none 0 0) [] := World.ownsRow_nil _ _ _ _

theorem Own.lt {B : Nat} {w : World} {v : Value} {l : List Int} (h : Own B w v l) : ∀ k, v.ownBlock = some k → B ≤ k ∧ k < w.heap.size := World.ownsRow.lt h

theorem bcell {W w1 : World} (hb : Below W.heap.size W w1) : (∀ b o, b < W.heap.size → w1.cell? ⟨b, o, none⟩ = W.cell? ⟨b, o, none⟩) ∧ (∀ b o, b < W.heap.size → w1.frozen? ⟨b, o, none⟩ = W.frozen? ⟨b, o, none⟩) :=
  ⟨fun b o h => hb.cell (p := ⟨b, o, none⟩) h, fun b o h => hb.frozen (p := ⟨b, o, none⟩) h⟩

theorem below_draws {w wr : World} (h : Below w.heap.size w wr) (n : Nat) : Below w.heap.size w (wr.drewN n) := below_drewN h n

theorem grown_trans {w w1 w2 : World} {r : Option Nat} (h : w.grownBy w1 r) (k : w1.grownBy w2 r) : w.grownBy w2 r :=
  ⟨k.os.trans h.os, k.tape.trans h.tape, k.output.trans h.output, Nat.le_trans h.size k.size, fun i hi hr => (k.block i (Nat.lt_of_lt_of_le hi h.size) hr).trans (h.block i hi hr)⟩

theorem hide {p : Prop} (h : p) : Hid p := h
theorem unhide {p : Prop} (h : Hid p) : p := h

theorem Own.setBelow {B : Nat} {w : World} {v : Value} {l : List Int} (h : Own B w v l) {a : Addr} (ha : a.block < B) (u : Value) : Own B (w.setCell a u) v l := ownsRow_setCell_below h ha u

theorem Own.split {B : Nat} {w : World} {v : Value} {l : List Int} (h : Own B w v l) :
    (v = .slice none 0 0 ∧ l = []) ∨ ∃ g cap, v = .slice (some ⟨g, 0, none⟩) l.length cap ∧ B ≤ g ∧ g < w.heap.size ∧ l.length ≤ cap ∧ cap ≤ 9223372036854775807 := by
  obtain ⟨_, h2⟩ := h
  rcases h2 with ⟨rfl, e⟩ | ⟨g, cap, cur, rfl, hB, hg, hn, hm, _⟩
  · exact .inl ⟨rfl, List.length_eq_zero_iff.1 e⟩
  · exact .inr ⟨g, cap, rfl, hB, (Array.getElem?_eq_some_iff.1 hg).1, hn, by unfold maxLen at hm; omega⟩

theorem Own.len {B : Nat} {w : World} {a : Option Addr} {n cap : Nat} {l : List Int} (h : Own B w (.slice a n cap) l) : n = l.length := by
  rcases h.split with ⟨e, rfl⟩ | ⟨g, c, e, _⟩
  · simp at e; simp [e]
  · simp at e; exact e.2.1

theorem Own.cellAt {B : Nat} {w : World} {g n cap : Nat} {l : List Int} (h : Own B w (.slice (some ⟨g, 0, none⟩) n cap) l) {i : Nat} (hi : i < l.length) : w.cell? ⟨g, i, none⟩ = some (.int .i64 l[i]) := by
  have e := h.len
  subst e
  have := World.ownsRow.cellAt (h : w.ownsRow B 3 1 _ _ _) i (by omega)
  rw [this, ints_at hi]

theorem Own.frozenAt {B : Nat} {w : World} {g n cap : Nat} {l : List Int} (h : Own B w (.slice (some ⟨g, 0, none⟩) n cap) l) (i : Nat) : w.frozen? ⟨g, i, none⟩ = false := by
  have e := h.len
  subst e
  exact World.ownsRow.frozenAt (h : w.ownsRow B 3 1 _ _ _) i

theorem Own.store {B : Nat} {w : World} {g n cap : Nat} {l : List Int} (h : Own B w (.slice (some ⟨g, 0, none⟩) n cap) l) (i : Nat) (x : Int) :
    Own B (w.setCell ⟨g, i, none⟩ (.int .i64 x)) (.slice (some ⟨g, 0, none⟩) n cap) (l.set i x) ∧ w.grownBy (w.setCell ⟨g, i, none⟩ (.int .i64 x)) (some g) := by
  have e := h.len
  subst e
  have := World.ownsRow.stored (h : w.ownsRow B 3 1 _ _ _) i (.int .i64 x)
  rw [ints_set] at this
  exact ⟨by unfold Own; rw [List.length_set]; exact this.1, this.2⟩

/-- What a call answers that hands out a list of its own. -/
def Gives (w : World) (l : List Int) (e : Ending) (w' : World) : Prop :=
  ∃ ao cap, e = .returned (.slice ao l.length cap) ∧ Own w.heap.size w' (.slice ao l.length cap) l ∧ Below w.heap.size w w'

theorem Gives.of {w w' : World} {l : List Int} {v : Value} (h : Own w.heap.size w' v l) (hb : Below w.heap.size w w') : Gives w l (.returned v) w' := by
  have h' := h
  obtain ⟨_, h2⟩ := h
  rcases h2 with ⟨rfl, e⟩ | ⟨g, cap, cur, rfl, _⟩
  · exact ⟨none, 0, by rw [e], by rw [e]; exact h', hb⟩
  · exact ⟨_, cap, rfl, h', hb⟩

/-- What a call answers that hands out a number of its own. -/
def GivesBig (w : World) (neg : Bool) (l : List Int) (e : Ending) (w' : World) : Prop :=
  ∃ ao cap, e = .returned (.agg #[.bool neg, .slice ao l.length cap]) ∧ Own w.heap.size w' (.slice ao l.length cap) l ∧ Below w.heap.size w w'

/-- The first k of an owned slice, at its head. -/
theorem Own.cut {B : Nat} {w : World} {g n cap : Nat} {l : List Int} (h : Own B w (.slice (some ⟨g, 0, none⟩) n cap) l) (k : Nat) (hk : k ≤ l.length) : Own B w (.slice (some ⟨g, 0, none⟩) k cap) (l.take k) := by
  obtain ⟨h1, h2⟩ := h
  rcases h2 with ⟨e, _⟩ | ⟨g', cap', cur, e, hB, hg, hn, hm, hs, ht⟩
  · cases e
  · simp only [Value.slice.injEq, Option.some.injEq, Addr.mk.injEq, and_true] at e
    obtain ⟨rfl, rfl, rfl⟩ := e
    have el : (l.take k).length = k := by rw [List.length_take]; omega
    refine ⟨by rw [el]; simp [ints]; omega, .inr ⟨g, cap, cur, by rw [el], hB, hg, by omega, hm, hs, ?_⟩⟩
    rw [el, ← ints_take, ← ht, List.take_take]
    congr 1
    omega

end Go.Proofs.YtdklikicngmkbaaGreatDoor

namespace Go.Proofs.YtdklikicngmkbaaGreatDoor
open Go.RowKit

theorem Tryz.info3 : (Tryz.prog.info? 3).map (fun i => (i.zero, i.size, i.bytes)) = some (some (.int .i64 0), 1, 8) := by kernel_rfl

theorem wpList_push {wr : World} {ops : Array Oper} {rest : List Oper} {o : Oper} {a : Act} {Q : Exit → Act → World → Prop}
    (hg : o.guard = none) (s x : Operand) (t : TypeId) (hop : o.op = Op.call { callee := Callee.builtin Builtin.append, args := #[s, x], argTypes := #[t, t] })
    (ht : Tryz.prog.underlying t = some (.slice 3)) (B : Nat) (v : Value) (l : List Int) (y : Int) (hown : Own B wr v l) (hs : a.eval s = v) (hx : a.eval x = .slice (some ⟨wr.heap.size, 0, none⟩) 1 1)
    (hlen : l.length ≤ 8000000) (hB : B ≤ wr.heap.size)
    (hK : ∀ g cap w', Own B w' (.slice (some ⟨g, 0, none⟩) (l.length + 1) cap) (l ++ [y]) → Below B wr w' → l.length + 1 ≤ cap → cap ≤ 9223372036854775807 → B ≤ g → g < w'.heap.size →
      wpList Tryz.prog ops Q rest (a.put o.dst (.slice (some ⟨g, 0, none⟩) (l.length + 1) cap)) w') :
    wpList Tryz.prog ops Q (o :: rest) a (wr.alloc (.cells #[.int .i64 y] 3)) := by
  obtain ⟨i0, hi, hz0, hz1, hz2⟩ := info_parts Tryz.info3
  refine wpList_append_own _ hg s x t hop B 3 i0 (.int .i64 0) 1 8 ht hi hz0 hz1 hz2 rfl (by decide) v l.length (ints l) hs (World.ownsRow.alloc hown _) ⟨wr.heap.size, 0, none⟩ 1 1 [.int .i64 y] hx rfl (cell_one_new _ _ _) (by intro u hu; simp at hu; subst hu; rfl) (by unfold maxLen; omega) (by omega) (by simp; omega) ?_
  intro v' w' hown' hgrow' _
  have hO : Own B w' v' (l ++ [y]) := by
    unfold Own
    rw [ints_app, List.length_append]
    exact hown'
  have hb : Below B wr w' := ((Below.refl B wr).alloc hB _).grown hgrow' (by simp; omega) (fun k hk => (hown.lt k hk).1)
  rcases hO.split with ⟨_, h0⟩ | ⟨g, cap, rfl, hBg, hgs, hcap, hm⟩
  · simp at h0
  · rw [List.length_append] at hO hcap ⊢
    exact hK g cap w' hO hb hcap hm hBg hgs

/-- A list of no elements, just made. -/
theorem own_empty (w : World) {B : Nat} (h : B ≤ w.heap.size) : Own B (w.alloc (.cells #[] 3)) (.slice (some ⟨w.heap.size, 0, none⟩) 0 0) [] :=
  World.ownsRow_made w #[] 0 h (by simp [maxLen]) rfl

/-- A list of one element, just made. -/
theorem own_one (w : World) (x : Int) {B : Nat} (h : B ≤ w.heap.size) : Own B (w.alloc (.cells #[.int .i64 x] 3)) (.slice (some ⟨w.heap.size, 0, none⟩) 1 1) [x] :=
  World.ownsRow_lit w #[.int .i64 x] 1 h (by simp [maxLen]) rfl

/-- All elements of a list behind those of a list that the call owns. -/
theorem wpList_pushAll {wr : World} {ops : Array Oper} {rest : List Oper} {o : Oper} {a : Act} {Q : Exit → Act → World → Prop}
    (hg : o.guard = none) (s x : Operand) (t : TypeId) (hop : o.op = Op.call { callee := Callee.builtin Builtin.append, args := #[s, x], argTypes := #[t, t] })
    (ht : Tryz.prog.underlying t = some (.slice 3)) (B : Nat) (v : Value) (l : List Int) (hown : Own B wr v l) (hs : a.eval s = v) (u : Value) (m : List Int) (hr : Reads wr u m) (hx : a.eval x = u)
    (hlen : l.length + m.length ≤ 8000000) (hB : B ≤ wr.heap.size)
    (hK : ∀ ao cap w', Own B w' (.slice ao (l ++ m).length cap) (l ++ m) → Below B wr w' → wpList Tryz.prog ops Q rest (a.put o.dst (.slice ao (l ++ m).length cap)) w') :
    wpList Tryz.prog ops Q (o :: rest) a wr := by
  obtain ⟨i0, hi, hz0, hz1, hz2⟩ := info_parts Tryz.info3
  have shape : ∀ v' w', Own B w' v' (l ++ m) → Below B wr w' → wpList Tryz.prog ops Q rest (a.put o.dst v') w' := by
    intro v' w' h1 h2
    have h1' := h1
    rcases h1.split with ⟨rfl, h0⟩ | ⟨g, cap, rfl, _⟩
    · have := hK none 0 w' (by rw [h0]; rw [h0] at h1'; exact h1') h2
      rw [h0] at this
      exact this
    · exact hK _ cap w' h1' h2
  obtain ⟨ao, b, off, cap, rfl, hr⟩ := hr
  cases ao with
  | none =>
    have hc := hr.nil rfl
    have hl := hr.le
    have hm : m = [] := List.length_eq_zero_iff.1 (by omega)
    subst hm
    refine wpList_append_own_none hg s x t hop B 3 i0 1 ht hi v l.length (ints l) hs hown (by rw [hx, hc]; rfl) ?_
    exact shape v wr (by simpa using hown) (Below.refl _ _)
  | some ad =>
    refine wpList_append_own _ hg s x t hop B 3 i0 (.int .i64 0) 1 8 ht hi hz0 hz1 hz2 rfl (by decide) v l.length (ints l) hs hown ad m.length cap (ints m) hx (by simp [ints]) ?_ (ints_oneCell _ _) (by unfold maxLen; omega) (by omega) hB ?_
    · intro j y hj
      have hjm : j < m.length := by
        have := (List.getElem?_eq_some_iff.1 hj).1
        simpa [ints] using this
      have e := hr.at_ (by omega)
      obtain rfl := Option.some.inj e
      rw [ints_at hjm] at hj
      obtain rfl := Option.some.inj hj
      rw [Addr.add_lit]
      exact hr.cell j hjm
    · intro v' w' hown' hgrow' _
      refine shape v' w' ?_ ((Below.refl B wr).grown hgrow' hB (fun k hk => (hown.lt k hk).1))
      unfold Own
      rw [ints_app, List.length_append]
      exact hown'

/-- The first k of a slice that reads as l. -/
theorem Rd.cut {w : World} {ao : Option Addr} {b off cap : Nat} {l : List Int} (h : Rd w ao b off cap l) (k : Nat) : Rd w ao b off cap (l.take k) :=
  ⟨by rw [List.length_take]; have := h.le; omega, h.big, fun hp => h.at_ (by rw [List.length_take] at hp; omega), h.nil, fun i hi => by
    rw [List.length_take] at hi
    rw [List.getElem_take]
    exact h.cell i (by omega)⟩

end Go.Proofs.YtdklikicngmkbaaGreatDoor

namespace Go.Proofs.YtdklikicngmkbaaGreatDoor
open Go.RowKit

theorem take_succ_eq {l m : List Int} {k : Nat} (h : l.take k = m.take k) (h1 : k < l.length) (h2 : k < m.length) (he : l[k] = m[k]) : l.take (k + 1) = m.take (k + 1) := by
  rw [List.take_succ_eq_append_getElem h1, List.take_succ_eq_append_getElem h2, h, he]

end Go.Proofs.YtdklikicngmkbaaGreatDoor

namespace Go.Proofs.YtdklikicngmkbaaGreatDoor
open Go.RowKit



theorem take_set_succ {m l : List Int} {k : Nat} (h : m.take k = l.take k) (hk : k < l.length) (hm : k < m.length) : (m.set k l[k]).take (k + 1) = l.take (k + 1) := by
  rw [List.take_succ_eq_append_getElem (by simpa using hm), List.take_succ_eq_append_getElem hk, List.getElem_set_self, List.take_set, List.set_eq_of_length_le (by rw [List.length_take]; omega), h]

theorem eqIntS_any (w : World) (u v : Value) (l m : List Int) (hu : Reads w u l) (hv : Reads w v m) :
    Calls Tryz.prog 146 #[u, v] w fun e w' => e = .returned (.bool (decide (l = m))) ∧ Below w.heap.size w w' := by
  obtain ⟨ao, b, off, cap, rfl, hu⟩ := hu
  obtain ⟨ao', b', off', cap', rfl, hv⟩ := hv
  have h1 := hu.le
  have h2 := hu.big
  have h3 := hv.le
  have h4 := hv.big
  unfold maxLen at h2 h4
  by_cases hlen : l.length = m.length
  · have hne : ((l.length : Int) != (m.length : Int)) = false := by simp; omega
    have hle1 : l.length ≤ m.length := by omega
    have hle2 : m.length ≤ l.length := by omega
    clear hlen
    go_enter Tryz.func146, Tryz.ntmps146
    go_wp2
    go_loopw [5] (fun i wr => ∃ k : Nat, k ≤ l.length ∧ i = .int .i64 k ∧ l.take k = m.take k ∧ Below w.heap.size w wr) (fun i _ => l.length - (intOf i).toNat)
    case atStart => exact ⟨0, Nat.zero_le _, rfl, by simp, Below.refl _ _⟩
    case round =>
      obtain ⟨k, hk, rfl, ht, hbel⟩ := hrel
      have Ht := hide ht
      clear ht
      by_cases hlt : k < l.length
      · have hlt' : k < m.length := by omega
        have hc := (hu.later hbel).cell k hlt
        have hc' := (hv.later hbel).cell k hlt'
        have hat := hu.at_ (by omega)
        have hat' := hv.at_ (by omega)
        subst hat hat'
        clear hu hv
        by_cases he : l[k] = m[k]
        · have he' : (l[k] != m[k]) = false := by simp [he]
          have He := hide he
          clear he
          go_wp2
          go_quiet (fail)
          go_wp2
          go_roundw
          case rel => exact ⟨k + 1, by omega, by go_num, take_succ_eq (unhide Ht) hlt hlt' (unhide He), below_draws hbel _⟩
          case measure => simp [intOf]; omega
        · have he' : (l[k] != m[k]) = true := by simpa using he
          have hd : decide (l = m) = false := by simp; intro e; subst e; exact he rfl
          have Hd := hide hd
          clear hd he
          go_wp2
          go_quiet (fail)
          go_wp2
          go_ret
          exact ⟨by rw [unhide Hd]; rfl, below_draws hbel _⟩
      · have hd : decide (l = m) = true := by
          have := unhide Ht
          rw [List.take_of_length_le (by omega), List.take_of_length_le (by omega)] at this
          simpa using this
        have Hd := hide hd
        clear hd
        go_wp2
        go_ret
        exact ⟨by rw [unhide Hd]; rfl, hbel⟩
  · have hne : ((l.length : Int) != (m.length : Int)) = true := by simp; omega
    have hd : decide (l = m) = false := by simp; intro e; exact hlen (by rw [e])
    rw [hd]
    clear hu hv
    go_enter Tryz.func146, Tryz.ntmps146
    go_wp2
    go_ret
    exact ⟨rfl, Below.refl _ _⟩

end Go.Proofs.YtdklikicngmkbaaGreatDoor
