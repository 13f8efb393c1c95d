/- Words for slices of int in memory: what one reads as (Reads), one that a call owns (Own), and how both stand over later worlds. -/
import Derived.Test.YtdefhpegabifjaaDoorMath
import Derived.WalkKit
import Derived.WalkSmall
namespace Go.Proofs.YtdefhpegabifjaaDoor
open Go.RowKit

/-- The cells of a list of ints. -/
def ints (l : List Int) : List Value := l.map (Value.int .i64)

theorem ints_len (l : List Int) : (ints l).length = l.length := by simp [ints]
theorem ints_app (l m : List Int) : ints (l ++ m) = ints l ++ ints m := by simp [ints]
theorem ints_set (l : List Int) (i : Nat) (x : Int) : (ints l).set i (.int .i64 x) = ints (l.set i x) := by simp [ints, List.map_set]
theorem ints_take (l : List Int) (i : Nat) : (ints l).take i = ints (l.take i) := by simp [ints, List.map_take]
theorem ints_zeros (n : Nat) : List.replicate n (Value.int .i64 0) = ints (List.replicate n 0) := by simp [ints]
theorem ints_at {l : List Int} {i : Nat} (h : i < l.length) : (ints l)[i]? = some (.int .i64 l[i]) := by
  simp [ints, h]

/-- A slice at ao, of whatever capacity, reads as l. -/
structure Rd (w : World) (ao : Option Addr) (b off cap : Nat) (l : List Int) : Prop where
  le : l.length ≤ cap
  big : cap ≤ maxLen
  at_ : 0 < l.length → ao = some ⟨b, off, none⟩
  nil : ao = none → cap = 0
  cell : ∀ i (h : i < l.length), w.cell? ⟨b, off + i, none⟩ = some (.int .i64 l[i])

def Reads (w : World) (v : Value) (l : List Int) : Prop := ∃ ao b off cap, v = .slice ao l.length cap ∧ Rd w ao b off cap l

/-- A slice that lies at the head of a row of the call's own, from block B on. -/
def Own (B : Nat) (w : World) (v : Value) (l : List Int) : Prop := w.ownsRow B 3 1 v l.length (ints l)

theorem Rd.later {w w' : World} {ao : Option Addr} {b off cap : Nat} {l : List Int} (h : Rd w ao b off cap l) (k : Below w.heap.size w w') : Rd w' ao b off cap l :=
  ⟨h.le, h.big, h.at_, h.nil, fun i hi => (k.cell (p := ⟨b, off + i, none⟩) (World.block_lt_of_cell? w _ (h.cell i hi))).trans (h.cell i hi)⟩

theorem Reads.later {w w' : World} {v : Value} {l : List Int} (h : Reads w v l) (k : Below w.heap.size w w') : Reads w' v l := by
  obtain ⟨ao, b, off, cap, e, r⟩ := h
  exact ⟨ao, b, off, cap, e, r.later k⟩

theorem Reads.alloc {w : World} {v : Value} {l : List Int} (h : Reads w v l) (o : Obj) : Reads (w.alloc o) v l :=
  h.later ((Below.refl _ _).alloc (Nat.le_refl _) o)

theorem Own.reads {B : Nat} {w : World} {v : Value} {l : List Int} (h : Own B w v l) : Reads w v l := by
  have h' := h
  obtain ⟨h1, h2⟩ := h
  rcases h2 with ⟨rfl, e⟩ | ⟨g, cap, cur, rfl, hB, hg, hn, hm, hs, ht⟩
  · exact ⟨none, 0, 0, 0, by rw [e], ⟨by omega, by simp [maxLen], fun k => (by omega), fun _ => rfl, fun i hi => (by omega)⟩⟩
  · refine ⟨some ⟨g, 0, none⟩, g, 0, cap, rfl, ⟨hn, hm, fun _ => rfl, fun k => (by cases k), fun i hi => ?_⟩⟩
    have := World.ownsRow.cellAt (h' : w.ownsRow B 3 1 _ _ _) i (by omega)
    rw [Nat.zero_add, this, ints_at hi]

theorem Own.later {B : Nat} {w w' : World} {v : Value} {l : List Int} (h : Own B w v l) (k : Below w.heap.size w w') : Own B w' v l := by
  obtain ⟨h1, h2⟩ := h
  refine ⟨h1, ?_⟩
  rcases h2 with h2 | ⟨g, cap, cur, rfl, hB, hg, hr⟩
  · exact .inl h2
  · exact .inr ⟨g, cap, cur, rfl, hB, by rw [k.block g (Array.getElem?_eq_some_iff.1 hg).1]; exact hg, hr⟩

theorem Own.mono {B B' : Nat} {w : World} {v : Value} {l : List Int} (h : Own B w v l) (k : B' ≤ B) : Own B' w v l := by
  obtain ⟨h1, h2⟩ := h
  refine ⟨h1, ?_⟩
  rcases h2 with h2 | ⟨g, cap, cur, rfl, hB, hr⟩
  · exact .inl h2
  · exact .inr ⟨g, cap, cur, rfl, by omega, hr⟩

theorem Own.nil (B : Nat) (w : World) : Own B w (.slice none 0 0) [] := World.ownsRow_nil _ _ _ _

theorem Own.lt {B : Nat} {w : World} {v : Value} {l : List Int} (h : Own B w v l) : ∀ k, v.ownBlock = some k → B ≤ k ∧ k < w.heap.size := World.ownsRow.lt h

theorem bcell {W w1 : World} (hb : Below W.heap.size W w1) : (∀ b o, b < W.heap.size → w1.cell? ⟨b, o, none⟩ = W.cell? ⟨b, o, none⟩) ∧ (∀ b o, b < W.heap.size → w1.frozen? ⟨b, o, none⟩ = W.frozen? ⟨b, o, none⟩) :=
  ⟨fun b o h => hb.cell (p := ⟨b, o, none⟩) h, fun b o h => hb.frozen (p := ⟨b, o, none⟩) h⟩

theorem below_draws {w wr : World} (h : Below w.heap.size w wr) (n : Nat) : Below w.heap.size w (wr.drewN n) := below_drewN h n

theorem grown_trans {w w1 w2 : World} {r : Option Nat} (h : w.grownBy w1 r) (k : w1.grownBy w2 r) : w.grownBy w2 r :=
  ⟨k.os.trans h.os, k.tape.trans h.tape, k.output.trans h.output, Nat.le_trans h.size k.size, fun i hi hr => (k.block i (Nat.lt_of_lt_of_le hi h.size) hr).trans (h.block i hi hr)⟩

theorem hide {p : Prop} (h : p) : Hid p := h
theorem unhide {p : Prop} (h : Hid p) : p := h

theorem Own.setBelow {B : Nat} {w : World} {v : Value} {l : List Int} (h : Own B w v l) {a : Addr} (ha : a.block < B) (u : Value) : Own B (w.setCell a u) v l := ownsRow_setCell_below h ha u

theorem Own.split {B : Nat} {w : World} {v : Value} {l : List Int} (h : Own B w v l) :
    (v = .slice none 0 0 ∧ l = []) ∨ ∃ g cap, v = .slice (some ⟨g, 0, none⟩) l.length cap ∧ B ≤ g ∧ g < w.heap.size ∧ l.length ≤ cap ∧ cap ≤ 9223372036854775807 := by
  obtain ⟨_, h2⟩ := h
  rcases h2 with ⟨rfl, e⟩ | ⟨g, cap, cur, rfl, hB, hg, hn, hm, _⟩
  · exact .inl ⟨rfl, List.length_eq_zero_iff.1 e⟩
  · exact .inr ⟨g, cap, rfl, hB, (Array.getElem?_eq_some_iff.1 hg).1, hn, by unfold maxLen at hm; omega⟩

theorem Own.len {B : Nat} {w : World} {a : Option Addr} {n cap : Nat} {l : List Int} (h : Own B w (.slice a n cap) l) : n = l.length := by
  rcases h.split with ⟨e, rfl⟩ | ⟨g, c, e, _⟩
  · simp at e; simp [e]
  · simp at e; exact e.2.1

theorem Own.cellAt {B : Nat} {w : World} {g n cap : Nat} {l : List Int} (h : Own B w (.slice (some ⟨g, 0, none⟩) n cap) l) {i : Nat} (hi : i < l.length) : w.cell? ⟨g, i, none⟩ = some (.int .i64 l[i]) := by
  have e := h.len
  subst e
  have := World.ownsRow.cellAt (h : w.ownsRow B 3 1 _ _ _) i (by omega)
  rw [this, ints_at hi]

theorem Own.frozenAt {B : Nat} {w : World} {g n cap : Nat} {l : List Int} (h : Own B w (.slice (some ⟨g, 0, none⟩) n cap) l) (i : Nat) : w.frozen? ⟨g, i, none⟩ = false := by
  have e := h.len
  subst e
  exact World.ownsRow.frozenAt (h : w.ownsRow B 3 1 _ _ _) i

theorem Own.store {B : Nat} {w : World} {g n cap : Nat} {l : List Int} (h : Own B w (.slice (some ⟨g, 0, none⟩) n cap) l) (i : Nat) (x : Int) :
    Own B (w.setCell ⟨g, i, none⟩ (.int .i64 x)) (.slice (some ⟨g, 0, none⟩) n cap) (l.set i x) ∧ w.grownBy (w.setCell ⟨g, i, none⟩ (.int .i64 x)) (some g) := by
  have e := h.len
  subst e
  have := World.ownsRow.stored (h : w.ownsRow B 3 1 _ _ _) i (.int .i64 x)
  rw [ints_set] at this
  exact ⟨by unfold Own; rw [List.length_set]; exact this.1, this.2⟩

/-- What a call answers that hands out a list of its own. -/
def Gives (w : World) (l : List Int) (e : Ending) (w' : World) : Prop :=
  ∃ ao cap, e = .returned (.slice ao l.length cap) ∧ Own w.heap.size w' (.slice ao l.length cap) l ∧ Below w.heap.size w w'

theorem Gives.of {w w' : World} {l : List Int} {v : Value} (h : Own w.heap.size w' v l) (hb : Below w.heap.size w w') : Gives w l (.returned v) w' := by
  have h' := h
  obtain ⟨_, h2⟩ := h
  rcases h2 with ⟨rfl, e⟩ | ⟨g, cap, cur, rfl, _⟩
  · exact ⟨none, 0, by rw [e], by rw [e]; exact h', hb⟩
  · exact ⟨_, cap, rfl, h', hb⟩

/-- What a call answers that hands out a number of its own. -/
def GivesBig (w : World) (neg : Bool) (l : List Int) (e : Ending) (w' : World) : Prop :=
  ∃ ao cap, e = .returned (.agg #[.bool neg, .slice ao l.length cap]) ∧ Own w.heap.size w' (.slice ao l.length cap) l ∧ Below w.heap.size w w'

/-- The first k of an owned slice, at its head. -/
theorem Own.cut {B : Nat} {w : World} {g n cap : Nat} {l : List Int} (h : Own B w (.slice (some ⟨g, 0, none⟩) n cap) l) (k : Nat) (hk : k ≤ l.length) : Own B w (.slice (some ⟨g, 0, none⟩) k cap) (l.take k) := by
  obtain ⟨h1, h2⟩ := h
  rcases h2 with ⟨e, _⟩ | ⟨g', cap', cur, e, hB, hg, hn, hm, hs, ht⟩
  · cases e
  · simp only [Value.slice.injEq, Option.some.injEq, Addr.mk.injEq, and_true] at e
    obtain ⟨rfl, rfl, rfl⟩ := e
    have el : (l.take k).length = k := by rw [List.length_take]; omega
    refine ⟨by rw [el]; simp [ints]; omega, .inr ⟨g, cap, cur, by rw [el], hB, hg, by omega, hm, hs, ?_⟩⟩
    rw [el, ← ints_take, ← ht, List.take_take]
    congr 1
    omega

end Go.Proofs.YtdefhpegabifjaaDoor
