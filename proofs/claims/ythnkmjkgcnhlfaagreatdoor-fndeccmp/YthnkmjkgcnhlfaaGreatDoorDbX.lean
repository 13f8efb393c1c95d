/- Boxes of decimals, as they lie. -/
import Derived.Test.YthnkmjkgcnhlfaaGreatDoorH08
namespace Go.Proofs.YthnkmjkgcnhlfaaGreatDoor
open Go.RowKit

/-- A box that holds a decimal. -/
structure Db (w : World) (k : Nat) (p : Bool) (v : Value) (s : Int) : Prop where
  c0 : w.cell? ⟨k, 0, none⟩ = some (.bool p)
  c1 : w.cell? ⟨k, 1, none⟩ = some v
  c2 : w.cell? ⟨k, 2, none⟩ = some (.int .i64 s)
  f0 : w.frozen? ⟨k, 0, none⟩ = false
  f1 : w.frozen? ⟨k, 1, none⟩ = false
  f2 : w.frozen? ⟨k, 2, none⟩ = false
  lt : k < w.heap.size

theorem Db.ofBlock {w w' : World} {k : Nat} {p : Bool} {v : Value} {s : Int} (h : Db w k p v s) (hb : w'.heap[k]? = w.heap[k]?) (hs : w.heap.size ≤ w'.heap.size) : Db w' k p v s :=
  ⟨(World.cell?_of_block (w := w) (a := ⟨k, 0, none⟩) hb).trans h.c0, (World.cell?_of_block (w := w) (a := ⟨k, 1, none⟩) hb).trans h.c1, (World.cell?_of_block (w := w) (a := ⟨k, 2, none⟩) hb).trans h.c2,
    (World.frozen?_of_block (w := w) (a := ⟨k, 0, none⟩) hb).trans h.f0, (World.frozen?_of_block (w := w) (a := ⟨k, 1, none⟩) hb).trans h.f1, (World.frozen?_of_block (w := w) (a := ⟨k, 2, none⟩) hb).trans h.f2, Nat.lt_of_lt_of_le h.lt hs⟩

theorem Db.later {w w' : World} {k : Nat} {p : Bool} {v : Value} {s : Int} (h : Db w k p v s) (b : Below w.heap.size w w') : Db w' k p v s := h.ofBlock (b.block k h.lt) b.size

theorem Db.grown {w w' : World} {k R : Nat} {p : Bool} {v : Value} {s : Int} (h : Db w k p v s) (g : w.grownBy w' (some R)) (hk : k ≠ R) : Db w' k p v s := h.ofBlock (g.block k h.lt (by simpa using hk)) g.size

theorem Db.new (X : World) (p : Bool) (v : Value) (s : Int) : Db (X.alloc (.cells #[.bool p, v, .int .i64 s] 27)) X.heap.size p v s :=
  ⟨by go_simp, by go_simp, by go_simp, by go_simp, by go_simp, by go_simp, by simp⟩

theorem Db.alloc {w : World} {k : Nat} {p : Bool} {v : Value} {s : Int} (h : Db w k p v s) (o : Obj) : Db (w.alloc o) k p v s := h.later ((Below.refl _ _).alloc (Nat.le_refl _) _)

/-- The two places for what is handed out, made first, while a reader that was made later goes on. -/
structure T2 (w W : World) (R p : Nat) : Prop where
  below : Below w.heap.size w W
  e0 : Db W w.heap.size false (.slice none 0 0) 0
  e1 : Db W (w.heap.size + 1) false (.slice none 0 0) 0
  rd : RD W R p
  hR : w.heap.size + 1 < R

theorem T2.later {w W W' : World} {R p : Nat} (h : T2 w W R p) (b : Below W.heap.size W W') : T2 w W' R p :=
  ⟨h.below.trans (b.mono h.below.size), h.e0.later b, h.e1.later b, h.rd.later b, h.hR⟩

theorem T2.alloc {w W : World} {R p : Nat} (h : T2 w W R p) (o : Obj) : T2 w (W.alloc o) R p := h.later ((Below.refl _ _).alloc (Nat.le_refl _) _)

theorem T2.grown {w W W' : World} {R p q : Nat} (h : T2 w W R p) (g : W.grownBy W' (some R)) (r : RD W' R q) : T2 w W' R q := by
  have hR := h.hR
  refine ⟨⟨g.os.trans h.below.os, g.tape.trans h.below.tape, g.output.trans h.below.output, Nat.le_trans h.below.size g.size, fun k hk => ?_⟩, h.e0.grown g (by omega), h.e1.grown g (by omega), r, hR⟩
  rw [g.block k (Nat.lt_of_lt_of_le hk h.below.size) (by intro e; simp at e; omega), h.below.block k hk]

theorem T2.start (w : World) : Below w.heap.size w ((w.alloc (.cells #[.bool false, .slice none 0 0, .int .i64 0] 27)).alloc (.cells #[.bool false, .slice none 0 0, .int .i64 0] 27)) ∧
    Db ((w.alloc (.cells #[.bool false, .slice none 0 0, .int .i64 0] 27)).alloc (.cells #[.bool false, .slice none 0 0, .int .i64 0] 27)) w.heap.size false (.slice none 0 0) 0 ∧
    Db ((w.alloc (.cells #[.bool false, .slice none 0 0, .int .i64 0] 27)).alloc (.cells #[.bool false, .slice none 0 0, .int .i64 0] 27)) (w.heap.size + 1) false (.slice none 0 0) 0 :=
  ⟨((Below.refl _ _).alloc (Nat.le_refl _) _).alloc (by simp) _, (Db.new w _ _ _).alloc _, by simpa using Db.new (w.alloc (.cells #[.bool false, .slice none 0 0, .int .i64 0] 27)) false (.slice none 0 0) 0⟩

/-- What a call answers that draws two decimals. -/
def DrawsTwoD (w : World) (e : Ending) (w' : World) : Prop :=
  ∃ (p q : Bool) (l m : List Int) (s t : Int) (aa : Option Addr) (ca : Nat) (ab : Option Addr) (cb : Nat), e = .returned (.tuple #[.agg #[.bool p, .slice aa l.length ca, .int .i64 s], .agg #[.bool q, .slice ab m.length cb, .int .i64 t]]) ∧
    Own w.heap.size w' (.slice aa l.length ca) l ∧ Own w.heap.size w' (.slice ab m.length cb) m ∧ Below w.heap.size w w'

/-- Handing both out. -/
theorem twoD_gives {w W : World} {B1 B2 : Nat} {p q : Bool} {l m : List Int} {s t : Int} {aa ab : Option Addr} {ca cb : Nat} (h : Below w.heap.size w W) (ha : Own B1 W (.slice aa l.length ca) l) (hb : Own B2 W (.slice ab m.length cb) m) (h1 : w.heap.size + 1 < B1) (h2 : w.heap.size + 1 < B2) :
    DrawsTwoD w (.returned (.tuple #[.agg #[.bool p, .slice aa l.length ca, .int .i64 s], .agg #[.bool q, .slice ab m.length cb, .int .i64 t]]))
      ((((((W.setCell ⟨w.heap.size, 0, none⟩ (.bool p)).setCell ⟨w.heap.size, 1, none⟩ (.slice aa l.length ca)).setCell ⟨w.heap.size, 2, none⟩ (.int .i64 s)).setCell ⟨w.heap.size + 1, 0, none⟩ (.bool q)).setCell ⟨w.heap.size + 1, 1, none⟩ (.slice ab m.length cb)).setCell ⟨w.heap.size + 1, 2, none⟩ (.int .i64 t)).drew := by
  refine ⟨p, q, l, m, s, t, aa, ca, ab, cb, rfl, ?_, ?_, ?_⟩
  · exact ((((((((ha.setBelow (by simp only; omega) _).setBelow (by simp only; omega) _).setBelow (by simp only; omega) _).setBelow (by simp only; omega) _).setBelow (by simp only; omega) _).setBelow (by simp only; omega) _)).later (Below.refl _ _).drew).mono (by omega)
  · exact ((((((((hb.setBelow (by simp only; omega) _).setBelow (by simp only; omega) _).setBelow (by simp only; omega) _).setBelow (by simp only; omega) _).setBelow (by simp only; omega) _).setBelow (by simp only; omega) _)).later (Below.refl _ _).drew).mono (by omega)
  · exact ((((((h.setCell (by simp) _).setCell (by simp) _).setCell (by simp) _).setCell (by simp) _).setCell (by simp) _).setCell (by simp) _).drew

/-- Handing both out, in the order of the text. -/
theorem twoD_gives2 {w W : World} {B1 B2 : Nat} {p q : Bool} {l m : List Int} {s t : Int} {aa ab : Option Addr} {ca cb : Nat} (h : Below w.heap.size w W) (ha : Own B1 W (.slice aa l.length ca) l) (hb : Own B2 W (.slice ab m.length cb) m) (h1 : w.heap.size + 1 < B1) (h2 : w.heap.size + 1 < B2) :
    DrawsTwoD w (.returned (.tuple #[.agg #[.bool p, .slice aa l.length ca, .int .i64 s], .agg #[.bool q, .slice ab m.length cb, .int .i64 t]]))
      ((((((W.setCell ⟨w.heap.size, 0, none⟩ (.bool p)).setCell ⟨w.heap.size, 1, none⟩ (.slice aa l.length ca)).setCell ⟨w.heap.size, 2, none⟩ (.int .i64 s)).setCell ⟨w.heap.size + 1, 0, none⟩ (.bool q)).setCell ⟨w.heap.size + 1, 1, none⟩ (.slice ab m.length cb)).setCell ⟨w.heap.size + 1, 2, none⟩ (.int .i64 t)) := by
  refine ⟨p, q, l, m, s, t, aa, ca, ab, cb, rfl, ?_, ?_, ?_⟩
  · exact ((((((((ha.setBelow (by simp only; omega) _).setBelow (by simp only; omega) _).setBelow (by simp only; omega) _).setBelow (by simp only; omega) _).setBelow (by simp only; omega) _).setBelow (by simp only; omega) _))).mono (by omega)
  · exact ((((((((hb.setBelow (by simp only; omega) _).setBelow (by simp only; omega) _).setBelow (by simp only; omega) _).setBelow (by simp only; omega) _).setBelow (by simp only; omega) _).setBelow (by simp only; omega) _))).mono (by omega)
  · exact ((((((h.setCell (by simp) _).setCell (by simp) _).setCell (by simp) _).setCell (by simp) _).setCell (by simp) _).setCell (by simp) _)

end Go.Proofs.YthnkmjkgcnhlfaaGreatDoor
