/- Boxes of decimals, as they lie. Two decimals are drawn: l14TwoDecs by a contract. Two decimals to divide, a scale and a way of rounding are drawn: DrawDecDiv by a contract. -/
import Derived.Test.YthnkmjkgcnhlfaaGreatDoorH08
import Derived.Test.YthnkmjkgcnhlfaaGreatDoorH18
import Derived.Test.YthnkmjkgcnhlfaaGreatDoorDcF
import Derived.Test.YthnkmjkgcnhlfaaGreatDoorRqR
import Derived.Test.YthnkmjkgcnhlfaaGreatDoorH06
import Derived.Deep.RegionHeld3
namespace Go.Proofs.YthnkmjkgcnhlfaaGreatDoor
open Go.RowKit

/-- A box that holds a decimal. -/
structure Db (w : World) (k : Nat) (p : Bool) (v : Value) (s : Int) : Prop where
  c0 : w.cell? ⟨k, 0, none⟩ = some (.bool p)
  c1 : w.cell? ⟨k, 1, none⟩ = some v
  c2 : w.cell? ⟨k, 2, none⟩ = some (.int .i64 s)
  f0 : w.frozen? ⟨k, 0, none⟩ = false
  f1 : w.frozen? ⟨k, 1, none⟩ = false
  f2 : w.frozen? ⟨k, 2, none⟩ = false
  lt : k < w.heap.size

theorem Db.ofBlock {w w' : World} {k : Nat} {p : Bool} {v : Value} {s : Int} (h : Db w k p v s) (hb : w'.heap[k]? = w.heap[k]?) (hs : w.heap.size ≤ w'.heap.size) : Db w' k p v s :=
  ⟨(World.cell?_of_block (w := w) (a := ⟨k, 0, none⟩) hb).trans h.c0, (World.cell?_of_block (w := w) (a := ⟨k, 1, none⟩) hb).trans h.c1, (World.cell?_of_block (w := w) (a := ⟨k, 2, none⟩) hb).trans h.c2,
    (World.frozen?_of_block (w := w) (a := ⟨k, 0, none⟩) hb).trans h.f0, (World.frozen?_of_block (w := w) (a := ⟨k, 1, none⟩) hb).trans h.f1, (World.frozen?_of_block (w := w) (a := ⟨k, 2, none⟩) hb).trans h.f2, Nat.lt_of_lt_of_le h.lt hs⟩

theorem Db.later {w w' : World} {k : Nat} {p : Bool} {v : Value} {s : Int} (h : Db w k p v s) (b : Below w.heap.size w w') : Db w' k p v s := h.ofBlock (b.block k h.lt) b.size

theorem Db.grown {w w' : World} {k R : Nat} {p : Bool} {v : Value} {s : Int} (h : Db w k p v s) (g : w.grownBy w' (some R)) (hk : k ≠ R) : Db w' k p v s := h.ofBlock (g.block k h.lt (by simpa using hk)) g.size

theorem Db.new (X : World) (p : Bool) (v : Value) (s : Int) : Db (X.alloc (.cells #[.bool p, v, .int .i64 s] 27)) X.heap.size p v s :=
  ⟨by go_simp, by go_simp, by go_simp, by go_simp, by go_simp, by go_simp, by simp⟩

theorem Db.alloc {w : World} {k : Nat} {p : Bool} {v : Value} {s : Int} (h : Db w k p v s) (o : Obj) : Db (w.alloc o) k p v s := h.later ((Below.refl _ _).alloc (Nat.le_refl _) _)

/-- The two places for what is handed out, made first, while a reader that was made later goes on. -/
structure T2 (w W : World) (R p : Nat) : Prop where
  below : Below w.heap.size w W
  e0 : Db W w.heap.size false (.slice none 0 0) 0
  e1 : Db W (w.heap.size + 1) false (.slice none 0 0) 0
  rd : RD W R p
  hR : w.heap.size + 1 < R

theorem T2.later {w W W' : World} {R p : Nat} (h : T2 w W R p) (b : Below W.heap.size W W') : T2 w W' R p :=
  ⟨h.below.trans (b.mono h.below.size), h.e0.later b, h.e1.later b, h.rd.later b, h.hR⟩

theorem T2.alloc {w W : World} {R p : Nat} (h : T2 w W R p) (o : Obj) : T2 w (W.alloc o) R p := h.later ((Below.refl _ _).alloc (Nat.le_refl _) _)

theorem T2.grown {w W W' : World} {R p q : Nat} (h : T2 w W R p) (g : W.grownBy W' (some R)) (r : RD W' R q) : T2 w W' R q := by
  have hR := h.hR
  refine ⟨⟨g.os.trans h.below.os, g.tape.trans h.below.tape, g.output.trans h.below.output, Nat.le_trans h.below.size g.size, fun k hk => ?_⟩, h.e0.grown g (by omega), h.e1.grown g (by omega), r, hR⟩
  rw [g.block k (Nat.lt_of_lt_of_le hk h.below.size) (by intro e; simp at e; omega), h.below.block k hk]

theorem T2.start (w : World) : Below w.heap.size w ((w.alloc (.cells #[.bool false, .slice none 0 0, .int .i64 0] 27)).alloc (.cells #[.bool false, .slice none 0 0, .int .i64 0] 27)) ∧
    Db ((w.alloc (.cells #[.bool false, .slice none 0 0, .int .i64 0] 27)).alloc (.cells #[.bool false, .slice none 0 0, .int .i64 0] 27)) w.heap.size false (.slice none 0 0) 0 ∧
    Db ((w.alloc (.cells #[.bool false, .slice none 0 0, .int .i64 0] 27)).alloc (.cells #[.bool false, .slice none 0 0, .int .i64 0] 27)) (w.heap.size + 1) false (.slice none 0 0) 0 :=
  ⟨((Below.refl _ _).alloc (Nat.le_refl _) _).alloc (by simp) _, (Db.new w _ _ _).alloc _, by simpa using Db.new (w.alloc (.cells #[.bool false, .slice none 0 0, .int .i64 0] 27)) false (.slice none 0 0) 0⟩

/-- What a call answers that draws two decimals. -/
def DrawsTwoD (w : World) (e : Ending) (w' : World) : Prop :=
  ∃ (p q : Bool) (l m : List Int) (s t : Int) (aa : Option Addr) (ca : Nat) (ab : Option Addr) (cb : Nat), e = .returned (.tuple #[.agg #[.bool p, .slice aa l.length ca, .int .i64 s], .agg #[.bool q, .slice ab m.length cb, .int .i64 t]]) ∧
    Own w.heap.size w' (.slice aa l.length ca) l ∧ Own w.heap.size w' (.slice ab m.length cb) m ∧ Below w.heap.size w w'

/-- Handing both out. -/
theorem twoD_gives {w W : World} {B1 B2 : Nat} {p q : Bool} {l m : List Int} {s t : Int} {aa ab : Option Addr} {ca cb : Nat} (h : Below w.heap.size w W) (ha : Own B1 W (.slice aa l.length ca) l) (hb : Own B2 W (.slice ab m.length cb) m) (h1 : w.heap.size + 1 < B1) (h2 : w.heap.size + 1 < B2) :
    DrawsTwoD w (.returned (.tuple #[.agg #[.bool p, .slice aa l.length ca, .int .i64 s], .agg #[.bool q, .slice ab m.length cb, .int .i64 t]]))
      ((((((W.setCell ⟨w.heap.size, 0, none⟩ (.bool p)).setCell ⟨w.heap.size, 1, none⟩ (.slice aa l.length ca)).setCell ⟨w.heap.size, 2, none⟩ (.int .i64 s)).setCell ⟨w.heap.size + 1, 0, none⟩ (.bool q)).setCell ⟨w.heap.size + 1, 1, none⟩ (.slice ab m.length cb)).setCell ⟨w.heap.size + 1, 2, none⟩ (.int .i64 t)).drew := by
  refine ⟨p, q, l, m, s, t, aa, ca, ab, cb, rfl, ?_, ?_, ?_⟩
  · exact ((((((((ha.setBelow (by simp only; omega) _).setBelow (by simp only; omega) _).setBelow (by simp only; omega) _).setBelow (by simp only; omega) _).setBelow (by simp only; omega) _).setBelow (by simp only; omega) _)).later (Below.refl _ _).drew).mono (by omega)
  · exact ((((((((hb.setBelow (by simp only; omega) _).setBelow (by simp only; omega) _).setBelow (by simp only; omega) _).setBelow (by simp only; omega) _).setBelow (by simp only; omega) _).setBelow (by simp only; omega) _)).later (Below.refl _ _).drew).mono (by omega)
  · exact ((((((h.setCell (by simp) _).setCell (by simp) _).setCell (by simp) _).setCell (by simp) _).setCell (by simp) _).setCell (by simp) _).drew

/-- Handing both out, in the order of the text. -/
theorem twoD_gives2 {w W : World} {B1 B2 : Nat} {p q : Bool} {l m : List Int} {s t : Int} {aa ab : Option Addr} {ca cb : Nat} (h : Below w.heap.size w W) (ha : Own B1 W (.slice aa l.length ca) l) (hb : Own B2 W (.slice ab m.length cb) m) (h1 : w.heap.size + 1 < B1) (h2 : w.heap.size + 1 < B2) :
    DrawsTwoD w (.returned (.tuple #[.agg #[.bool p, .slice aa l.length ca, .int .i64 s], .agg #[.bool q, .slice ab m.length cb, .int .i64 t]]))
      ((((((W.setCell ⟨w.heap.size, 0, none⟩ (.bool p)).setCell ⟨w.heap.size, 1, none⟩ (.slice aa l.length ca)).setCell ⟨w.heap.size, 2, none⟩ (.int .i64 s)).setCell ⟨w.heap.size + 1, 0, none⟩ (.bool q)).setCell ⟨w.heap.size + 1, 1, none⟩ (.slice ab m.length cb)).setCell ⟨w.heap.size + 1, 2, none⟩ (.int .i64 t)) := by
  refine ⟨p, q, l, m, s, t, aa, ca, ab, cb, rfl, ?_, ?_, ?_⟩
  · exact ((((((((ha.setBelow (by simp only; omega) _).setBelow (by simp only; omega) _).setBelow (by simp only; omega) _).setBelow (by simp only; omega) _).setBelow (by simp only; omega) _).setBelow (by simp only; omega) _))).mono (by omega)
  · exact ((((((((hb.setBelow (by simp only; omega) _).setBelow (by simp only; omega) _).setBelow (by simp only; omega) _).setBelow (by simp only; omega) _).setBelow (by simp only; omega) _).setBelow (by simp only; omega) _))).mono (by omega)
  · exact ((((((h.setCell (by simp) _).setCell (by simp) _).setCell (by simp) _).setCell (by simp) _).setCell (by simp) _).setCell (by simp) _)

end Go.Proofs.YthnkmjkgcnhlfaaGreatDoor

namespace Go.Proofs.YthnkmjkgcnhlfaaGreatDoor
open Go.RowKit
set_option maxRecDepth 100000

theorem l2Not_gen (w : World) (q : Bool) (v : Value) (l : List Int) (t : Int) (hv : Reads w v l) :
    Calls Tryz.prog 58 #[.agg #[.bool q, v, .int .i64 t]] w fun e w' => e = .returned (.agg #[.bool (!q && decide (0 < l.length)), v, .int .i64 t]) ∧ Below w.heap.size w w' := by
  obtain ⟨ao, b1, off, cap, rfl, hr0⟩ := id hv
  have h1 := hr0.le
  have h2 := hr0.big
  unfold maxLen at h2
  clear hr0 hv
  obtain ⟨r, hr⟩ : ∃ r, decide (0 < l.length) = r := ⟨_, rfl⟩
  have e1 : decide ((0 : Int) < l.length) = r := by rw [← hr]; exact decide_eq_decide.2 (by omega)
  rw [hr]
  generalize l.length = n at *
  cases q
  · go_enter Tryz.func58, Tryz.ntmps58
    go_wp2
    refine bodyPost_ret (v := .agg #[.bool r, .slice ao n cap, .int .i64 t]) (by simp [results, Tryz.results58, go_sem]) rfl ⟨by simp, ?_⟩
    exact ((Below.refl _ _).alloc (Nat.le_refl _) _).alloc (by simp) _
  · go_enter Tryz.func58, Tryz.ntmps58
    go_wp2
    refine bodyPost_ret (v := .agg #[.bool false, .slice ao n cap, .int .i64 t]) (by simp [results, Tryz.results58, go_sem]) rfl ⟨by simp, ?_⟩
    exact ((Below.refl _ _).alloc (Nat.le_refl _) _).alloc (by simp) _

/-- Another decimal in a box. -/
theorem Db.set {w : World} {k j : Nat} {p q : Bool} {v u : Value} {s t : Int} (h : Db w k p v s) (hj : k = j) : Db (((w.setCell ⟨j, 0, none⟩ (.bool q)).setCell ⟨j, 1, none⟩ u).setCell ⟨j, 2, none⟩ (.int .i64 t)) k q u t := by
  subst hj
  obtain ⟨c0, c1, c2, f0, f1, f2, lt⟩ := h
  exact ⟨by simp [go_sem, c0], by simp [go_sem, c1], by simp [go_sem, c2], by simp [f0], by simp [f1], by simp [f2], by simpa using lt⟩

theorem Db.other {w : World} {k j : Nat} {p q : Bool} {v u : Value} {s t : Int} (h : Db w k p v s) (hj : k ≠ j) : Db (((w.setCell ⟨j, 0, none⟩ (.bool q)).setCell ⟨j, 1, none⟩ u).setCell ⟨j, 2, none⟩ (.int .i64 t)) k p v s := by
  refine h.ofBlock ?_ (by simp)
  rw [Below.heap_setCell _ _ _ _ (by exact hj), Below.heap_setCell _ _ _ _ (by exact hj), Below.heap_setCell _ _ _ _ (by exact hj)]

theorem cell_out3 {w : World} {k i j : Nat} {v : Value} (h : w.cell? ⟨k, i, none⟩ = some v) (hj : k ≠ j) (a b c : Value) : (((w.setCell ⟨j, 0, none⟩ a).setCell ⟨j, 1, none⟩ b).setCell ⟨j, 2, none⟩ c).cell? ⟨k, i, none⟩ = some v := by
  refine (World.cell?_of_block (w := w) (a := ⟨k, i, none⟩) ?_).trans h
  rw [Below.heap_setCell _ _ _ _ (by exact hj), Below.heap_setCell _ _ _ _ (by exact hj), Below.heap_setCell _ _ _ _ (by exact hj)]

theorem cells_out3 {w : World} {k j : Nat} {u v x : Value} (h : w.cell? ⟨k, 0, none⟩ = some u ∧ w.cell? ⟨k, 1, none⟩ = some v ∧ w.cell? ⟨k, 2, none⟩ = some x) (hj : k ≠ j) (a b c : Value) :
    (((w.setCell ⟨j, 0, none⟩ a).setCell ⟨j, 1, none⟩ b).setCell ⟨j, 2, none⟩ c).cell? ⟨k, 0, none⟩ = some u ∧ (((w.setCell ⟨j, 0, none⟩ a).setCell ⟨j, 1, none⟩ b).setCell ⟨j, 2, none⟩ c).cell? ⟨k, 1, none⟩ = some v ∧ (((w.setCell ⟨j, 0, none⟩ a).setCell ⟨j, 1, none⟩ b).setCell ⟨j, 2, none⟩ c).cell? ⟨k, 2, none⟩ = some x :=
  ⟨cell_out3 h.1 hj a b c, cell_out3 h.2.1 hj a b c, cell_out3 h.2.2 hj a b c⟩

set_option maxHeartbeats 4000000 in
theorem twoDecs_any (w : World) (v : Value) (h : Byt w v) : Calls Tryz.prog 45 #[v] w (DrawsTwoD w) := by
  obtain ⟨B0, E0, E1⟩ := T2.start w
  have C0 := hide (l1Open_any _ v (h.later B0))
  have hsz : ((w.alloc (.cells #[.bool false, .slice none 0 0, .int .i64 0] 27)).alloc (.cells #[.bool false, .slice none 0 0, .int .i64 0] 27)).heap.size = w.heap.size + 1 + 1 := by simp
  clear h
  go_enter Tryz.func45, Tryz.ntmps45
  go_wp2_with fail
  refine (unhide C0).mono ?_
  rintro e w1 ⟨rfl, r1, b1, z1⟩
  rw [hsz] at r1
  have K1 : T2 w w1 (w.heap.size + 1 + 1) 0 := ⟨B0.trans (b1.mono B0.size), E0.later b1, E1.later b1, r1, by omega⟩
  simp only [hsz]
  clear C0 B0 E0 E1 b1 r1 z1 hsz
  generalize hR : w.heap.size + 1 + 1 = R at *
  clear hR
  go_wp2_with fail
  refine (l14AnyDec_any w1 R 0 K1.rd (by omega)).mono ?_
  rintro e w2 ⟨p, l, s, aa, ca, n2, rfl, hl, oa, r2, hn2, g2⟩
  have K2 := (K1.grown g2 r2).alloc (.cells #[.bool p, .slice aa l.length ca, .int .i64 s] 27)
  have DA := Db.new w2 p (.slice aa l.length ca) s
  have oA := oa.later ((Below.refl _ _).alloc (Nat.le_refl _) (.cells #[.bool p, .slice aa l.length ca, .int .i64 s] 27))
  have hR1 := K1.rd.lt
  have hR2 : R < w2.heap.size := Nat.lt_of_lt_of_le hR1 g2.size
  generalize w1.heap.size = B1 at *
  clear K1 r2 g2
  go_wp2_with fail
  refine (l14AnyDec_any _ R n2 K2.rd (by omega)).mono ?_
  generalize hA : w2.heap.size = A at *
  rintro e w3 ⟨q, m, t, ab, cb, n3, rfl, hm, ob, r3, hn3, g3⟩
  have hA3 : A < w3.heap.size := by have := g3.size; simp at this; omega
  simp only [World.size_alloc] at ob
  have K3 := (K2.grown g3 r3).alloc (.cells #[.bool q, .slice ab m.length cb, .int .i64 t] 27)
  have DA3 := (DA.grown g3 (by omega)).alloc (.cells #[.bool q, .slice ab m.length cb, .int .i64 t] 27)
  have oA3 := (oA.grown g3 (by omega)).later ((Below.refl _ _).alloc (Nat.le_refl _) (.cells #[.bool q, .slice ab m.length cb, .int .i64 t] 27))
  have DB3 := Db.new w3 q (.slice ab m.length cb) t
  have oB3 := (ob.later ((Below.refl _ _).alloc (Nat.le_refl _) (.cells #[.bool q, .slice ab m.length cb, .int .i64 t] 27))).mono (show R + 1 ≤ w2.heap.size + 1 by omega)
  have oA3l : ∀ j, (Value.slice aa l.length ca).ownBlock = some j → j < A := fun j e => by have := (oa.lt _ e).2; omega
  have oA3 := oA3.mono (show R + 1 ≤ B1 by omega)
  clear K2 DA oA oa ob r3 g3
  generalize hB : w3.heap.size = B at *
  have hzB := DB3.lt
  go_wp2_with fail
  generalize w3.alloc (.cells #[.bool q, .slice ab m.length cb, .int .i64 t] 27) = W3 at *
  refine (pick_any _ R n3 6 K3.rd (by omega) (by omega) (by omega)).mono ?_
  rintro e w4 ⟨x, rfl, hx, r4, g4⟩
  have K4 := K3.grown g4 r4
  have DA4 := DA3.grown g4 (by omega)
  have DB4 := DB3.grown g4 (by omega)
  have oA4 := oA3.grown g4 (by omega)
  have oB4 := oB3.grown g4 (by omega)
  clear K3 DA3 DB3 oA3 oB3 r4 g4
  by_cases x0 : x = 0
  · subst x0
    have CN := hide (l2Not_gen w4 p (.slice aa l.length ca) l s oA4.reads)
    obtain ⟨a0, a1, a2, -, -, -, al⟩ := id DA4
    go_wp2_with fail
    refine (unhide CN).mono ?_
    rintro e w5 ⟨rfl, b5⟩
    have K5 := K4.later b5
    have oA5 := oA4.later b5
    have DA5 := DA4.later b5
    have DB5 := DB4.later b5
    clear CN a0 a1 a2 al K4 DA4 DB4 oA4 oB4 b5
    generalize (!p && decide (0 < l.length)) = np at *
    have hR0 := K5.hR
    have DB6 := DB5.set (q := np) (u := .slice aa l.length ca) (t := s) (j := B) rfl
    have DA6 := DA5.other (q := np) (u := .slice aa l.length ca) (t := s) (j := B) (by omega)
    have E0 := K5.e0.other (q := np) (u := .slice aa l.length ca) (t := s) (j := B) (by omega)
    have E1 := K5.e1.other (q := np) (u := .slice aa l.length ca) (t := s) (j := B) (by omega)
    obtain ⟨b0, b1, b2, bf0, bf1, bf2, bl⟩ := id DB5
    have bel6 : Below w.heap.size w (((w5.setCell ⟨B, 0, none⟩ (.bool np)).setCell ⟨B, 1, none⟩ (.slice aa l.length ca)).setCell ⟨B, 2, none⟩ (.int .i64 s)) := ((K5.below.setCell (by simp only; omega) _).setCell (by simp only; omega) _).setCell (by simp only; omega) _
    have nb : ∀ j, (Value.slice aa l.length ca).ownBlock = some j → j < A := fun j e => by have := oA3l j e; omega
    have oA6 : Own (R + 1) (((w5.setCell ⟨B, 0, none⟩ (.bool np)).setCell ⟨B, 1, none⟩ (.slice aa l.length ca)).setCell ⟨B, 2, none⟩ (.int .i64 s)) (.slice aa l.length ca) l := ((oA5.setOther (by intro e; have := nb _ e; simp only at this; omega) _).setOther (by intro e; have := nb _ e; simp only at this; omega) _).setOther (by intro e; have := nb _ e; simp only at this; omega) _
    go_wp2_with fail
    clear DA5 DB5 oA5 K5
    generalize ((w5.setCell ⟨B, 0, none⟩ (.bool np)).setCell ⟨B, 1, none⟩ (.slice aa l.length ca)).setCell ⟨B, 2, none⟩ (.int .i64 s) = W6 at *
    have N0 : w.heap.size ≠ A := by omega
    have N1 : w.heap.size + 1 ≠ A := by omega
    have N2 : w.heap.size ≠ B := by omega
    have N3 : w.heap.size + 1 ≠ B := by omega
    obtain ⟨a0, a1, a2, -, -, -, al⟩ := id DA6
    obtain ⟨b0, b1, b2, -, -, -, bl⟩ := id DB6
    obtain ⟨c0, c1, c2, cf0, cf1, cf2, cl⟩ := id E0
    obtain ⟨d0, d1, d2, df0, df1, df2, dl⟩ := id E1
    go_region
    go_wp2
    refine bodyPost_ret (v := .tuple #[.agg #[.bool p, .slice aa l.length ca, .int .i64 s], .agg #[.bool np, .slice aa l.length ca, .int .i64 s]]) (by simp [results, Tryz.results45, go_sem, c0, c1, c2, d0, d1, d2]) rfl ?_
    exact twoD_gives bel6 oA6 oA6 (by omega) (by omega)
  have x0' : ((x : Int) == 0) = false := by rw [beq_eq_false_iff_ne]; omega
  have hR0 := K4.hR
  have N0 : w.heap.size ≠ A := by omega
  have N1 : w.heap.size + 1 ≠ A := by omega
  have N2 : w.heap.size ≠ B := by omega
  have N3 : w.heap.size + 1 ≠ B := by omega
  by_cases x1 : x = 1
  · subst x1
    clear x0 x0'
    go_wp2_with fail
    refine (l14Dec_any w4 R _ K4.rd (by omega)).mono ?_
    rintro e w5 ⟨z, sc, ac, cc, n5, rfl, hz, hsc, oc, r5, hn5, g5⟩
    have K5 := K4.grown g5 r5
    have DA5 := DA4.grown g5 (by omega)
    have DB5 := DB4.grown g5 (by omega)
    have oA5 := oA4.grown g5 (by omega)
    have oB5 := oB4.grown g5 (by omega)
    have z45 := g5.size
    have zB4 := DB4.lt
    have la : z.natAbs < 10000 ^ 16 := L_len_iff.1 hz
    have hw5 : w.heap.size + 1 < w5.heap.size := by omega
    have HW5 := hide hw5
    clear hw5
    have CR := hide (l2Round_any w5 (sg z) (.slice ac (L z.natAbs).length cc) z.natAbs sc 12 2 oc.reads (by omega) (by omega) (by omega) (by omega) (by omega) (by omega) la (by rw [zof_sg_abs]))
    clear K4 DA4 DB4 oA4 oB4 r5 g5
    generalize resZ (zof (sg z) (z.natAbs * 10 ^ (12 - (sc : Int)).toNat)) (10 ^ ((sc : Int) - 12).toNat) 2 = X at *
    go_wp2_with fail
    by_cases hf : (txtL (L X.natAbs)).length ≤ 30
    · rw [show dmake X 12 = (sg X, L X.natAbs, 12, 0) by unfold dmake; rw [if_pos hf]] at CR
      have fx : X.natAbs < 10000 ^ 16 := L_len_iff.1 (by have := txtL_short _ (L_lim X.natAbs); omega)
      refine (unhide CR).mono ?_
      rintro e w6 ⟨ax, cx, rfl, ox, b6⟩
      simp only at ox ⊢
      have K6 := (K5.later b6).alloc (.cells #[.bool (sg X), .slice ax (L X.natAbs).length cx, .int .i64 12] 27)
      have DX := Db.new w6 (sg X) (.slice ax (L X.natAbs).length cx) 12
      have oX := ox.later ((Below.refl _ _).alloc (Nat.le_refl _) (.cells #[.bool (sg X), .slice ax (L X.natAbs).length cx, .int .i64 12] 27))
      have z56 := b6.size
      clear CR K5 ox b6 DA5 DB5 oA5 oB5 oc
      have z6 : w6.heap.size < (w6.alloc (.cells #[.bool (sg X), .slice ax (L X.natAbs).length cx, .int .i64 12] 27)).heap.size := by simp
      have hox : w5.heap.size ≤ w6.heap.size := z56
      generalize hXB : w6.heap.size = XB at *
      have nX1 : w.heap.size ≠ XB := by omega
      have nX2 : w.heap.size + 1 ≠ XB := by omega
      go_wp2_with fail
      generalize w6.alloc (.cells #[.bool (sg X), .slice ax (L X.natAbs).length cx, .int .i64 12] 27) = W6 at *
      have CT0 : ∀ W, Below W6.heap.size W6 W → Calls Tryz.prog 80 #[.agg #[.bool (sg X), .slice ax (L X.natAbs).length cx, .int .i64 12]] W (GivesDec W (sg X) (L (trimN X.natAbs 12).1) ((trimN X.natAbs 12).2 : Int)) := fun W k => l2Trim_any W (sg X) (.slice ax (L X.natAbs).length cx) X.natAbs 12 (oX.later k).reads (by omega) fx
      generalize L (trimN X.natAbs 12).1 = tl at CT0
      generalize ((trimN X.natAbs 12).2 : Int) = ts at CT0
      have CT := hide CT0
      clear CT0 hf fx
      generalize sg X = gx at *
      generalize L X.natAbs = lx at *
      have stabP : ∀ w' : World, Below W6.heap.size W6 w' → (w'.cell? ⟨XB, 0, none⟩ = some (.bool (gx)) ∧ w'.cell? ⟨XB, 1, none⟩ = some (.slice ax (lx).length cx) ∧ w'.cell? ⟨XB, 2, none⟩ = some (.int .i64 12)) := fun w' h => ⟨(DX.later h).c0, (DX.later h).c1, (DX.later h).c2⟩
      have StabP := hide stabP
      have HN1 := hide nX1
      have HN2 := hide nX2
      clear stabP nX1 nX2
      have BE := hide (K6.below)
      have EE0 := hide (fun (w' : World) (h : Below W6.heap.size W6 w') => (K6.later h).e0)
      have EE1 := hide (fun (w' : World) (h : Below W6.heap.size W6 w') => (K6.later h).e1)
      have N01 : w.heap.size ≠ w.heap.size + 1 := by omega
      have N10 : w.heap.size + 1 ≠ w.heap.size := by omega
      have HR0 := hide hR0
      clear K6 N0 N1 N2 N3 hR0
      generalize hb1 : w.heap.size + 1 = b1 at *
      generalize hb0 : w.heap.size = b0 at *
      have HB0 := hide hb0
      have HB1 := hide hb1
      clear hb0 hb1
      go_region_held3 (fun w' => w'.cell? ⟨XB, 0, none⟩ = some (.bool (gx)) ∧ w'.cell? ⟨XB, 1, none⟩ = some (.slice ax (lx).length cx) ∧ w'.cell? ⟨XB, 2, none⟩ = some (.int .i64 12))
        (((repeat' with_reducible refine cells_out3 ?_ (by first | exact (unhide HN1).symm | exact (unhide HN2).symm) _ _ _); with_reducible refine unhide StabP _ ?_; (first | with_reducible assumption | exact (Below.refl _ _).drew)))
        (first | (go_at_call 80; refine (unhide CT _ ?_).mono ?_; exact (Below.refl _ _).drew; rintro e w8 ⟨ay, cy, rfl, oy0, b8⟩; have oy := oy0.mono (B' := W6.heap.size) (by exact Nat.le_refl _); have BX : Below W6.heap.size W6 w8 := (Below.refl _ _).drew.trans b8; obtain ⟨c0, c1, c2, cf0, cf1, cf2, cl⟩ := unhide EE0 _ BX; obtain ⟨d0, d1, d2, df0, df1, df2, dl⟩ := unhide EE1 _ BX))
      have oX8 := oX.later BX
      have z68 := BX.size
      obtain ⟨c0, c1, c2, -, -, -, -⟩ := unhide EE0 _ BX
      obtain ⟨d0, d1, d2, -, -, -, -⟩ := unhide EE1 _ BX
      have hR0 := unhide HR0
      obtain rfl := unhide HB0
      obtain rfl := unhide HB1
      have K8 := (unhide BE).trans (BX.mono (unhide BE).size)
      have hw5 := unhide HW5
      go_wp2
      refine bodyPost_ret (v := .tuple #[.agg #[.bool gx, .slice ay tl.length cy, .int .i64 ts], .agg #[.bool gx, .slice ax lx.length cx, .int .i64 12]]) (by simp [results, Tryz.results45, go_sem, c0, c1, c2, d0, d1, d2]) rfl ?_
      exact twoD_gives2 K8 oy oX8 (by omega) hw5
    · rw [show dmake X 12 = (false, [], 0, 3) by unfold dmake; rw [if_neg hf]] at CR
      refine (unhide CR).mono ?_
      rintro e w6 ⟨ax, cx, rfl, ox, b6⟩
      simp only at ox ⊢
      have K6 := (K5.later b6).alloc (.cells #[.bool false, .slice ax ([] : List Int).length cx, .int .i64 0] 27)
      have DA6 := (DA5.later b6).alloc (.cells #[.bool false, .slice ax ([] : List Int).length cx, .int .i64 0] 27)
      have DB6 := (DB5.later b6).alloc (.cells #[.bool false, .slice ax ([] : List Int).length cx, .int .i64 0] 27)
      have oA6 := (oA5.later b6).later ((Below.refl _ _).alloc (Nat.le_refl _) (.cells #[.bool false, .slice ax ([] : List Int).length cx, .int .i64 0] 27))
      have oB6 := (oB5.later b6).later ((Below.refl _ _).alloc (Nat.le_refl _) (.cells #[.bool false, .slice ax ([] : List Int).length cx, .int .i64 0] 27))
      clear CR K5 ox b6 DA5 DB5 oA5 oB5 oc
      go_wp2_with fail
      generalize w6.alloc (.cells #[.bool false, .slice ax ([] : List Int).length cx, .int .i64 0] 27) = W6 at *
      obtain ⟨-, E0, E1, -, -⟩ := id K6
      obtain ⟨a0, a1, a2, -, -, -, al⟩ := id DA6
      obtain ⟨b0, b1, b2, -, -, -, bl⟩ := id DB6
      obtain ⟨c0, c1, c2, cf0, cf1, cf2, cl⟩ := id E0
      obtain ⟨d0, d1, d2, df0, df1, df2, dl⟩ := id E1
      go_region
      go_wp2
      refine bodyPost_ret (v := .tuple #[.agg #[.bool p, .slice aa l.length ca, .int .i64 s], .agg #[.bool q, .slice ab m.length cb, .int .i64 t]]) (by simp [results, Tryz.results45, go_sem, c0, c1, c2, d0, d1, d2]) rfl ?_
      exact twoD_gives K6.below oA6 oB6 (by omega) (by omega)
  · have x1' : ((x : Int) == 1) = false := by rw [beq_eq_false_iff_ne]; omega
    obtain ⟨-, E0, E1, -, -⟩ := id K4
    go_wp2_with fail
    obtain ⟨a0, a1, a2, -, -, -, al⟩ := id DA4
    obtain ⟨b0, b1, b2, -, -, -, bl⟩ := id DB4
    obtain ⟨c0, c1, c2, cf0, cf1, cf2, cl⟩ := id E0
    obtain ⟨d0, d1, d2, df0, df1, df2, dl⟩ := id E1
    go_region
    go_wp2
    refine bodyPost_ret (v := .tuple #[.agg #[.bool p, .slice aa l.length ca, .int .i64 s], .agg #[.bool q, .slice ab m.length cb, .int .i64 t]]) (by simp [results, Tryz.results45, go_sem, c0, c1, c2, d0, d1, d2]) rfl ?_
    exact twoD_gives K4.below oA4 oB4 (by omega) (by omega)

end Go.Proofs.YthnkmjkgcnhlfaaGreatDoor

namespace Go.Proofs.YthnkmjkgcnhlfaaGreatDoor
open Go.RowKit
set_option maxRecDepth 100000
set_option linter.unusedSimpArgs false

/-- What a call answers that draws two decimals, a scale and a way of rounding. -/
def DrawsDiv (w : World) (e : Ending) (w' : World) : Prop :=
  ∃ (p q : Bool) (l m : List Int) (s t sc md : Int) (aa : Option Addr) (ca : Nat) (ab : Option Addr) (cb : Nat), e = .returned (.tuple #[.agg #[.bool p, .slice aa l.length ca, .int .i64 s], .agg #[.bool q, .slice ab m.length cb, .int .i64 t], .int .i64 sc, .int .i64 md]) ∧
    Own w.heap.size w' (.slice aa l.length ca) l ∧ Own w.heap.size w' (.slice ab m.length cb) m ∧ Below w.heap.size w w'

theorem cells_out6 {w : World} {a b j : Nat} {u v x u' v' x' : Value} (h : w.cell? ⟨a, 0, none⟩ = some u ∧ w.cell? ⟨a, 1, none⟩ = some v ∧ w.cell? ⟨a, 2, none⟩ = some x ∧ w.cell? ⟨b, 0, none⟩ = some u' ∧ w.cell? ⟨b, 1, none⟩ = some v' ∧ w.cell? ⟨b, 2, none⟩ = some x') (ha : a ≠ j) (hb : b ≠ j) (y1 y2 y3 : Value) :
    (((w.setCell ⟨j, 0, none⟩ y1).setCell ⟨j, 1, none⟩ y2).setCell ⟨j, 2, none⟩ y3).cell? ⟨a, 0, none⟩ = some u ∧ (((w.setCell ⟨j, 0, none⟩ y1).setCell ⟨j, 1, none⟩ y2).setCell ⟨j, 2, none⟩ y3).cell? ⟨a, 1, none⟩ = some v ∧ (((w.setCell ⟨j, 0, none⟩ y1).setCell ⟨j, 1, none⟩ y2).setCell ⟨j, 2, none⟩ y3).cell? ⟨a, 2, none⟩ = some x ∧
      (((w.setCell ⟨j, 0, none⟩ y1).setCell ⟨j, 1, none⟩ y2).setCell ⟨j, 2, none⟩ y3).cell? ⟨b, 0, none⟩ = some u' ∧ (((w.setCell ⟨j, 0, none⟩ y1).setCell ⟨j, 1, none⟩ y2).setCell ⟨j, 2, none⟩ y3).cell? ⟨b, 1, none⟩ = some v' ∧ (((w.setCell ⟨j, 0, none⟩ y1).setCell ⟨j, 1, none⟩ y2).setCell ⟨j, 2, none⟩ y3).cell? ⟨b, 2, none⟩ = some x' :=
  ⟨cell_out3 h.1 ha _ _ _, cell_out3 h.2.1 ha _ _ _, cell_out3 h.2.2.1 ha _ _ _, cell_out3 h.2.2.2.1 hb _ _ _, cell_out3 h.2.2.2.2.1 hb _ _ _, cell_out3 h.2.2.2.2.2 hb _ _ _⟩

/-- Handing all four out. -/
theorem divD_gives {w W : World} {B1 B2 : Nat} {p q : Bool} {l m : List Int} {s t sc md : Int} {aa ab : Option Addr} {ca cb : Nat} (h : Below w.heap.size w W) (ha : Own B1 W (.slice aa l.length ca) l) (hb : Own B2 W (.slice ab m.length cb) m) (h1 : w.heap.size + 1 < B1) (h2 : w.heap.size + 1 < B2) :
    DrawsDiv w (.returned (.tuple #[.agg #[.bool p, .slice aa l.length ca, .int .i64 s], .agg #[.bool q, .slice ab m.length cb, .int .i64 t], .int .i64 sc, .int .i64 md]))
      ((((((W.setCell ⟨w.heap.size, 0, none⟩ (.bool p)).setCell ⟨w.heap.size, 1, none⟩ (.slice aa l.length ca)).setCell ⟨w.heap.size, 2, none⟩ (.int .i64 s)).setCell ⟨w.heap.size + 1, 0, none⟩ (.bool q)).setCell ⟨w.heap.size + 1, 1, none⟩ (.slice ab m.length cb)).setCell ⟨w.heap.size + 1, 2, none⟩ (.int .i64 t)) := by
  refine ⟨p, q, l, m, s, t, sc, md, aa, ca, ab, cb, rfl, ?_, ?_, ?_⟩
  · exact ((((((((ha.setBelow (by simp only; omega) _).setBelow (by simp only; omega) _).setBelow (by simp only; omega) _).setBelow (by simp only; omega) _).setBelow (by simp only; omega) _).setBelow (by simp only; omega) _))).mono (by omega)
  · exact ((((((((hb.setBelow (by simp only; omega) _).setBelow (by simp only; omega) _).setBelow (by simp only; omega) _).setBelow (by simp only; omega) _).setBelow (by simp only; omega) _).setBelow (by simp only; omega) _))).mono (by omega)
  · exact ((((((h.setCell (by simp) _).setCell (by simp) _).setCell (by simp) _).setCell (by simp) _).setCell (by simp) _).setCell (by simp) _)

set_option maxHeartbeats 4000000 in
theorem drawDecDiv_any (w : World) (v : Value) (h : Byt w v) : Calls Tryz.prog 28 #[v] w (DrawsDiv w) := by
  obtain ⟨B0, E0, E1⟩ := T2.start w
  have C0 := hide (l1Open_any _ v (h.later B0))
  have hsz : ((w.alloc (.cells #[.bool false, .slice none 0 0, .int .i64 0] 27)).alloc (.cells #[.bool false, .slice none 0 0, .int .i64 0] 27)).heap.size = w.heap.size + 1 + 1 := by simp
  clear h
  go_enter Tryz.func28, Tryz.ntmps28
  go_wp2_with fail
  refine (unhide C0).mono ?_
  rintro e w1 ⟨rfl, r1, b1, z1⟩
  rw [hsz] at r1
  have K1 : T2 w w1 (w.heap.size + 1 + 1) 0 := ⟨B0.trans (b1.mono B0.size), E0.later b1, E1.later b1, r1, by omega⟩
  simp only [hsz]
  clear C0 B0 E0 E1 b1 r1 z1 hsz
  generalize hR : w.heap.size + 1 + 1 = R at *
  clear hR
  go_wp2_with fail
  refine (l14AnyDec_any w1 R 0 K1.rd (by omega)).mono ?_
  rintro e w2 ⟨p, l, s, aa, ca, n2, rfl, hl, oa, r2, hn2, g2⟩
  have K2 := (K1.grown g2 r2).alloc (.cells #[.bool p, .slice aa l.length ca, .int .i64 s] 27)
  have DA := Db.new w2 p (.slice aa l.length ca) s
  have oA := oa.later ((Below.refl _ _).alloc (Nat.le_refl _) (.cells #[.bool p, .slice aa l.length ca, .int .i64 s] 27))
  have hnb : ∀ j, (Value.slice aa l.length ca).ownBlock = some j → j < w2.heap.size := fun j e => (oa.lt _ e).2
  have hR1 := K1.rd.lt
  have hR2 : R < w2.heap.size := Nat.lt_of_lt_of_le hR1 g2.size
  generalize w1.heap.size = B1 at *
  clear K1 r2 g2
  have C2 := fun cs h => one_lit (w2.alloc (.cells #[.bool p, .slice aa l.length ca, .int .i64 s] 27)) R n2 [0, 1, 2, 3, 4, 7, 8, 9, 10, 100, -2, -3, -8, 1000000] cs h K2.rd (by omega) (by simp) (by simp)
  simp only [World.size_alloc] at C2
  have C2 := hide C2
  go_wp2_with fail
  refine (unhide C2 _ rfl).mono ?_
  rintro e w3 ⟨x1, rfl, hx1, r3, g3⟩
  have hxb : -9223372036854775808 ≤ x1 ∧ x1 ≤ 9223372036854775807 := by
    simp only [List.mem_cons, List.not_mem_nil, or_false] at hx1
    omega
  have K3 := K2.grown g3 r3
  have DA3 := DA.grown g3 (by omega)
  have oA3 := oA.grown g3 (by omega)
  have z3 := g3.size
  simp only [World.size_alloc] at z3
  generalize hA : w2.heap.size = A at *
  clear C2 hx1 K2 DA oA oa g3 r3 hA
  go_wp2_with fail
  refine (specBigOf_any _ x1 hxb.1 hxb.2).mono ?_
  rintro e w4 ⟨ab, cb, rfl, ob, k4⟩
  have K4 := K3.later k4
  have DA4 := DA3.later k4
  have oA4 := oA3.later k4
  have z4 := k4.size
  simp only [ofR] at ob ⊢
  clear K3 DA3 oA3 k4 hxb
  generalize sg x1 = q0 at *
  generalize L x1.natAbs = m0 at *
  go_wp2_with fail
  refine (pick_any _ R _ 4 K4.rd (by omega) (by omega) (by omega)).mono ?_
  rintro e w5 ⟨y, rfl, hy, r5, g5⟩
  have K5 := (K4.grown g5 r5).alloc (.cells #[.bool q0, .slice ab m0.length cb, .int .i64 y] 27)
  have DA5 := (DA4.grown g5 (by omega)).alloc (.cells #[.bool q0, .slice ab m0.length cb, .int .i64 y] 27)
  have oA5 := (oA4.grown g5 (by omega)).later ((Below.refl _ _).alloc (Nat.le_refl _) (.cells #[.bool q0, .slice ab m0.length cb, .int .i64 y] 27))
  have DB5 := Db.new w5 q0 (.slice ab m0.length cb) y
  have oB5 := (ob.grown g5 (by omega)).later ((Below.refl _ _).alloc (Nat.le_refl _) (.cells #[.bool q0, .slice ab m0.length cb, .int .i64 y] 27))
  have oB5 := oB5.mono (show R + 1 ≤ w3.heap.size by omega)
  have oA5 := oA5.mono (show R + 1 ≤ B1 by omega)
  have z5 := g5.size
  clear K4 DA4 oA4 ob g5 r5
  generalize hB : w5.heap.size = B at *
  have hAB : A < B := by omega
  have hRA : R < A := hR2
  go_wp2_with fail
  generalize w5.alloc (.cells #[.bool q0, .slice ab m0.length cb, .int .i64 y] 27) = W5 at *
  refine (pick_any _ R _ 3 K5.rd (by omega) (by omega) (by omega)).mono ?_
  rintro e w6 ⟨x3, rfl, hx3, r6, g6⟩
  have K6 := K5.grown g6 r6
  have DA6 := DA5.grown g6 (by omega)
  have DB6 := DB5.grown g6 (by omega)
  have oA6 := oA5.grown g6 (by omega)
  have oB6 := oB5.grown g6 (by omega)
  have hR0 := K6.hR
  clear K5 DA5 DB5 oA5 oB5 r6 g6
  by_cases x0 : x3 = 0
  case neg =>
    have x0' : ((x3 : Int) == 0) = false := by rw [beq_eq_false_iff_ne]; omega
    clear x0
    have hn := K6.rd
    have hz0 := DA6.lt
    have hz1 := DB6.lt
    have Stab := hide (fun (w' : World) (hA : Db w' A p (.slice aa l.length ca) s) (hB : Db w' B q0 (.slice ab m0.length cb) y) => (⟨hA.c0, hA.c1, hA.c2, hB.c0, hB.c1, hB.c2⟩ : w'.cell? ⟨A, 0, none⟩ = some (.bool p) ∧ w'.cell? ⟨A, 1, none⟩ = some (.slice aa l.length ca) ∧ w'.cell? ⟨A, 2, none⟩ = some (.int .i64 s) ∧ w'.cell? ⟨B, 0, none⟩ = some (.bool q0) ∧ w'.cell? ⟨B, 1, none⟩ = some (.slice ab m0.length cb) ∧ w'.cell? ⟨B, 2, none⟩ = some (.int .i64 y)))
    have hRR := K6.hR
    have N0 : A ≠ w.heap.size := by omega
    have N1 : A ≠ w.heap.size + 1 := by omega
    have N2 : B ≠ w.heap.size := by omega
    have N3 : B ≠ w.heap.size + 1 := by omega
    have K7 := K6.later (Below.refl _ _).drew
    have DA7 := DA6.later (Below.refl _ _).drew
    have DB7 := DB6.later (Below.refl _ _).drew
    have oA7 := oA6.later (Below.refl _ _).drew
    have oB7 := oB6.later (Below.refl _ _).drew
    clear K6 DA6 DB6 oA6 oB6 hn hz0 hz1
    go_wp2
    go_region_held3 (fun w' => w'.cell? ⟨A, 0, none⟩ = some (.bool p) ∧ w'.cell? ⟨A, 1, none⟩ = some (.slice aa l.length ca) ∧ w'.cell? ⟨A, 2, none⟩ = some (.int .i64 s) ∧ w'.cell? ⟨B, 0, none⟩ = some (.bool q0) ∧ w'.cell? ⟨B, 1, none⟩ = some (.slice ab m0.length cb) ∧ w'.cell? ⟨B, 2, none⟩ = some (.int .i64 y))
      (((repeat' with_reducible refine cells_out6 ?_ (by assumption) (by assumption) _ _ _); first | with_reducible exact unhide Stab _ DA7 DB7 | with_reducible exact unhide Stab _ DA20 DB20 | with_reducible exact unhide Stab _ (DA20.alloc _) (DB20.alloc _) | with_reducible exact unhide Stab _ DA21 DB21 | with_reducible exact unhide Stab _ DA22 DB22))
      (first
        | (go_at_call_of 60 (Value.int IntKind.i64 15); refine (pick_any _ R _ 15 K7.rd (by omega) (by omega) (by omega)).mono ?_; rintro e w20 ⟨x4, rfl, hx4, r20, g20⟩; have K20 := K7.grown g20 r20; have oA20 := oA7.grown g20 (by omega); have oB20 := oB7.grown g20 (by omega); have DA20 := DA7.grown g20 (by omega); have DB20 := DB7.grown g20 (by omega))
        | (go_at_call 68; refine (one_lit w20 R _ [0, 1, 2, 6, 12, IntKind.i64.wrap ((x4 : Int) - 1)] _ rfl K20.rd (by omega) (by simp) (by simp)).mono ?_; rintro e w21 ⟨sc, rfl, hsc, r21, g21⟩; have K21 := K20.grown g21 r21; have oA21 := oA20.grown g21 (by omega); have oB21 := oB20.grown g21 (by omega); have DA21 := DA20.grown g21 (by omega); have DB21 := DB20.grown g21 (by omega))
        | (go_at_call_of 60 (Value.int IntKind.i64 9); refine (pick_any _ R _ 9 K21.rd (by omega) (by omega) (by omega)).mono ?_; rintro e w22 ⟨md, rfl, hmd, r22, g22⟩; have K22 := K21.grown g22 r22; have oA22 := oA21.grown g22 (by omega); have oB22 := oB21.grown g22 (by omega); have DA22 := DA21.grown g22 (by omega); have DB22 := DB21.grown g22 (by omega); obtain ⟨c0, c1, c2, cf0, cf1, cf2, cl⟩ := id K22.e0; obtain ⟨d0, d1, d2, df0, df1, df2, dl⟩ := id K22.e1))
    go_wp2
    refine bodyPost_ret (v := .tuple #[.agg #[.bool p, .slice aa l.length ca, .int .i64 s], .agg #[.bool q0, .slice ab m0.length cb, .int .i64 y], .int .i64 sc, .int .i64 md]) (by simp [results, Tryz.results28, go_sem, c0, c1, c2, d0, d1, d2]) rfl ?_
    exact divD_gives K22.below oA22 oB22 (by omega) (by omega)
  subst x0
  have hBl := DB6.lt
  go_wp2_with fail
  refine (l14AnyDec_any w6 R _ K6.rd (by omega)).mono ?_
  rintro e w8 ⟨q8, m8, t8, ab8, cb8, n8, rfl, hm8, ob8, r8, hn8, g8⟩
  have K8 := K6.grown g8 r8
  have DA8 := DA6.grown g8 (by omega)
  have DB8 := DB6.grown g8 (by omega)
  have oA8 := oA6.grown g8 (by omega)
  clear K6 DA6 DB6 oA6 oB6 r8 g8
  obtain ⟨b0, b1, b2, bf0, bf1, bf2, bl⟩ := id DB8
  have DB9 := DB8.set (q := q8) (u := .slice ab8 m8.length cb8) (t := t8) (j := B) rfl
  have DA9 := DA8.other (q := q8) (u := .slice ab8 m8.length cb8) (t := t8) (j := B) (by omega)
  have E0 := K8.e0.other (q := q8) (u := .slice ab8 m8.length cb8) (t := t8) (j := B) (by omega)
  have E1 := K8.e1.other (q := q8) (u := .slice ab8 m8.length cb8) (t := t8) (j := B) (by omega)
  have K9 : T2 w (((w8.setCell ⟨B, 0, none⟩ (.bool q8)).setCell ⟨B, 1, none⟩ (.slice ab8 m8.length cb8)).setCell ⟨B, 2, none⟩ (.int .i64 t8)) R n8 :=
    ⟨((K8.below.setCell (by simp only; omega) _).setCell (by simp only; omega) _).setCell (by simp only; omega) _, E0, E1, ((K8.rd.set (by simp only; omega) _).set (by simp only; omega) _).set (by simp only; omega) _, K8.hR⟩
  have oA9 : Own (R + 1) (((w8.setCell ⟨B, 0, none⟩ (.bool q8)).setCell ⟨B, 1, none⟩ (.slice ab8 m8.length cb8)).setCell ⟨B, 2, none⟩ (.int .i64 t8)) (.slice aa l.length ca) l := ((oA8.setOther (by intro e; have := hnb _ e; simp only at this; omega) _).setOther (by intro e; have := hnb _ e; simp only at this; omega) _).setOther (by intro e; have := hnb _ e; simp only at this; omega) _
  have oB9 : Own (R + 1) (((w8.setCell ⟨B, 0, none⟩ (.bool q8)).setCell ⟨B, 1, none⟩ (.slice ab8 m8.length cb8)).setCell ⟨B, 2, none⟩ (.int .i64 t8)) (.slice ab8 m8.length cb8) m8 := (((ob8.setBelow (by exact hBl) _).setBelow (by exact hBl) _).setBelow (by exact hBl) _).mono (by omega)
  clear K8 DA8 DB8 oA8 ob8 E0 E1
  go_wp2_with fail
  generalize ((w8.setCell ⟨B, 0, none⟩ (.bool q8)).setCell ⟨B, 1, none⟩ (.slice ab8 m8.length cb8)).setCell ⟨B, 2, none⟩ (.int .i64 t8) = W9 at *
  clear b0 b1 b2 bf0 bf1 bf2 bl
  have hn := K9.rd
  have hz0 := DA9.lt
  have hz1 := DB9.lt
  have Stab := hide (fun (w' : World) (hA : Db w' A p (.slice aa l.length ca) s) (hB : Db w' B q8 (.slice ab8 m8.length cb8) t8) => (⟨hA.c0, hA.c1, hA.c2, hB.c0, hB.c1, hB.c2⟩ : w'.cell? ⟨A, 0, none⟩ = some (.bool p) ∧ w'.cell? ⟨A, 1, none⟩ = some (.slice aa l.length ca) ∧ w'.cell? ⟨A, 2, none⟩ = some (.int .i64 s) ∧ w'.cell? ⟨B, 0, none⟩ = some (.bool q8) ∧ w'.cell? ⟨B, 1, none⟩ = some (.slice ab8 m8.length cb8) ∧ w'.cell? ⟨B, 2, none⟩ = some (.int .i64 t8)))
  have hRR := K9.hR
  have N0 : A ≠ w.heap.size := by omega
  have N1 : A ≠ w.heap.size + 1 := by omega
  have N2 : B ≠ w.heap.size := by omega
  have N3 : B ≠ w.heap.size + 1 := by omega
  have K7 := K9.later (Below.refl _ _).drew
  have DA7 := DA9.later (Below.refl _ _).drew
  have DB7 := DB9.later (Below.refl _ _).drew
  have oA7 := oA9.later (Below.refl _ _).drew
  have oB7 := oB9.later (Below.refl _ _).drew
  clear K9 DA9 DB9 oA9 oB9 hn hz0 hz1
  go_wp2
  go_region_held3 (fun w' => w'.cell? ⟨A, 0, none⟩ = some (.bool p) ∧ w'.cell? ⟨A, 1, none⟩ = some (.slice aa l.length ca) ∧ w'.cell? ⟨A, 2, none⟩ = some (.int .i64 s) ∧ w'.cell? ⟨B, 0, none⟩ = some (.bool q8) ∧ w'.cell? ⟨B, 1, none⟩ = some (.slice ab8 m8.length cb8) ∧ w'.cell? ⟨B, 2, none⟩ = some (.int .i64 t8))
    (((repeat' with_reducible refine cells_out6 ?_ (by assumption) (by assumption) _ _ _); first | with_reducible exact unhide Stab _ DA7 DB7 | with_reducible exact unhide Stab _ DA20 DB20 | with_reducible exact unhide Stab _ (DA20.alloc _) (DB20.alloc _) | with_reducible exact unhide Stab _ DA21 DB21 | with_reducible exact unhide Stab _ DA22 DB22))
    (first
      | (go_at_call_of 60 (Value.int IntKind.i64 15); refine (pick_any _ R _ 15 K7.rd (by omega) (by omega) (by omega)).mono ?_; rintro e w20 ⟨x4, rfl, hx4, r20, g20⟩; have K20 := K7.grown g20 r20; have oA20 := oA7.grown g20 (by omega); have oB20 := oB7.grown g20 (by omega); have DA20 := DA7.grown g20 (by omega); have DB20 := DB7.grown g20 (by omega))
      | (go_at_call 68; refine (one_lit w20 R _ [0, 1, 2, 6, 12, IntKind.i64.wrap ((x4 : Int) - 1)] _ rfl K20.rd (by omega) (by simp) (by simp)).mono ?_; rintro e w21 ⟨sc, rfl, hsc, r21, g21⟩; have K21 := K20.grown g21 r21; have oA21 := oA20.grown g21 (by omega); have oB21 := oB20.grown g21 (by omega); have DA21 := DA20.grown g21 (by omega); have DB21 := DB20.grown g21 (by omega))
      | (go_at_call_of 60 (Value.int IntKind.i64 9); refine (pick_any _ R _ 9 K21.rd (by omega) (by omega) (by omega)).mono ?_; rintro e w22 ⟨md, rfl, hmd, r22, g22⟩; have K22 := K21.grown g22 r22; have oA22 := oA21.grown g22 (by omega); have oB22 := oB21.grown g22 (by omega); have DA22 := DA21.grown g22 (by omega); have DB22 := DB21.grown g22 (by omega); obtain ⟨c0, c1, c2, cf0, cf1, cf2, cl⟩ := id K22.e0; obtain ⟨d0, d1, d2, df0, df1, df2, dl⟩ := id K22.e1))
  go_wp2
  refine bodyPost_ret (v := .tuple #[.agg #[.bool p, .slice aa l.length ca, .int .i64 s], .agg #[.bool q8, .slice ab8 m8.length cb8, .int .i64 t8], .int .i64 sc, .int .i64 md]) (by simp [results, Tryz.results28, go_sem, c0, c1, c2, d0, d1, d2]) rfl ?_
  exact divD_gives K22.below oA22 oB22 (by omega) (by omega)

end Go.Proofs.YthnkmjkgcnhlfaaGreatDoor
