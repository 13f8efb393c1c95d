/- Rows of values and of types in memory. -/
import Derived.Test.YtnegndajejhflaaDoorVlM
import Derived.Test.YtnegndajejhflaaDoorVlF
import Derived.Laws.OwnMore
namespace Go.Proofs.YtnegndajejhflaaDoor
open Go.RowKit
set_option maxRecDepth 100000
set_option linter.unusedSimpArgs false
set_option linter.unusedVariables false

/-- What a value is made of. -/
structure Vl where
  k : Int
  y : Bool
  n : Bool
  l : List Int
  sc : Int
  d : Int
  mo : Int
  da : Int
  t : ByteArray

/-- A value lies at a place. -/
def VAt (w : World) (b o : Nat) (x : Vl) : Prop := ∃ (ao : Option Addr) (cap : Nat), (w.cell? ⟨b, o, none⟩ = some (.int .i64 x.k) ∧ w.cell? ⟨b, o + 1, none⟩ = some (.bool x.y) ∧ w.cell? ⟨b, o + 2, none⟩ = some (.bool x.n) ∧ w.cell? ⟨b, o + 3, none⟩ = some (.slice ao x.l.length cap) ∧ w.cell? ⟨b, o + 4, none⟩ = some (.int .i64 x.sc) ∧ w.cell? ⟨b, o + 5, none⟩ = some (.int .i64 x.d) ∧ w.cell? ⟨b, o + 6, none⟩ = some (.int .i64 x.mo) ∧ w.cell? ⟨b, o + 7, none⟩ = some (.int .i64 x.da) ∧ w.cell? ⟨b, o + 8, none⟩ = some (.string x.t)) ∧ Reads w (.slice ao x.l.length cap) x.l ∧ x.t.size ≤ maxLen

theorem at_later {w w' : World} {p : Addr} {v : Value} (k : Below w.heap.size w w') (h : w.cell? p = some v) : w'.cell? p = some v := (k.cell (p := p) (World.block_lt_of_cell? w _ h)).trans h

theorem VAt.later {w w' : World} {b o : Nat} {x : Vl} (h : VAt w b o x) (k : Below w.heap.size w w') : VAt w' b o x := by
  obtain ⟨ao, cap, ⟨h0, h1, h2, h3, h4, h5, h6, h7, h8⟩, hr, ht⟩ := h
  exact ⟨ao, cap, ⟨at_later k h0, at_later k h1, at_later k h2, at_later k h3, at_later k h4, at_later k h5, at_later k h6, at_later k h7, at_later k h8⟩, hr.later k, ht⟩

/-- A slice at ao reads as the values xs. -/
structure RdV (w : World) (ao : Option Addr) (b off cap : Nat) (xs : List Vl) : Prop where
  le : xs.length ≤ cap
  big : cap ≤ maxLen
  at_ : 0 < xs.length → ao = some ⟨b, off, none⟩
  nil : ao = none → cap = 0
  cell : ∀ i (h : i < xs.length), VAt w b (off + i * 9) xs[i]

def ReadsV (w : World) (v : Value) (xs : List Vl) : Prop := ∃ ao b off cap, v = .slice ao xs.length cap ∧ RdV w ao b off cap xs

theorem RdV.later {w w' : World} {ao : Option Addr} {b off cap : Nat} {xs : List Vl} (h : RdV w ao b off cap xs) (k : Below w.heap.size w w') : RdV w' ao b off cap xs :=
  ⟨h.le, h.big, h.at_, h.nil, fun i hi => (h.cell i hi).later k⟩
theorem ReadsV.later {w w' : World} {v : Value} {xs : List Vl} (h : ReadsV w v xs) (k : Below w.heap.size w w') : ReadsV w' v xs := by
  obtain ⟨ao, b, off, cap, e, r⟩ := h
  exact ⟨ao, b, off, cap, e, r.later k⟩

/-- A slice at ao reads as the types ts. -/
structure RdT (w : World) (ao : Option Addr) (b off cap : Nat) (ts : List (Int × Int × Int)) : Prop where
  le : ts.length ≤ cap
  big : cap ≤ maxLen
  at_ : 0 < ts.length → ao = some ⟨b, off, none⟩
  nil : ao = none → cap = 0
  cell : ∀ i (h : i < ts.length), w.cell? ⟨b, off + i * 3, none⟩ = some (.int .i64 ts[i].1) ∧ w.cell? ⟨b, off + i * 3 + 1, none⟩ = some (.int .i64 ts[i].2.1) ∧ w.cell? ⟨b, off + i * 3 + 2, none⟩ = some (.int .i64 ts[i].2.2)

def ReadsT (w : World) (v : Value) (ts : List (Int × Int × Int)) : Prop := ∃ ao b off cap, v = .slice ao ts.length cap ∧ RdT w ao b off cap ts

theorem RdT.later {w w' : World} {ao : Option Addr} {b off cap : Nat} {ts : List (Int × Int × Int)} (h : RdT w ao b off cap ts) (k : Below w.heap.size w w') : RdT w' ao b off cap ts :=
  ⟨h.le, h.big, h.at_, h.nil, fun i hi => ⟨at_later k (h.cell i hi).1, at_later k (h.cell i hi).2.1, at_later k (h.cell i hi).2.2⟩⟩
theorem ReadsT.later {w w' : World} {v : Value} {ts : List (Int × Int × Int)} (h : ReadsT w v ts) (k : Below w.heap.size w w') : ReadsT w' v ts := by
  obtain ⟨ao, b, off, cap, e, r⟩ := h
  exact ⟨ao, b, off, cap, e, r.later k⟩

/-- A row of cells that may be written. -/
structure Row0 (w : World) (b N : Nat) : Prop where
  ex : ∀ i, i < N → ∃ v, w.cell? ⟨b, i, none⟩ = some v
  fz : ∀ i, w.frozen? ⟨b, i, none⟩ = false
  lt : b < w.heap.size

theorem Row0.later {w w' : World} {b N : Nat} (h : Row0 w b N) (k : Below w.heap.size w w') : Row0 w' b N :=
  ⟨fun i hi => by obtain ⟨v, hv⟩ := h.ex i hi; exact ⟨v, at_later k hv⟩, fun i => (k.frozen (p := ⟨b, i, none⟩) h.lt).trans (h.fz i), Nat.lt_of_lt_of_le h.lt k.size⟩
theorem Row0.set {w : World} {b N : Nat} (h : Row0 w b N) (j : Nat) (u : Value) : Row0 (w.setCell ⟨b, j, none⟩ u) b N := by
  refine ⟨fun i hi => ?_, fun i => by simpa using h.fz i, by simpa [World.setCell] using h.lt⟩
  obtain ⟨v, hv⟩ := h.ex i hi
  by_cases e : i = j
  · subst e
    exact ⟨u, cell_hit hv u⟩
  · exact ⟨v, cell_pass hv e u⟩
theorem Row0.made {w : World} {B : Nat} {e : TypeId} {size : Nat} {b n cap : Nat} {xs : List Value} (h : w.ownsRow B e size (.slice (some ⟨b, 0, none⟩) n cap) n xs) (hl : xs.length = n * size) : Row0 w b (n * size) :=
  ⟨fun i hi => ⟨xs[i]'(by omega), by rw [h.cellAt i hi, List.getElem?_eq_getElem (by omega)]⟩, fun i => h.frozenAt i, (h.lt _ rfl).2⟩

/-- Nine cells of a row that are written. -/
def set9o (W : World) (b o : Nat) (x0 x1 x2 x3 x4 x5 x6 x7 x8 : Value) : World := ((((((((W.setCell ⟨b, o, none⟩ x0).setCell ⟨b, o + 1, none⟩ x1).setCell ⟨b, o + 2, none⟩ x2).setCell ⟨b, o + 3, none⟩ x3).setCell ⟨b, o + 4, none⟩ x4).setCell ⟨b, o + 5, none⟩ x5).setCell ⟨b, o + 6, none⟩ x6).setCell ⟨b, o + 7, none⟩ x7).setCell ⟨b, o + 8, none⟩ x8
theorem set9o_row {W : World} {b N : Nat} (h : Row0 W b N) (o : Nat) (x0 x1 x2 x3 x4 x5 x6 x7 x8 : Value) : Row0 (set9o W b o x0 x1 x2 x3 x4 x5 x6 x7 x8) b N :=
  ((((((((h.set _ _).set _ _).set _ _).set _ _).set _ _).set _ _).set _ _).set _ _).set _ _
theorem set9o_below {w W : World} {b : Nat} (h : Below w.heap.size w W) (hb : w.heap.size ≤ b) (o : Nat) (x0 x1 x2 x3 x4 x5 x6 x7 x8 : Value) : Below w.heap.size w (set9o W b o x0 x1 x2 x3 x4 x5 x6 x7 x8) :=
  ((((((((h.setCell (p := ⟨b, o, none⟩) hb _).setCell (p := ⟨b, o + 1, none⟩) hb _).setCell (p := ⟨b, o + 2, none⟩) hb _).setCell (p := ⟨b, o + 3, none⟩) hb _).setCell (p := ⟨b, o + 4, none⟩) hb _).setCell (p := ⟨b, o + 5, none⟩) hb _).setCell (p := ⟨b, o + 6, none⟩) hb _).setCell (p := ⟨b, o + 7, none⟩) hb _).setCell (p := ⟨b, o + 8, none⟩) hb _
theorem set9o_own {W : World} {b B : Nat} {v : Value} {l : List Int} (h : Own B W v l) (hb : b < B) (o : Nat) (x0 x1 x2 x3 x4 x5 x6 x7 x8 : Value) : Own B (set9o W b o x0 x1 x2 x3 x4 x5 x6 x7 x8) v l :=
  ((((((((h.setBelow (a := ⟨b, o, none⟩) hb _).setBelow (a := ⟨b, o + 1, none⟩) hb _).setBelow (a := ⟨b, o + 2, none⟩) hb _).setBelow (a := ⟨b, o + 3, none⟩) hb _).setBelow (a := ⟨b, o + 4, none⟩) hb _).setBelow (a := ⟨b, o + 5, none⟩) hb _).setBelow (a := ⟨b, o + 6, none⟩) hb _).setBelow (a := ⟨b, o + 7, none⟩) hb _).setBelow (a := ⟨b, o + 8, none⟩) hb _
theorem set9o_out {W : World} {b o i : Nat} {u : Value} (h : W.cell? ⟨b, i, none⟩ = some u) (hi : i < o ∨ o + 9 ≤ i) (x0 x1 x2 x3 x4 x5 x6 x7 x8 : Value) : (set9o W b o x0 x1 x2 x3 x4 x5 x6 x7 x8).cell? ⟨b, i, none⟩ = some u :=
  cell_pass (cell_pass (cell_pass (cell_pass (cell_pass (cell_pass (cell_pass (cell_pass (cell_pass (h) (by omega) _) (by omega) _) (by omega) _) (by omega) _) (by omega) _) (by omega) _) (by omega) _) (by omega) _) (by omega) _
theorem set9o_at0 {W : World} {b N : Nat} (h : Row0 W b N) {o : Nat} (ho : o + 9 ≤ N) (x0 x1 x2 x3 x4 x5 x6 x7 x8 : Value) : (set9o W b o x0 x1 x2 x3 x4 x5 x6 x7 x8).cell? ⟨b, o, none⟩ = some x0 := by
  obtain ⟨v, hv⟩ := h.ex (o + 0) (by omega)
  exact (cell_pass (cell_pass (cell_pass (cell_pass (cell_pass (cell_pass (cell_pass (cell_pass (cell_hit hv _) (by omega) _) (by omega) _) (by omega) _) (by omega) _) (by omega) _) (by omega) _) (by omega) _) (by omega) _)
theorem set9o_at1 {W : World} {b N : Nat} (h : Row0 W b N) {o : Nat} (ho : o + 9 ≤ N) (x0 x1 x2 x3 x4 x5 x6 x7 x8 : Value) : (set9o W b o x0 x1 x2 x3 x4 x5 x6 x7 x8).cell? ⟨b, o + 1, none⟩ = some x1 := by
  obtain ⟨v, hv⟩ := h.ex (o + 1) (by omega)
  exact (cell_pass (cell_pass (cell_pass (cell_pass (cell_pass (cell_pass (cell_pass (cell_hit (cell_pass hv (by omega) _) _) (by omega) _) (by omega) _) (by omega) _) (by omega) _) (by omega) _) (by omega) _) (by omega) _)
theorem set9o_at2 {W : World} {b N : Nat} (h : Row0 W b N) {o : Nat} (ho : o + 9 ≤ N) (x0 x1 x2 x3 x4 x5 x6 x7 x8 : Value) : (set9o W b o x0 x1 x2 x3 x4 x5 x6 x7 x8).cell? ⟨b, o + 2, none⟩ = some x2 := by
  obtain ⟨v, hv⟩ := h.ex (o + 2) (by omega)
  exact (cell_pass (cell_pass (cell_pass (cell_pass (cell_pass (cell_pass (cell_hit (cell_pass (cell_pass hv (by omega) _) (by omega) _) _) (by omega) _) (by omega) _) (by omega) _) (by omega) _) (by omega) _) (by omega) _)
theorem set9o_at3 {W : World} {b N : Nat} (h : Row0 W b N) {o : Nat} (ho : o + 9 ≤ N) (x0 x1 x2 x3 x4 x5 x6 x7 x8 : Value) : (set9o W b o x0 x1 x2 x3 x4 x5 x6 x7 x8).cell? ⟨b, o + 3, none⟩ = some x3 := by
  obtain ⟨v, hv⟩ := h.ex (o + 3) (by omega)
  exact (cell_pass (cell_pass (cell_pass (cell_pass (cell_pass (cell_hit (cell_pass (cell_pass (cell_pass hv (by omega) _) (by omega) _) (by omega) _) _) (by omega) _) (by omega) _) (by omega) _) (by omega) _) (by omega) _)
theorem set9o_at4 {W : World} {b N : Nat} (h : Row0 W b N) {o : Nat} (ho : o + 9 ≤ N) (x0 x1 x2 x3 x4 x5 x6 x7 x8 : Value) : (set9o W b o x0 x1 x2 x3 x4 x5 x6 x7 x8).cell? ⟨b, o + 4, none⟩ = some x4 := by
  obtain ⟨v, hv⟩ := h.ex (o + 4) (by omega)
  exact (cell_pass (cell_pass (cell_pass (cell_pass (cell_hit (cell_pass (cell_pass (cell_pass (cell_pass hv (by omega) _) (by omega) _) (by omega) _) (by omega) _) _) (by omega) _) (by omega) _) (by omega) _) (by omega) _)
theorem set9o_at5 {W : World} {b N : Nat} (h : Row0 W b N) {o : Nat} (ho : o + 9 ≤ N) (x0 x1 x2 x3 x4 x5 x6 x7 x8 : Value) : (set9o W b o x0 x1 x2 x3 x4 x5 x6 x7 x8).cell? ⟨b, o + 5, none⟩ = some x5 := by
  obtain ⟨v, hv⟩ := h.ex (o + 5) (by omega)
  exact (cell_pass (cell_pass (cell_pass (cell_hit (cell_pass (cell_pass (cell_pass (cell_pass (cell_pass hv (by omega) _) (by omega) _) (by omega) _) (by omega) _) (by omega) _) _) (by omega) _) (by omega) _) (by omega) _)
theorem set9o_at6 {W : World} {b N : Nat} (h : Row0 W b N) {o : Nat} (ho : o + 9 ≤ N) (x0 x1 x2 x3 x4 x5 x6 x7 x8 : Value) : (set9o W b o x0 x1 x2 x3 x4 x5 x6 x7 x8).cell? ⟨b, o + 6, none⟩ = some x6 := by
  obtain ⟨v, hv⟩ := h.ex (o + 6) (by omega)
  exact (cell_pass (cell_pass (cell_hit (cell_pass (cell_pass (cell_pass (cell_pass (cell_pass (cell_pass hv (by omega) _) (by omega) _) (by omega) _) (by omega) _) (by omega) _) (by omega) _) _) (by omega) _) (by omega) _)
theorem set9o_at7 {W : World} {b N : Nat} (h : Row0 W b N) {o : Nat} (ho : o + 9 ≤ N) (x0 x1 x2 x3 x4 x5 x6 x7 x8 : Value) : (set9o W b o x0 x1 x2 x3 x4 x5 x6 x7 x8).cell? ⟨b, o + 7, none⟩ = some x7 := by
  obtain ⟨v, hv⟩ := h.ex (o + 7) (by omega)
  exact (cell_pass (cell_hit (cell_pass (cell_pass (cell_pass (cell_pass (cell_pass (cell_pass (cell_pass hv (by omega) _) (by omega) _) (by omega) _) (by omega) _) (by omega) _) (by omega) _) (by omega) _) _) (by omega) _)
theorem set9o_at8 {W : World} {b N : Nat} (h : Row0 W b N) {o : Nat} (ho : o + 9 ≤ N) (x0 x1 x2 x3 x4 x5 x6 x7 x8 : Value) : (set9o W b o x0 x1 x2 x3 x4 x5 x6 x7 x8).cell? ⟨b, o + 8, none⟩ = some x8 := by
  obtain ⟨v, hv⟩ := h.ex (o + 8) (by omega)
  exact (cell_hit (cell_pass (cell_pass (cell_pass (cell_pass (cell_pass (cell_pass (cell_pass (cell_pass hv (by omega) _) (by omega) _) (by omega) _) (by omega) _) (by omega) _) (by omega) _) (by omega) _) (by omega) _) _)

/-- A value lies at a place of a row of the call's own, its limbs behind the row. -/
def VOwn (w : World) (b o : Nat) (x : Vl) : Prop := ∃ (ao : Option Addr) (cap : Nat), (w.cell? ⟨b, o, none⟩ = some (.int .i64 x.k) ∧ w.cell? ⟨b, o + 1, none⟩ = some (.bool x.y) ∧ w.cell? ⟨b, o + 2, none⟩ = some (.bool x.n) ∧ w.cell? ⟨b, o + 3, none⟩ = some (.slice ao x.l.length cap) ∧ w.cell? ⟨b, o + 4, none⟩ = some (.int .i64 x.sc) ∧ w.cell? ⟨b, o + 5, none⟩ = some (.int .i64 x.d) ∧ w.cell? ⟨b, o + 6, none⟩ = some (.int .i64 x.mo) ∧ w.cell? ⟨b, o + 7, none⟩ = some (.int .i64 x.da) ∧ w.cell? ⟨b, o + 8, none⟩ = some (.string x.t)) ∧ Own (b + 1) w (.slice ao x.l.length cap) x.l ∧ x.t.size ≤ maxLen

theorem VOwn.at_ {w : World} {b o : Nat} {x : Vl} (h : VOwn w b o x) : VAt w b o x := by
  obtain ⟨ao, cap, hc, ho, ht⟩ := h
  exact ⟨ao, cap, hc, ho.reads, ht⟩
theorem VOwn.later {w w' : World} {b o : Nat} {x : Vl} (h : VOwn w b o x) (k : Below w.heap.size w w') : VOwn w' b o x := by
  obtain ⟨ao, cap, ⟨h0, h1, h2, h3, h4, h5, h6, h7, h8⟩, hr, ht⟩ := h
  exact ⟨ao, cap, ⟨at_later k h0, at_later k h1, at_later k h2, at_later k h3, at_later k h4, at_later k h5, at_later k h6, at_later k h7, at_later k h8⟩, hr.later k, ht⟩
theorem VOwn.pass {w : World} {b o : Nat} {x : Vl} (h : VOwn w b o x) {o' : Nat} (ho : o + 9 ≤ o') (x0 x1 x2 x3 x4 x5 x6 x7 x8 : Value) : VOwn (set9o w b o' x0 x1 x2 x3 x4 x5 x6 x7 x8) b o x := by
  obtain ⟨ao, cap, ⟨h0, h1, h2, h3, h4, h5, h6, h7, h8⟩, hr, ht⟩ := h
  exact ⟨ao, cap, ⟨set9o_out h0 (by omega) x0 x1 x2 x3 x4 x5 x6 x7 x8, set9o_out h1 (by omega) x0 x1 x2 x3 x4 x5 x6 x7 x8, set9o_out h2 (by omega) x0 x1 x2 x3 x4 x5 x6 x7 x8, set9o_out h3 (by omega) x0 x1 x2 x3 x4 x5 x6 x7 x8, set9o_out h4 (by omega) x0 x1 x2 x3 x4 x5 x6 x7 x8, set9o_out h5 (by omega) x0 x1 x2 x3 x4 x5 x6 x7 x8, set9o_out h6 (by omega) x0 x1 x2 x3 x4 x5 x6 x7 x8, set9o_out h7 (by omega) x0 x1 x2 x3 x4 x5 x6 x7 x8, set9o_out h8 (by omega) x0 x1 x2 x3 x4 x5 x6 x7 x8⟩, set9o_own hr (Nat.lt_succ_self _) _ _ _ _ _ _ _ _ _ _, ht⟩
theorem VOwn.put {w : World} {b N o : Nat} (h : Row0 w b N) (ho : o + 9 ≤ N) {x : Vl} {ao : Option Addr} {cap : Nat} (hr : Own (b + 1) w (.slice ao x.l.length cap) x.l) (ht : x.t.size ≤ maxLen) :
    VOwn (set9o w b o (.int .i64 x.k) (.bool x.y) (.bool x.n) (.slice ao x.l.length cap) (.int .i64 x.sc) (.int .i64 x.d) (.int .i64 x.mo) (.int .i64 x.da) (.string x.t)) b o x :=
  ⟨ao, cap, ⟨set9o_at0 h ho _ _ _ _ _ _ _ _ _, set9o_at1 h ho _ _ _ _ _ _ _ _ _, set9o_at2 h ho _ _ _ _ _ _ _ _ _, set9o_at3 h ho _ _ _ _ _ _ _ _ _, set9o_at4 h ho _ _ _ _ _ _ _ _ _, set9o_at5 h ho _ _ _ _ _ _ _ _ _, set9o_at6 h ho _ _ _ _ _ _ _ _ _, set9o_at7 h ho _ _ _ _ _ _ _ _ _, set9o_at8 h ho _ _ _ _ _ _ _ _ _⟩, set9o_own hr (Nat.lt_succ_self _) _ _ _ _ _ _ _ _ _ _, ht⟩

end Go.Proofs.YtnegndajejhflaaDoor
