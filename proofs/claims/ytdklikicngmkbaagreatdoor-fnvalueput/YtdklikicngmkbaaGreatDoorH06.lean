/- The law's toSpan, by its contract. The laws' own helpers for values: how large one is, a copy of it, whether two are the same. -/
import Derived.Test.YtdklikicngmkbaaGreatDoorG04
import Derived.Test.YtdklikicngmkbaaGreatDoorVlO
namespace Go.Proofs.YtdklikicngmkbaaGreatDoor
open Go.RowKit

theorem toSpan_any (w : World) (m d : Int) : Calls Tryz.prog 52 #[.agg #[.int .i64 m, .int .i64 d]] w fun e w' => e = .returned (.agg #[.int .i64 m, .int .i64 d]) ∧
    w' = ((w.alloc (.cells #[.int .i64 m, .int .i64 d] 48)).alloc (.cells #[.int .i64 m, .int .i64 d] 29)).alloc (.cells #[.int .i64 m, .int .i64 d] 29) := by
  go_enter Tryz.func52, Tryz.ntmps52
  go_wp2
  refine bodyPost_ret (v := .agg #[.int .i64 m, .int .i64 d]) (by simp [results, Tryz.results52, go_sem]) rfl ⟨rfl, rfl⟩

end Go.Proofs.YtdklikicngmkbaaGreatDoor

namespace Go.Proofs.YtdklikicngmkbaaGreatDoor
open Go.RowKit
set_option maxRecDepth 100000
set_option linter.unusedSimpArgs false
set_option linter.unusedVariables false

/-- A box of nine cells, as it stands. -/
structure V9 (W : World) (b : Nat) (x0 x1 x2 x3 x4 x5 x6 x7 x8 : Value) : Prop where
  c0 : W.cell? ⟨b, 0, none⟩ = some x0
  c1 : W.cell? ⟨b, 1, none⟩ = some x1
  c2 : W.cell? ⟨b, 2, none⟩ = some x2
  c3 : W.cell? ⟨b, 3, none⟩ = some x3
  c4 : W.cell? ⟨b, 4, none⟩ = some x4
  c5 : W.cell? ⟨b, 5, none⟩ = some x5
  c6 : W.cell? ⟨b, 6, none⟩ = some x6
  c7 : W.cell? ⟨b, 7, none⟩ = some x7
  c8 : W.cell? ⟨b, 8, none⟩ = some x8
  f0 : W.frozen? ⟨b, 0, none⟩ = false
  f1 : W.frozen? ⟨b, 1, none⟩ = false
  f2 : W.frozen? ⟨b, 2, none⟩ = false
  f3 : W.frozen? ⟨b, 3, none⟩ = false
  f4 : W.frozen? ⟨b, 4, none⟩ = false
  f5 : W.frozen? ⟨b, 5, none⟩ = false
  f6 : W.frozen? ⟨b, 6, none⟩ = false
  f7 : W.frozen? ⟨b, 7, none⟩ = false
  f8 : W.frozen? ⟨b, 8, none⟩ = false
  lt : b < W.heap.size

theorem V9.ofBlock {w w' : World} {b : Nat} {x0 x1 x2 x3 x4 x5 x6 x7 x8 : Value} (h : V9 w b x0 x1 x2 x3 x4 x5 x6 x7 x8) (hb : w'.heap[b]? = w.heap[b]?) (hs : w.heap.size ≤ w'.heap.size) : V9 w' b x0 x1 x2 x3 x4 x5 x6 x7 x8 :=
  ⟨(World.cell?_of_block (w := w) (a := ⟨b, 0, none⟩) hb).trans h.c0, (World.cell?_of_block (w := w) (a := ⟨b, 1, none⟩) hb).trans h.c1, (World.cell?_of_block (w := w) (a := ⟨b, 2, none⟩) hb).trans h.c2, (World.cell?_of_block (w := w) (a := ⟨b, 3, none⟩) hb).trans h.c3, (World.cell?_of_block (w := w) (a := ⟨b, 4, none⟩) hb).trans h.c4, (World.cell?_of_block (w := w) (a := ⟨b, 5, none⟩) hb).trans h.c5, (World.cell?_of_block (w := w) (a := ⟨b, 6, none⟩) hb).trans h.c6, (World.cell?_of_block (w := w) (a := ⟨b, 7, none⟩) hb).trans h.c7, (World.cell?_of_block (w := w) (a := ⟨b, 8, none⟩) hb).trans h.c8, (World.frozen?_of_block (w := w) (a := ⟨b, 0, none⟩) hb).trans h.f0, (World.frozen?_of_block (w := w) (a := ⟨b, 1, none⟩) hb).trans h.f1, (World.frozen?_of_block (w := w) (a := ⟨b, 2, none⟩) hb).trans h.f2, (World.frozen?_of_block (w := w) (a := ⟨b, 3, none⟩) hb).trans h.f3, (World.frozen?_of_block (w := w) (a := ⟨b, 4, none⟩) hb).trans h.f4, (World.frozen?_of_block (w := w) (a := ⟨b, 5, none⟩) hb).trans h.f5, (World.frozen?_of_block (w := w) (a := ⟨b, 6, none⟩) hb).trans h.f6, (World.frozen?_of_block (w := w) (a := ⟨b, 7, none⟩) hb).trans h.f7, (World.frozen?_of_block (w := w) (a := ⟨b, 8, none⟩) hb).trans h.f8, Nat.lt_of_lt_of_le h.lt hs⟩
theorem V9.later {w w' : World} {b : Nat} {x0 x1 x2 x3 x4 x5 x6 x7 x8 : Value} (h : V9 w b x0 x1 x2 x3 x4 x5 x6 x7 x8) (k : Below w.heap.size w w') : V9 w' b x0 x1 x2 x3 x4 x5 x6 x7 x8 := h.ofBlock (k.block b h.lt) k.size
theorem V9.other {w : World} {b : Nat} {x0 x1 x2 x3 x4 x5 x6 x7 x8 : Value} (h : V9 w b x0 x1 x2 x3 x4 x5 x6 x7 x8) {a : Addr} (ha : b ≠ a.block) (u : Value) : V9 (w.setCell a u) b x0 x1 x2 x3 x4 x5 x6 x7 x8 :=
  h.ofBlock (Below.heap_setCell w a u b ha) (by simp [World.setCell])
theorem V9.new (X : World) (x0 x1 x2 x3 x4 x5 x6 x7 x8 : Value) (ty : TypeId) : V9 (X.alloc (.cells #[x0, x1, x2, x3, x4, x5, x6, x7, x8] ty)) X.heap.size x0 x1 x2 x3 x4 x5 x6 x7 x8 :=
  ⟨by go_simp, by go_simp, by go_simp, by go_simp, by go_simp, by go_simp, by go_simp, by go_simp, by go_simp, by go_simp, by go_simp, by go_simp, by go_simp, by go_simp, by go_simp, by go_simp, by go_simp, by go_simp, by simp⟩
theorem V9.put0 {w : World} {b : Nat} {x0 x1 x2 x3 x4 x5 x6 x7 x8 : Value} (h : V9 w b x0 x1 x2 x3 x4 x5 x6 x7 x8) (u : Value) : V9 (w.setCell ⟨b, 0, none⟩ u) b u x1 x2 x3 x4 x5 x6 x7 x8 :=
  ⟨cell_hit h.c0 u, cell_pass h.c1 (by decide) u, cell_pass h.c2 (by decide) u, cell_pass h.c3 (by decide) u, cell_pass h.c4 (by decide) u, cell_pass h.c5 (by decide) u, cell_pass h.c6 (by decide) u, cell_pass h.c7 (by decide) u, cell_pass h.c8 (by decide) u, by simpa using h.f0, by simpa using h.f1, by simpa using h.f2, by simpa using h.f3, by simpa using h.f4, by simpa using h.f5, by simpa using h.f6, by simpa using h.f7, by simpa using h.f8, by simpa [World.setCell] using h.lt⟩
theorem V9.put1 {w : World} {b : Nat} {x0 x1 x2 x3 x4 x5 x6 x7 x8 : Value} (h : V9 w b x0 x1 x2 x3 x4 x5 x6 x7 x8) (u : Value) : V9 (w.setCell ⟨b, 1, none⟩ u) b x0 u x2 x3 x4 x5 x6 x7 x8 :=
  ⟨cell_pass h.c0 (by decide) u, cell_hit h.c1 u, cell_pass h.c2 (by decide) u, cell_pass h.c3 (by decide) u, cell_pass h.c4 (by decide) u, cell_pass h.c5 (by decide) u, cell_pass h.c6 (by decide) u, cell_pass h.c7 (by decide) u, cell_pass h.c8 (by decide) u, by simpa using h.f0, by simpa using h.f1, by simpa using h.f2, by simpa using h.f3, by simpa using h.f4, by simpa using h.f5, by simpa using h.f6, by simpa using h.f7, by simpa using h.f8, by simpa [World.setCell] using h.lt⟩
theorem V9.put2 {w : World} {b : Nat} {x0 x1 x2 x3 x4 x5 x6 x7 x8 : Value} (h : V9 w b x0 x1 x2 x3 x4 x5 x6 x7 x8) (u : Value) : V9 (w.setCell ⟨b, 2, none⟩ u) b x0 x1 u x3 x4 x5 x6 x7 x8 :=
  ⟨cell_pass h.c0 (by decide) u, cell_pass h.c1 (by decide) u, cell_hit h.c2 u, cell_pass h.c3 (by decide) u, cell_pass h.c4 (by decide) u, cell_pass h.c5 (by decide) u, cell_pass h.c6 (by decide) u, cell_pass h.c7 (by decide) u, cell_pass h.c8 (by decide) u, by simpa using h.f0, by simpa using h.f1, by simpa using h.f2, by simpa using h.f3, by simpa using h.f4, by simpa using h.f5, by simpa using h.f6, by simpa using h.f7, by simpa using h.f8, by simpa [World.setCell] using h.lt⟩
theorem V9.put3 {w : World} {b : Nat} {x0 x1 x2 x3 x4 x5 x6 x7 x8 : Value} (h : V9 w b x0 x1 x2 x3 x4 x5 x6 x7 x8) (u : Value) : V9 (w.setCell ⟨b, 3, none⟩ u) b x0 x1 x2 u x4 x5 x6 x7 x8 :=
  ⟨cell_pass h.c0 (by decide) u, cell_pass h.c1 (by decide) u, cell_pass h.c2 (by decide) u, cell_hit h.c3 u, cell_pass h.c4 (by decide) u, cell_pass h.c5 (by decide) u, cell_pass h.c6 (by decide) u, cell_pass h.c7 (by decide) u, cell_pass h.c8 (by decide) u, by simpa using h.f0, by simpa using h.f1, by simpa using h.f2, by simpa using h.f3, by simpa using h.f4, by simpa using h.f5, by simpa using h.f6, by simpa using h.f7, by simpa using h.f8, by simpa [World.setCell] using h.lt⟩
theorem V9.put4 {w : World} {b : Nat} {x0 x1 x2 x3 x4 x5 x6 x7 x8 : Value} (h : V9 w b x0 x1 x2 x3 x4 x5 x6 x7 x8) (u : Value) : V9 (w.setCell ⟨b, 4, none⟩ u) b x0 x1 x2 x3 u x5 x6 x7 x8 :=
  ⟨cell_pass h.c0 (by decide) u, cell_pass h.c1 (by decide) u, cell_pass h.c2 (by decide) u, cell_pass h.c3 (by decide) u, cell_hit h.c4 u, cell_pass h.c5 (by decide) u, cell_pass h.c6 (by decide) u, cell_pass h.c7 (by decide) u, cell_pass h.c8 (by decide) u, by simpa using h.f0, by simpa using h.f1, by simpa using h.f2, by simpa using h.f3, by simpa using h.f4, by simpa using h.f5, by simpa using h.f6, by simpa using h.f7, by simpa using h.f8, by simpa [World.setCell] using h.lt⟩
theorem V9.put5 {w : World} {b : Nat} {x0 x1 x2 x3 x4 x5 x6 x7 x8 : Value} (h : V9 w b x0 x1 x2 x3 x4 x5 x6 x7 x8) (u : Value) : V9 (w.setCell ⟨b, 5, none⟩ u) b x0 x1 x2 x3 x4 u x6 x7 x8 :=
  ⟨cell_pass h.c0 (by decide) u, cell_pass h.c1 (by decide) u, cell_pass h.c2 (by decide) u, cell_pass h.c3 (by decide) u, cell_pass h.c4 (by decide) u, cell_hit h.c5 u, cell_pass h.c6 (by decide) u, cell_pass h.c7 (by decide) u, cell_pass h.c8 (by decide) u, by simpa using h.f0, by simpa using h.f1, by simpa using h.f2, by simpa using h.f3, by simpa using h.f4, by simpa using h.f5, by simpa using h.f6, by simpa using h.f7, by simpa using h.f8, by simpa [World.setCell] using h.lt⟩
theorem V9.put6 {w : World} {b : Nat} {x0 x1 x2 x3 x4 x5 x6 x7 x8 : Value} (h : V9 w b x0 x1 x2 x3 x4 x5 x6 x7 x8) (u : Value) : V9 (w.setCell ⟨b, 6, none⟩ u) b x0 x1 x2 x3 x4 x5 u x7 x8 :=
  ⟨cell_pass h.c0 (by decide) u, cell_pass h.c1 (by decide) u, cell_pass h.c2 (by decide) u, cell_pass h.c3 (by decide) u, cell_pass h.c4 (by decide) u, cell_pass h.c5 (by decide) u, cell_hit h.c6 u, cell_pass h.c7 (by decide) u, cell_pass h.c8 (by decide) u, by simpa using h.f0, by simpa using h.f1, by simpa using h.f2, by simpa using h.f3, by simpa using h.f4, by simpa using h.f5, by simpa using h.f6, by simpa using h.f7, by simpa using h.f8, by simpa [World.setCell] using h.lt⟩
theorem V9.put7 {w : World} {b : Nat} {x0 x1 x2 x3 x4 x5 x6 x7 x8 : Value} (h : V9 w b x0 x1 x2 x3 x4 x5 x6 x7 x8) (u : Value) : V9 (w.setCell ⟨b, 7, none⟩ u) b x0 x1 x2 x3 x4 x5 x6 u x8 :=
  ⟨cell_pass h.c0 (by decide) u, cell_pass h.c1 (by decide) u, cell_pass h.c2 (by decide) u, cell_pass h.c3 (by decide) u, cell_pass h.c4 (by decide) u, cell_pass h.c5 (by decide) u, cell_pass h.c6 (by decide) u, cell_hit h.c7 u, cell_pass h.c8 (by decide) u, by simpa using h.f0, by simpa using h.f1, by simpa using h.f2, by simpa using h.f3, by simpa using h.f4, by simpa using h.f5, by simpa using h.f6, by simpa using h.f7, by simpa using h.f8, by simpa [World.setCell] using h.lt⟩
theorem V9.put8 {w : World} {b : Nat} {x0 x1 x2 x3 x4 x5 x6 x7 x8 : Value} (h : V9 w b x0 x1 x2 x3 x4 x5 x6 x7 x8) (u : Value) : V9 (w.setCell ⟨b, 8, none⟩ u) b x0 x1 x2 x3 x4 x5 x6 x7 u :=
  ⟨cell_pass h.c0 (by decide) u, cell_pass h.c1 (by decide) u, cell_pass h.c2 (by decide) u, cell_pass h.c3 (by decide) u, cell_pass h.c4 (by decide) u, cell_pass h.c5 (by decide) u, cell_pass h.c6 (by decide) u, cell_pass h.c7 (by decide) u, cell_hit h.c8 u, by simpa using h.f0, by simpa using h.f1, by simpa using h.f2, by simpa using h.f3, by simpa using h.f4, by simpa using h.f5, by simpa using h.f6, by simpa using h.f7, by simpa using h.f8, by simpa [World.setCell] using h.lt⟩

/-- What a call answers that hands out a copy of a value. -/
def GivesVal (w : World) (k : Int) (y n : Bool) (l : List Int) (sc d mo da : Int) (t : ByteArray) (e : Ending) (w' : World) : Prop :=
  ∃ ao cap, e = .returned (.agg #[.int .i64 k, .bool y, .bool n, .slice ao l.length cap, .int .i64 sc, .int .i64 d, .int .i64 mo, .int .i64 da, .string t]) ∧ Own w.heap.size w' (.slice ao l.length cap) l ∧ Below w.heap.size w w'

set_option maxHeartbeats 4000000 in
theorem toValue_any (w : World) (k : Int) (y n : Bool) (ao : Option Addr) (l : List Int) (cap : Nat) (sc d mo da : Int) (t : ByteArray) (hr : Reads w (.slice ao l.length cap) l) (hl : l.length ≤ 1048576) :
    Calls Tryz.prog 25 #[.agg #[.int .i64 k, .bool y, .bool n, .slice ao l.length cap, .int .i64 sc, .int .i64 d, .int .i64 mo, .int .i64 da, .string t]] w (GivesVal w k y n l sc d mo da t) := by
  have C0 := hide (fun W (b : Below w.heap.size w W) => toDec_any W n (.slice ao l.length cap) l sc (hr.later b) hl)
  have B0 : Below w.heap.size w (((w.alloc (.cells #[.int .i64 k, .bool y, .bool n, .slice ao l.length cap, .int .i64 sc, .int .i64 d, .int .i64 mo, .int .i64 da, .string t] 50)).alloc (.cells #[.int .i64 0, .bool false, .bool false, .slice none 0 0, .int .i64 0, .int .i64 0, .int .i64 0, .int .i64 0, .string ⟨#[]⟩] 31)).alloc (.cells #[.int .i64 k, .bool y, .bool false, .slice none 0 0, .int .i64 0, .int .i64 0, .int .i64 0, .int .i64 0, .string ⟨#[]⟩] 31)) := (((Below.refl _ _).alloc (Nat.le_refl _) _).alloc (by simp) _).alloc (by simp; omega) _
  have hz : (((w.alloc (.cells #[.int .i64 k, .bool y, .bool n, .slice ao l.length cap, .int .i64 sc, .int .i64 d, .int .i64 mo, .int .i64 da, .string t] 50)).alloc (.cells #[.int .i64 0, .bool false, .bool false, .slice none 0 0, .int .i64 0, .int .i64 0, .int .i64 0, .int .i64 0, .string ⟨#[]⟩] 31)).alloc (.cells #[.int .i64 k, .bool y, .bool false, .slice none 0 0, .int .i64 0, .int .i64 0, .int .i64 0, .int .i64 0, .string ⟨#[]⟩] 31)).heap.size = w.heap.size + 1 + 1 + 1 := by simp
  have VA : V9 (((w.alloc (.cells #[.int .i64 k, .bool y, .bool n, .slice ao l.length cap, .int .i64 sc, .int .i64 d, .int .i64 mo, .int .i64 da, .string t] 50)).alloc (.cells #[.int .i64 0, .bool false, .bool false, .slice none 0 0, .int .i64 0, .int .i64 0, .int .i64 0, .int .i64 0, .string ⟨#[]⟩] 31)).alloc (.cells #[.int .i64 k, .bool y, .bool false, .slice none 0 0, .int .i64 0, .int .i64 0, .int .i64 0, .int .i64 0, .string ⟨#[]⟩] 31)) w.heap.size (.int .i64 k) (.bool y) (.bool n) (.slice ao l.length cap) (.int .i64 sc) (.int .i64 d) (.int .i64 mo) (.int .i64 da) (.string t) := ((V9.new w (.int .i64 k) (.bool y) (.bool n) (.slice ao l.length cap) (.int .i64 sc) (.int .i64 d) (.int .i64 mo) (.int .i64 da) (.string t) 50).later ((Below.refl _ _).alloc (Nat.le_refl _) _)).later ((Below.refl _ _).alloc (Nat.le_refl _) _)
  have VR : V9 (((w.alloc (.cells #[.int .i64 k, .bool y, .bool n, .slice ao l.length cap, .int .i64 sc, .int .i64 d, .int .i64 mo, .int .i64 da, .string t] 50)).alloc (.cells #[.int .i64 0, .bool false, .bool false, .slice none 0 0, .int .i64 0, .int .i64 0, .int .i64 0, .int .i64 0, .string ⟨#[]⟩] 31)).alloc (.cells #[.int .i64 k, .bool y, .bool false, .slice none 0 0, .int .i64 0, .int .i64 0, .int .i64 0, .int .i64 0, .string ⟨#[]⟩] 31)) (w.heap.size + 1) (.int .i64 0) (.bool false) (.bool false) (.slice none 0 0) (.int .i64 0) (.int .i64 0) (.int .i64 0) (.int .i64 0) (.string ⟨#[]⟩) := by
    have h := (V9.new (w.alloc (.cells #[.int .i64 k, .bool y, .bool n, .slice ao l.length cap, .int .i64 sc, .int .i64 d, .int .i64 mo, .int .i64 da, .string t] 50)) (.int .i64 0) (.bool false) (.bool false) (.slice none 0 0) (.int .i64 0) (.int .i64 0) (.int .i64 0) (.int .i64 0) (.string ⟨#[]⟩) 31).later ((Below.refl _ _).alloc (Nat.le_refl _) (.cells #[.int .i64 k, .bool y, .bool false, .slice none 0 0, .int .i64 0, .int .i64 0, .int .i64 0, .int .i64 0, .string ⟨#[]⟩] 31))
    rwa [World.size_alloc] at h
  have VO : V9 (((w.alloc (.cells #[.int .i64 k, .bool y, .bool n, .slice ao l.length cap, .int .i64 sc, .int .i64 d, .int .i64 mo, .int .i64 da, .string t] 50)).alloc (.cells #[.int .i64 0, .bool false, .bool false, .slice none 0 0, .int .i64 0, .int .i64 0, .int .i64 0, .int .i64 0, .string ⟨#[]⟩] 31)).alloc (.cells #[.int .i64 k, .bool y, .bool false, .slice none 0 0, .int .i64 0, .int .i64 0, .int .i64 0, .int .i64 0, .string ⟨#[]⟩] 31)) (w.heap.size + 1 + 1) (.int .i64 k) (.bool y) (.bool false) (.slice none 0 0) (.int .i64 0) (.int .i64 0) (.int .i64 0) (.int .i64 0) (.string ⟨#[]⟩) := by
    have h := V9.new ((w.alloc (.cells #[.int .i64 k, .bool y, .bool n, .slice ao l.length cap, .int .i64 sc, .int .i64 d, .int .i64 mo, .int .i64 da, .string t] 50)).alloc (.cells #[.int .i64 0, .bool false, .bool false, .slice none 0 0, .int .i64 0, .int .i64 0, .int .i64 0, .int .i64 0, .string ⟨#[]⟩] 31)) (.int .i64 k) (.bool y) (.bool false) (.slice none 0 0) (.int .i64 0) (.int .i64 0) (.int .i64 0) (.int .i64 0) (.string ⟨#[]⟩) 31
    rwa [World.size_alloc, World.size_alloc] at h
  clear hr
  go_enter Tryz.func25, Tryz.ntmps25
  go_wp2_with fail
  refine (unhide C0 _ B0).mono ?_
  rintro e w1 ⟨a1, c1, rfl, o1, b1⟩
  have B1 := B0.trans (b1.mono B0.size)
  have VA1 := VA.later b1
  have VR1 := VR.later b1
  have VO1 := VO.later b1
  rw [hz] at o1
  clear C0 VA VR VO B0 hz b1
  generalize hbO : w.heap.size + 1 + 1 = bO at *
  generalize hbR : w.heap.size + 1 = bR at *
  have hA1 : w.heap.size < bR := by omega
  have hA2 : bR < bO := by omega
  have o1 := o1.mono (show bO + 1 ≤ bO + 1 by omega)
  have VA2 := (((VA1.other (a := ⟨bO, 2, none⟩) (by simp only; omega) (.bool n)).other (a := ⟨bO, 3, none⟩) (by simp only; omega) (.slice a1 l.length c1)).other (a := ⟨bO, 4, none⟩) (by simp only; omega) (.int .i64 sc)).other (a := ⟨bO, 5, none⟩) (by simp only; omega) (.int .i64 d)
  have VR2 := (((VR1.other (a := ⟨bO, 2, none⟩) (by simp only; omega) (.bool n)).other (a := ⟨bO, 3, none⟩) (by simp only; omega) (.slice a1 l.length c1)).other (a := ⟨bO, 4, none⟩) (by simp only; omega) (.int .i64 sc)).other (a := ⟨bO, 5, none⟩) (by simp only; omega) (.int .i64 d)
  have VO2 := (((VO1.put2 (.bool n)).put3 (.slice a1 l.length c1)).put4 (.int .i64 sc)).put5 (.int .i64 d)
  have o2 : Own (bO + 1) ((((w1.setCell ⟨bO, 2, none⟩ (.bool n)).setCell ⟨bO, 3, none⟩ (.slice a1 l.length c1)).setCell ⟨bO, 4, none⟩ (.int .i64 sc)).setCell ⟨bO, 5, none⟩ (.int .i64 d)) (.slice a1 l.length c1) l := (((o1.setBelow (by simp only; omega) _).setBelow (by simp only; omega) _).setBelow (by simp only; omega) _).setBelow (by simp only; omega) _
  have B2 : Below w.heap.size w ((((w1.setCell ⟨bO, 2, none⟩ (.bool n)).setCell ⟨bO, 3, none⟩ (.slice a1 l.length c1)).setCell ⟨bO, 4, none⟩ (.int .i64 sc)).setCell ⟨bO, 5, none⟩ (.int .i64 d)) := (((B1.setCell (by simp only; omega) _).setCell (by simp only; omega) _).setCell (by simp only; omega) _).setCell (by simp only; omega) _
  obtain ⟨ac0, ac1, ac2, ac3, ac4, ac5, ac6, ac7, ac8, af0, af1, af2, af3, af4, af5, af6, af7, af8, al⟩ := VA1
  obtain ⟨oc0, oc1, oc2, oc3, oc4, oc5, oc6, oc7, oc8, of0, of1, of2, of3, of4, of5, of6, of7, of8, ol⟩ := VO1
  clear VR1 o1 B1
  go_wp2_with fail
  clear ac0 ac1 ac2 ac3 ac4 ac5 ac6 ac7 ac8 af0 af1 af2 af3 af4 af5 af6 af7 af8 al oc0 oc1 oc2 oc3 oc4 oc5 oc6 oc7 oc8 of0 of1 of2 of3 of4 of5 of6 of7 of8 ol
  generalize ((((w1.setCell ⟨bO, 2, none⟩ (.bool n)).setCell ⟨bO, 3, none⟩ (.slice a1 l.length c1)).setCell ⟨bO, 4, none⟩ (.int .i64 sc)).setCell ⟨bO, 5, none⟩ (.int .i64 d)) = W1 at *
  refine (toSpan_any _ mo da).mono ?_
  rintro e w2 ⟨rfl, hw⟩
  have b2 : Below W1.heap.size W1 w2 := by
    subst hw
    exact (((Below.refl _ _).alloc (Nat.le_refl _) _).alloc (by simp) _).alloc (by simp; omega) _
  clear hw
  have VA3 := VA2.later b2
  have VR3 := VR2.later b2
  have VO3 := VO2.later b2
  have o3 := o2.later b2
  have B3 := B2.trans (b2.mono B2.size)
  have VR4 := ((VR3.other (a := ⟨bO, 6, none⟩) (by simp only; omega) (.int .i64 mo)).other (a := ⟨bO, 7, none⟩) (by simp only; omega) (.int .i64 da)).other (a := ⟨bO, 8, none⟩) (by simp only; omega) (.string t)
  have VO4 := ((VO3.put6 (.int .i64 mo)).put7 (.int .i64 da)).put8 (.string t)
  have o4 : Own (bO + 1) (((w2.setCell ⟨bO, 6, none⟩ (.int .i64 mo)).setCell ⟨bO, 7, none⟩ (.int .i64 da)).setCell ⟨bO, 8, none⟩ (.string t)) (.slice a1 l.length c1) l := ((o3.setBelow (by simp only; omega) _).setBelow (by simp only; omega) _).setBelow (by simp only; omega) _
  have B4 : Below w.heap.size w (((w2.setCell ⟨bO, 6, none⟩ (.int .i64 mo)).setCell ⟨bO, 7, none⟩ (.int .i64 da)).setCell ⟨bO, 8, none⟩ (.string t)) := ((B3.setCell (by simp only; omega) _).setCell (by simp only; omega) _).setCell (by simp only; omega) _
  obtain ⟨ac0, ac1, ac2, ac3, ac4, ac5, ac6, ac7, ac8, af0, af1, af2, af3, af4, af5, af6, af7, af8, al⟩ := VA3
  obtain ⟨oc0, oc1, oc2, oc3, oc4, oc5, oc6, oc7, oc8, of0, of1, of2, of3, of4, of5, of6, of7, of8, ol⟩ := VO3
  clear VA2 VR2 VO2 o2 B2 b2 o3 B3
  obtain ⟨qc0, qc1, qc2, qc3, qc4, qc5, qc6, qc7, qc8, qf0, qf1, qf2, qf3, qf4, qf5, qf6, qf7, qf8, ql⟩ := VR3
  have hne : ¬ (bR = bO) := by omega
  have hne2 : ¬ (bO = bR) := by omega
  go_wp2
  have kb9 := set9_below B4 (show w.heap.size ≤ bR by omega) (.int .i64 k) (.bool y) (.bool n) (.slice a1 l.length c1) (.int .i64 sc) (.int .i64 d) (.int .i64 mo) (.int .i64 da) (.string t)
  have r0 := set9_at0 VR4.c0 (.int .i64 k) (.bool y) (.bool n) (.slice a1 l.length c1) (.int .i64 sc) (.int .i64 d) (.int .i64 mo) (.int .i64 da) (.string t)
  have r1 := set9_at1 VR4.c1 (.int .i64 k) (.bool y) (.bool n) (.slice a1 l.length c1) (.int .i64 sc) (.int .i64 d) (.int .i64 mo) (.int .i64 da) (.string t)
  have r2 := set9_at2 VR4.c2 (.int .i64 k) (.bool y) (.bool n) (.slice a1 l.length c1) (.int .i64 sc) (.int .i64 d) (.int .i64 mo) (.int .i64 da) (.string t)
  have r3 := set9_at3 VR4.c3 (.int .i64 k) (.bool y) (.bool n) (.slice a1 l.length c1) (.int .i64 sc) (.int .i64 d) (.int .i64 mo) (.int .i64 da) (.string t)
  have r4 := set9_at4 VR4.c4 (.int .i64 k) (.bool y) (.bool n) (.slice a1 l.length c1) (.int .i64 sc) (.int .i64 d) (.int .i64 mo) (.int .i64 da) (.string t)
  have r5 := set9_at5 VR4.c5 (.int .i64 k) (.bool y) (.bool n) (.slice a1 l.length c1) (.int .i64 sc) (.int .i64 d) (.int .i64 mo) (.int .i64 da) (.string t)
  have r6 := set9_at6 VR4.c6 (.int .i64 k) (.bool y) (.bool n) (.slice a1 l.length c1) (.int .i64 sc) (.int .i64 d) (.int .i64 mo) (.int .i64 da) (.string t)
  have r7 := set9_at7 VR4.c7 (.int .i64 k) (.bool y) (.bool n) (.slice a1 l.length c1) (.int .i64 sc) (.int .i64 d) (.int .i64 mo) (.int .i64 da) (.string t)
  have r8 := set9_at8 VR4.c8 (.int .i64 k) (.bool y) (.bool n) (.slice a1 l.length c1) (.int .i64 sc) (.int .i64 d) (.int .i64 mo) (.int .i64 da) (.string t)
  have o5 := (((((((((o4.setBelow (a := ⟨bR, 0, none⟩) (by simp only; omega) (.int .i64 k)).setBelow (a := ⟨bR, 1, none⟩) (by simp only; omega) (.bool y)).setBelow (a := ⟨bR, 2, none⟩) (by simp only; omega) (.bool n)).setBelow (a := ⟨bR, 3, none⟩) (by simp only; omega) (.slice a1 l.length c1)).setBelow (a := ⟨bR, 4, none⟩) (by simp only; omega) (.int .i64 sc)).setBelow (a := ⟨bR, 5, none⟩) (by simp only; omega) (.int .i64 d)).setBelow (a := ⟨bR, 6, none⟩) (by simp only; omega) (.int .i64 mo)).setBelow (a := ⟨bR, 7, none⟩) (by simp only; omega) (.int .i64 da)).setBelow (a := ⟨bR, 8, none⟩) (by simp only; omega) (.string t)).mono (show w.heap.size ≤ bO + 1 by omega)
  change Own w.heap.size (set9 (((w2.setCell ⟨bO, 6, none⟩ (.int .i64 mo)).setCell ⟨bO, 7, none⟩ (.int .i64 da)).setCell ⟨bO, 8, none⟩ (.string t)) bR (.int .i64 k) (.bool y) (.bool n) (.slice a1 l.length c1) (.int .i64 sc) (.int .i64 d) (.int .i64 mo) (.int .i64 da) (.string t)) _ _ at o5
  change bodyPost _ _ _ _ _ (set9 (((w2.setCell ⟨bO, 6, none⟩ (.int .i64 mo)).setCell ⟨bO, 7, none⟩ (.int .i64 da)).setCell ⟨bO, 8, none⟩ (.string t)) bR (.int .i64 k) (.bool y) (.bool n) (.slice a1 l.length c1) (.int .i64 sc) (.int .i64 d) (.int .i64 mo) (.int .i64 da) (.string t))
  generalize set9 (((w2.setCell ⟨bO, 6, none⟩ (.int .i64 mo)).setCell ⟨bO, 7, none⟩ (.int .i64 da)).setCell ⟨bO, 8, none⟩ (.string t)) bR (.int .i64 k) (.bool y) (.bool n) (.slice a1 l.length c1) (.int .i64 sc) (.int .i64 d) (.int .i64 mo) (.int .i64 da) (.string t) = W9 at *
  clear ac0 ac1 ac2 ac3 ac4 ac5 ac6 ac7 ac8 af0 af1 af2 af3 af4 af5 af6 af7 af8 al oc0 oc1 oc2 oc3 oc4 oc5 oc6 oc7 oc8 of0 of1 of2 of3 of4 of5 of6 of7 of8 ol qc0 qc1 qc2 qc3 qc4 qc5 qc6 qc7 qc8 qf0 qf1 qf2 qf3 qf4 qf5 qf6 qf7 qf8 ql VR4 VO4 o4 B4
  refine bodyPost_ret (v := .agg #[.int .i64 k, .bool y, .bool n, .slice a1 l.length c1, .int .i64 sc, .int .i64 d, .int .i64 mo, .int .i64 da, .string t]) (by simp [results, Tryz.results25, go_sem, r0, r1, r2, r3, r4, r5, r6, r7, r8]) rfl ⟨a1, c1, rfl, o5, kb9⟩

end Go.Proofs.YtdklikicngmkbaaGreatDoor
