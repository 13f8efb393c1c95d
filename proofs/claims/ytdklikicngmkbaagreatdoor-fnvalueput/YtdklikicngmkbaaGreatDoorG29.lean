/- A value read of a text: ValueGet of the specification. Marks laid over a value, and held. What is read of a text: the values of what they say, and the truth of a text, by contracts. -/
import Derived.Test.YtdklikicngmkbaaGreatDoorG26
import Derived.Test.YtdklikicngmkbaaGreatDoorG03
import Derived.Test.YtdklikicngmkbaaGreatDoorH06
import Derived.Test.YtdklikicngmkbaaGreatDoorH10
namespace Go.Proofs.YtdklikicngmkbaaGreatDoor
open Go.RowKit
set_option maxRecDepth 100000
set_option linter.unusedSimpArgs false
set_option linter.unusedVariables false

set_option maxHeartbeats 4000000 in
theorem specValueGet_any (w : World) (s : ByteArray) (hs : s.size ≤ 2000000) : Calls Tryz.prog 17 #[.string s] w (GivesV w s) := by
  have C := hide (fun W => l4Get_any W s hs)
  have K0 := V9.new w (.int .i64 0) (.bool false) (.bool false) (.slice none 0 0) (.int .i64 0) (.int .i64 0) (.int .i64 0) (.int .i64 0) (.string ⟨#[]⟩) 31
  have B0 : Below w.heap.size w (w.alloc (.cells #[.int .i64 0, .bool false, .bool false, .slice none 0 0, .int .i64 0, .int .i64 0, .int .i64 0, .int .i64 0, .string ⟨#[]⟩] 31)) := (Below.refl _ _).alloc (Nat.le_refl _) _
  go_enter Tryz.func17, Tryz.ntmps17
  go_wp2_with fail
  refine (unhide C _).mono ?_
  rintro e w1 ⟨⟨k, y, n, l, sc, d, mo, da, t⟩, ao, cap, ok, rfl, o1, b1, hcase⟩
  have HC := hide hcase
  have K1 := K0.later b1
  have B1 := B0.trans (b1.mono B0.size)
  have o2 := o1.mono (B' := w.heap.size + 1) (by simp)
  clear hcase C K0 B0 b1 o1
  obtain ⟨c0, c1, c2, c3, c4, c5, c6, c7, c8, f0, f1, f2, f3, f4, f5, f6, f7, f8, lt9⟩ := id K1
  go_wp2
  have R := (((((((((K1.put0 (.int .i64 k)).put1 (.bool y)).put2 (.bool n)).put3 (.slice ao l.length cap)).put4 (.int .i64 sc)).put5 (.int .i64 d)).put6 (.int .i64 mo)).put7 (.int .i64 da)).put8 (.string t))
  have BB := (((((((((B1.setCell (p := ⟨w.heap.size, 0, none⟩) (Nat.le_refl _) (.int .i64 k)).setCell (p := ⟨w.heap.size, 1, none⟩) (Nat.le_refl _) (.bool y)).setCell (p := ⟨w.heap.size, 2, none⟩) (Nat.le_refl _) (.bool n)).setCell (p := ⟨w.heap.size, 3, none⟩) (Nat.le_refl _) (.slice ao l.length cap)).setCell (p := ⟨w.heap.size, 4, none⟩) (Nat.le_refl _) (.int .i64 sc)).setCell (p := ⟨w.heap.size, 5, none⟩) (Nat.le_refl _) (.int .i64 d)).setCell (p := ⟨w.heap.size, 6, none⟩) (Nat.le_refl _) (.int .i64 mo)).setCell (p := ⟨w.heap.size, 7, none⟩) (Nat.le_refl _) (.int .i64 da)).setCell (p := ⟨w.heap.size, 8, none⟩) (Nat.le_refl _) (.string t))
  have OO := (((((((((o2.setBelow (a := ⟨w.heap.size, 0, none⟩) (Nat.lt_succ_self _) (.int .i64 k)).setBelow (a := ⟨w.heap.size, 1, none⟩) (Nat.lt_succ_self _) (.bool y)).setBelow (a := ⟨w.heap.size, 2, none⟩) (Nat.lt_succ_self _) (.bool n)).setBelow (a := ⟨w.heap.size, 3, none⟩) (Nat.lt_succ_self _) (.slice ao l.length cap)).setBelow (a := ⟨w.heap.size, 4, none⟩) (Nat.lt_succ_self _) (.int .i64 sc)).setBelow (a := ⟨w.heap.size, 5, none⟩) (Nat.lt_succ_self _) (.int .i64 d)).setBelow (a := ⟨w.heap.size, 6, none⟩) (Nat.lt_succ_self _) (.int .i64 mo)).setBelow (a := ⟨w.heap.size, 7, none⟩) (Nat.lt_succ_self _) (.int .i64 da)).setBelow (a := ⟨w.heap.size, 8, none⟩) (Nat.lt_succ_self _) (.string t))
  generalize (((((((((w1.setCell ⟨w.heap.size, 0, none⟩ (.int .i64 k)).setCell ⟨w.heap.size, 1, none⟩ (.bool y)).setCell ⟨w.heap.size, 2, none⟩ (.bool n)).setCell ⟨w.heap.size, 3, none⟩ (.slice ao l.length cap)).setCell ⟨w.heap.size, 4, none⟩ (.int .i64 sc)).setCell ⟨w.heap.size, 5, none⟩ (.int .i64 d)).setCell ⟨w.heap.size, 6, none⟩ (.int .i64 mo)).setCell ⟨w.heap.size, 7, none⟩ (.int .i64 da)).setCell ⟨w.heap.size, 8, none⟩ (.string t)) = W9 at *
  obtain ⟨r0, r1, r2, r3, r4, r5, r6, r7, r8, -, -, -, -, -, -, -, -, -, -⟩ := id R
  refine bodyPost_ret (v := .tuple #[.agg #[.int .i64 k, .bool y, .bool n, .slice ao l.length cap, .int .i64 sc, .int .i64 d, .int .i64 mo, .int .i64 da, .string t], .bool ok]) (by simp [results, Tryz.results17, go_sem, r0, r1, r2, r3, r4, r5, r6, r7, r8]) rfl (⟨⟨k, y, n, l, sc, d, mo, da, t⟩, ao, cap, ok, rfl, OO.mono (Nat.le_succ _), BB, unhide HC⟩)

end Go.Proofs.YtdklikicngmkbaaGreatDoor

namespace Go.Proofs.YtdklikicngmkbaaGreatDoor
open Go.RowKit
set_option maxRecDepth 100000
set_option linter.unusedSimpArgs false
set_option linter.unusedVariables false

theorem markValue_any (w : World) (B : Nat) (k : Int) (y n : Bool) (ao : Option Addr) (l : List Int) (cap : Nat) (sc d mo da : Int) (t : ByteArray) (q : Int) (ho : Own B w (.slice ao l.length cap) l) (hl : l.length ≤ 1048576) (h0 : 0 ≤ q) (h1 : q ≤ 2097152) :
    Calls Tryz.prog 27 #[.agg #[.int .i64 k, .bool y, .bool n, .slice ao l.length cap, .int .i64 sc, .int .i64 d, .int .i64 mo, .int .i64 da, .string t], .int .i64 q] w fun e w' => e = .returned (.int .i64 (q + l.length)) ∧ Own B w' (.slice ao l.length cap) (marks q l.length) ∧ w.grownBy w' (Value.slice ao l.length cap).ownBlock := by
  have H := hide (fun o => markDec_any (w.alloc o) B n (.slice ao l.length cap) l sc q (ho.later ((Below.refl _ _).alloc (Nat.le_refl _) o)) hl h0 h1)
  clear ho
  go_enter Tryz.func27, Tryz.ntmps27
  go_wp2_with fail
  refine (unhide H _).mono ?_
  rintro e w1 ⟨rfl, hown, hgr⟩
  go_wp2
  go_ret
  exact ⟨rfl, hown, grown_trans (World.grownBy_alloc _ _ _) hgr⟩

theorem heldValue_any (w : World) (k : Int) (y n : Bool) (v : Value) (sc d mo da : Int) (t : ByteArray) (q : Int) (N : Nat) (hr : Reads w v (marks q N)) (hl : N ≤ 1048576) (h0 : 0 ≤ q) (h1 : q ≤ 2097152) :
    Calls Tryz.prog 28 #[.agg #[.int .i64 k, .bool y, .bool n, v, .int .i64 sc, .int .i64 d, .int .i64 mo, .int .i64 da, .string t], .int .i64 q] w fun e w' => e = .returned (.int .i64 (q + N)) ∧ Below w.heap.size w w' := by
  have H := hide (fun o => heldDec_any (w.alloc o) n v sc q N (hr.alloc o) hl h0 h1)
  clear hr
  have hk : 0 ≤ q + N := by omega
  go_enter Tryz.func28, Tryz.ntmps28
  go_wp2_with fail
  refine (unhide H _).mono ?_
  rintro e w1 ⟨rfl, hb⟩
  go_wp2
  go_ret
  exact ⟨rfl, ((Below.refl _ _).alloc (Nat.le_refl _) _).trans (hb.mono (by simp))⟩

theorem V9.grown {w w' : World} {b : Nat} {x0 x1 x2 x3 x4 x5 x6 x7 x8 : Value} {r : Option Nat} (h : V9 w b x0 x1 x2 x3 x4 x5 x6 x7 x8) (k : w.grownBy w' r) (hr : some b ≠ r) : V9 w' b x0 x1 x2 x3 x4 x5 x6 x7 x8 := h.ofBlock (k.block b h.lt hr) k.size

theorem Own.grownX {B : Nat} {w w' : World} {v : Value} {l : List Int} {r : Option Nat} (h : Own B w v l) (k : w.grownBy w' r) (hr : ∀ j, v.ownBlock = some j → some j ≠ r) : Own B w' v l := by
  refine World.ownsRow.kept h k ?_
  cases hb : v.ownBlock with
  | none => exact .inl rfl
  | some j => exact .inr (hr j hb)

theorem below_grown2 {w w3 w4 : World} {r : Option Nat} (h : Below w.heap.size w w3) (k : w3.grownBy w4 r) (hr : ∀ j, r = some j → w.heap.size ≤ j) : Below w.heap.size w w4 := by
  refine ⟨k.os.trans h.os, k.tape.trans h.tape, k.output.trans h.output, Nat.le_trans h.size k.size, fun i hi => ?_⟩
  rw [k.block i (Nat.lt_of_lt_of_le hi h.size) (fun e => by have := hr i e.symm; omega), h.block i hi]

theorem vt_len {s : ByteArray} {V : Vl} (h : VT s V) : V.l.length ≤ 16 := by
  rcases vt_shape h with ⟨e, -⟩ | ⟨y', e, -⟩ | ⟨n, l, sc, e, a, -⟩ | ⟨d, e, -, -⟩ | ⟨mo, da, e, -, -⟩ | ⟨t, e, -, -⟩
  · rw [e]; exact Nat.zero_le _
  · rw [e]; exact Nat.zero_le _
  · rw [e]; exact (decB_iff.1 a).1.1
  · rw [e]; exact Nat.zero_le _
  · rw [e]; exact Nat.zero_le _
  · rw [e]; exact Nat.zero_le _
theorem vt_txt {s : ByteArray} {V : Vl} (h : VT s V) : V.t.size ≤ 12 := by
  rcases vt_shape h with ⟨e, -⟩ | ⟨y', e, -⟩ | ⟨n, l, sc, e, a, -⟩ | ⟨d, e, -, -⟩ | ⟨mo, da, e, -, -⟩ | ⟨t, e, a, -⟩
  · rw [e]; exact Nat.zero_le _
  · rw [e]; exact Nat.zero_le _
  · rw [e]; exact Nat.zero_le _
  · rw [e]; exact Nat.zero_le _
  · rw [e]; exact Nat.zero_le _
  · rw [e]
    simp only [textB, Bool.and_eq_true, decide_eq_true_eq] at a
    exact a.2

/-- Two that read one text read one value. -/
theorem gv_same {s : ByteArray} {V U : Vl} {a b : Bool} (h : (a = true ∧ VT s V) ∨ (a = false ∧ V = V0 ∧ ∀ U, ¬ VT s U)) (k : (b = true ∧ VT s U) ∨ (b = false ∧ U = V0 ∧ ∀ U, ¬ VT s U)) : U = V ∧ b = a ∧ V.l.length ≤ 16 ∧ V.t.size ≤ 12 := by
  rcases h with ⟨h1, h2⟩ | ⟨h1, h2, h3⟩
  · rcases k with ⟨k1, k2⟩ | ⟨k1, k2, k3⟩
    · exact ⟨vt_one k2 h2, k1.trans h1.symm, vt_len h2, vt_txt h2⟩
    · exact absurd h2 (k3 _)
  · rcases k with ⟨k1, k2⟩ | ⟨k1, k2, k3⟩
    · exact absurd k2 (h3 _)
    · exact ⟨k2.trans h2.symm, k1.trans h1.symm, by rw [h2]; exact Nat.zero_le _, by rw [h2]; exact Nat.zero_le _⟩

end Go.Proofs.YtdklikicngmkbaaGreatDoor

namespace Go.Proofs.YtdklikicngmkbaaGreatDoor
open Go.RowKit
set_option maxRecDepth 100000
set_option linter.unusedSimpArgs false
set_option linter.unusedVariables false

theorem value_0 (w : World) : Calls Tryz.prog 274 #[.agg #[]] w fun e w' => e = .returned (.agg #[.int .i64 0, .bool false, .bool false, .slice none 0 0, .int .i64 0, .int .i64 0, .int .i64 0, .int .i64 0, .string ⟨#[]⟩]) ∧ Below w.heap.size w w' := by
  go_enter Tryz.func274, Tryz.ntmps274
  go_wp2
  refine bodyPost_ret (v := .agg #[.int .i64 0, .bool false, .bool false, .slice none 0 0, .int .i64 0, .int .i64 0, .int .i64 0, .int .i64 0, .string ⟨#[]⟩]) (by simp [results, Tryz.results274, go_sem]) rfl ⟨rfl, ?_⟩
  exact ((Below.refl _ _).alloc (Nat.le_refl _) _).alloc (by simp) _

theorem value_1 (w : World) (y : Bool) : Calls Tryz.prog 278 #[.bool y] w fun e w' => e = .returned (.agg #[.int .i64 1, .bool y, .bool false, .slice none 0 0, .int .i64 0, .int .i64 0, .int .i64 0, .int .i64 0, .string ⟨#[]⟩]) ∧ Below w.heap.size w w' := by
  go_enter Tryz.func278, Tryz.ntmps278
  go_wp2
  refine bodyPost_ret (v := .agg #[.int .i64 1, .bool y, .bool false, .slice none 0 0, .int .i64 0, .int .i64 0, .int .i64 0, .int .i64 0, .string ⟨#[]⟩]) (by simp [results, Tryz.results278, go_sem]) rfl ⟨rfl, ?_⟩
  exact (Below.refl _ _).alloc (Nat.le_refl _) _

theorem value_2 (w : World) (n : Bool) (ao : Option Addr) (N cap : Nat) (sc : Int) : Calls Tryz.prog 284 #[.agg #[.bool n, .slice ao N cap, .int .i64 sc]] w fun e w' => e = .returned (.agg #[.int .i64 2, .bool false, .bool n, .slice ao N cap, .int .i64 sc, .int .i64 0, .int .i64 0, .int .i64 0, .string ⟨#[]⟩]) ∧ Below w.heap.size w w' := by
  go_enter Tryz.func284, Tryz.ntmps284
  go_wp2
  refine bodyPost_ret (v := .agg #[.int .i64 2, .bool false, .bool n, .slice ao N cap, .int .i64 sc, .int .i64 0, .int .i64 0, .int .i64 0, .string ⟨#[]⟩]) (by simp [results, Tryz.results284, go_sem]) rfl ⟨rfl, ?_⟩
  exact ((Below.refl _ _).alloc (Nat.le_refl _) _).alloc (by simp) _

theorem value_3 (w : World) (d : Int) : Calls Tryz.prog 301 #[.int .i64 d] w fun e w' => e = .returned (.agg #[.int .i64 3, .bool false, .bool false, .slice none 0 0, .int .i64 0, .int .i64 d, .int .i64 0, .int .i64 0, .string ⟨#[]⟩]) ∧ Below w.heap.size w w' := by
  go_enter Tryz.func301, Tryz.ntmps301
  go_wp2
  refine bodyPost_ret (v := .agg #[.int .i64 3, .bool false, .bool false, .slice none 0 0, .int .i64 0, .int .i64 d, .int .i64 0, .int .i64 0, .string ⟨#[]⟩]) (by simp [results, Tryz.results301, go_sem]) rfl ⟨rfl, ?_⟩
  exact (Below.refl _ _).alloc (Nat.le_refl _) _

theorem value_4 (w : World) (mo da : Int) : Calls Tryz.prog 305 #[.agg #[.int .i64 mo, .int .i64 da]] w fun e w' => e = .returned (.agg #[.int .i64 4, .bool false, .bool false, .slice none 0 0, .int .i64 0, .int .i64 0, .int .i64 mo, .int .i64 da, .string ⟨#[]⟩]) ∧ Below w.heap.size w w' := by
  go_enter Tryz.func305, Tryz.ntmps305
  go_wp2
  refine bodyPost_ret (v := .agg #[.int .i64 4, .bool false, .bool false, .slice none 0 0, .int .i64 0, .int .i64 0, .int .i64 mo, .int .i64 da, .string ⟨#[]⟩]) (by simp [results, Tryz.results305, go_sem]) rfl ⟨rfl, ?_⟩
  exact ((Below.refl _ _).alloc (Nat.le_refl _) _).alloc (by simp) _

theorem value_5 (w : World) (t : ByteArray) : Calls Tryz.prog 310 #[.string t] w fun e w' => e = .returned (.agg #[.int .i64 5, .bool false, .bool false, .slice none 0 0, .int .i64 0, .int .i64 0, .int .i64 0, .int .i64 0, .string t]) ∧ Below w.heap.size w w' := by
  go_enter Tryz.func310, Tryz.ntmps310
  go_wp2
  refine bodyPost_ret (v := .agg #[.int .i64 5, .bool false, .bool false, .slice none 0 0, .int .i64 0, .int .i64 0, .int .i64 0, .int .i64 0, .string t]) (by simp [results, Tryz.results310, go_sem]) rfl ⟨rfl, ?_⟩
  exact (Below.refl _ _).alloc (Nat.le_refl _) _

/-- A text is just this one. -/
def trueB (s : ByteArray) : Bool := s.toList == [116, 114, 117, 101]
def falseB (s : ByteArray) : Bool := s.toList == [102, 97, 108, 115, 101]

theorem truthGet_any (w : World) (s : ByteArray) : Calls Tryz.prog 72 #[.string s] w fun e w' => e = .returned (.tuple #[.iface 93 (.bool (trueB s)), .bool (trueB s || falseB s)]) ∧ w' = w := by
  have ht : trueB s = (s.toList == [116, 114, 117, 101]) := rfl
  have hf : falseB s = (s.toList == [102, 97, 108, 115, 101]) := rfl
  go_enter Tryz.func72, Tryz.ntmps72
  go_wp2_with fail
  · rename_i h
    have h1 : trueB s = true := by rw [ht, h]; rfl
    rw [h1]
    go_ret2
    exact ⟨rfl, rfl⟩
  · rw [ht, hf]
    go_ret2
    exact ⟨rfl, rfl⟩

end Go.Proofs.YtdklikicngmkbaaGreatDoor
