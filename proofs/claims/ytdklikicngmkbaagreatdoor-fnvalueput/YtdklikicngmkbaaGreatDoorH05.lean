/- What a law's walk carries. jtInts, jtBig of the laws, by contracts. A box of three cells beside what a law's walk carries. A decimal is the same as itself: jtDec by a contract. Two values that are the same, by the laws' own word jtVal. -/
import Derived.Test.YtdklikicngmkbaaGreatDoorG01
import Derived.Test.YtdklikicngmkbaaGreatDoorG22
import Derived.WalkSpells
import Derived.Test.YtdklikicngmkbaaGreatDoorH06
namespace Go.Proofs.YtdklikicngmkbaaGreatDoor
open Go.RowKit


/-- The law began in w; now, in w', the cells 'cs' (block, place, value) hold, and the lists 'os' (from block, to block, value, ints) are owned. -/
structure Stt (w w' : World) (cs : List (Nat × Nat × Value)) (os : List (Nat × Nat × Value × List Int)) : Prop where
  below : Below w.heap.size w w'
  cells : ∀ c ∈ cs, w'.cell? ⟨c.1, c.2.1, none⟩ = some c.2.2
  owns : ∀ o ∈ os, Own o.1 w' o.2.2.1 o.2.2.2 ∧ (∀ k, o.2.2.1.ownBlock = some k → k < o.2.1) ∧ o.2.1 ≤ w'.heap.size ∧ w.heap.size ≤ o.1

theorem Stt.later {w w1 w2 : World} {cs : List (Nat × Nat × Value)} {os : List (Nat × Nat × Value × List Int)} (h : Stt w w1 cs os) (k : Below w1.heap.size w1 w2) : Stt w w2 cs os :=
  ⟨h.below.trans (k.mono h.below.size), fun c hc => cell_later k (h.cells c hc), fun o ho => ⟨(h.owns o ho).1.later k, (h.owns o ho).2.1, Nat.le_trans (h.owns o ho).2.2.1 k.size, (h.owns o ho).2.2.2⟩⟩

theorem Stt.drew {w w1 : World} {cs : List (Nat × Nat × Value)} {os : List (Nat × Nat × Value × List Int)} (h : Stt w w1 cs os) : Stt w w1.drew cs os := h.later (Below.refl _ _).drew

theorem Stt.drewN {w w1 : World} {cs : List (Nat × Nat × Value)} {os : List (Nat × Nat × Value × List Int)} (h : Stt w w1 cs os) (n : Nat) : Stt w (w1.drewN n) cs os := h.later (below_drewN (Below.refl _ _) n)

/-- A list more, out of a call that made it. -/
theorem Stt.own {w w1 w2 : World} {cs : List (Nat × Nat × Value)} {os : List (Nat × Nat × Value × List Int)} (h : Stt w w1 cs os) (k : Below w1.heap.size w1 w2) {s : Value} {l : List Int} (ho : Own w1.heap.size w2 s l) :
    Stt w w2 cs (os ++ [(w1.heap.size, w2.heap.size, s, l)]) := by
  refine ⟨(h.later k).below, (h.later k).cells, fun o hm => ?_⟩
  rcases List.mem_append.1 hm with hm | hm
  · exact (h.later k).owns o hm
  · simp at hm
    subst hm
    exact ⟨ho, fun j hj => (ho.lt j hj).2, Nat.le_refl _, h.below.size⟩

/-- A box more, of two cells. -/
theorem Stt.box {w w1 : World} {cs : List (Nat × Nat × Value)} {os : List (Nat × Nat × Value × List Int)} (h : Stt w w1 cs os) (x y : Value) (t : TypeId) :
    Stt w (w1.alloc (.cells #[x, y] t)) (cs ++ [(w1.heap.size, 0, x), (w1.heap.size, 1, y)]) os := by
  have k : Below w1.heap.size w1 (w1.alloc (.cells #[x, y] t)) := (Below.refl _ _).alloc (Nat.le_refl _) _
  refine ⟨(h.later k).below, fun c hm => ?_, (h.later k).owns⟩
  rcases List.mem_append.1 hm with hm | hm
  · exact (h.later k).cells c hm
  · simp at hm
    rcases hm with rfl | rfl <;> simp

/-- Cells alone. -/
theorem Stt.less {w w1 : World} {cs cs' : List (Nat × Nat × Value)} {os os' : List (Nat × Nat × Value × List Int)} (h : Stt w w1 cs os) (hc : ∀ c ∈ cs', c ∈ cs) (ho : ∀ o ∈ os', o ∈ os) : Stt w w1 cs' os' :=
  ⟨h.below, fun c k => h.cells c (hc c k), fun o k => h.owns o (ho o k)⟩

/-- Marks laid over one list: all else stays that lies in other blocks. -/
theorem Stt.mark {w w1 w2 : World} {cs : List (Nat × Nat × Value)} {os1 os2 : List (Nat × Nat × Value × List Int)} {B E : Nat} {s : Value} {l l' : List Int} (h : Stt w w1 cs (os1 ++ (B, E, s, l) :: os2))
    (ho : Own B w2 s l') (hg : w1.grownBy w2 s.ownBlock) (hcs : ∀ c ∈ cs, c.1 < B ∨ E ≤ c.1) (hos1 : ∀ o ∈ os1, o.2.1 ≤ B) (hos2 : ∀ o ∈ os2, E ≤ o.1) : Stt w w2 cs (os1 ++ (B, E, s, l') :: os2) := by
  obtain ⟨h1, h2, h3, h4⟩ := h.owns (B, E, s, l) (by simp)
  have hne : ∀ k, (k < B ∨ E ≤ k) → some k ≠ s.ownBlock := by
    intro k hk e
    have a := (h1.lt k e.symm).1
    have b := h2 k e.symm
    simp only at a b
    omega
  have hne' : ∀ (o : Nat × Nat × Value × List Int), o ∈ os1 ++ os2 → (o.2.2.1.ownBlock = none ∨ o.2.2.1.ownBlock ≠ s.ownBlock) := by
    intro o hm
    have hm' : o ∈ os1 ++ (B, E, s, l) :: os2 := by simp at hm ⊢; rcases hm with hm | hm <;> simp [hm]
    obtain ⟨q1, q2, _, _⟩ := h.owns o hm'
    cases hk : o.2.2.1.ownBlock with
    | none => exact .inl rfl
    | some k =>
      refine .inr (hne k ?_)
      have a := (q1.lt k hk).1
      have b := q2 k hk
      rcases List.mem_append.1 hm with hm | hm
      · have := hos1 o hm; omega
      · have := hos2 o hm; omega
  refine ⟨⟨hg.os.trans h.below.os, hg.tape.trans h.below.tape, hg.output.trans h.below.output, Nat.le_trans h.below.size hg.size, fun k hk => ?_⟩, fun c hc => hg.cell (h.cells c hc) (hne _ (hcs c hc)), fun o hm => ?_⟩
  · rw [hg.block k (Nat.lt_of_lt_of_le hk h.below.size) (hne k (.inl (Nat.lt_of_lt_of_le hk h4))), h.below.block k hk]
  · by_cases e : o = (B, E, s, l')
    · subst e
      exact ⟨ho, h2, Nat.le_trans h3 hg.size, h4⟩
    · have hm2 : o ∈ os1 ++ os2 := by simp at hm ⊢; rcases hm with hm | hm | hm <;> simp_all
      have hm' : o ∈ os1 ++ (B, E, s, l) :: os2 := by simp at hm2 ⊢; rcases hm2 with hm2 | hm2 <;> simp [hm2]
      obtain ⟨q1, q2, q3, q4⟩ := h.owns o hm'
      exact ⟨World.ownsRow.kept q1 hg (hne' o hm2), q2, Nat.le_trans q3 hg.size, q4⟩

/-- A box that stands empty. -/
structure EBox (w : World) (k : Nat) : Prop where
  c0 : w.cell? ⟨k, 0, none⟩ = some (.bool false)
  c1 : w.cell? ⟨k, 1, none⟩ = some (.slice none 0 0)
  f0 : w.frozen? ⟨k, 0, none⟩ = false
  f1 : w.frozen? ⟨k, 1, none⟩ = false
  lt : k < w.heap.size

theorem EBox.later {w w' : World} {k : Nat} (h : EBox w k) (b : Below w.heap.size w w') : EBox w' k :=
  ⟨cell_later b h.c0, cell_later b h.c1, frozen_later b h.f0 h.lt, frozen_later b h.f1 h.lt, lt_later b h.lt⟩

theorem EBox.new (X : World) : EBox (X.alloc (.cells #[.bool false, .slice none 0 0] 25)) X.heap.size :=
  ⟨by go_simp, by go_simp, by go_simp, by go_simp, by simp⟩

theorem EBox.alloc {X w' : World} (b : Below (X.alloc (.cells #[.bool false, .slice none 0 0] 25)).heap.size (X.alloc (.cells #[.bool false, .slice none 0 0] 25)) w') : EBox w' X.heap.size := (EBox.new X).later b

theorem EBox.drew {X w' : World} (b : Below (X.alloc (.cells #[.bool false, .slice none 0 0] 25)).drew.heap.size (X.alloc (.cells #[.bool false, .slice none 0 0] 25)).drew w') : EBox w' X.heap.size :=
  ((EBox.new X).later (Below.refl _ _).drew).later b

/-- A box that stood empty is filled. -/
theorem Stt.set2 {w w1 : World} {cs : List (Nat × Nat × Value)} {os : List (Nat × Nat × Value × List Int)} (h : Stt w w1 cs os) {k : Nat} {x y a b : Value} (h0 : w1.cell? ⟨k, 0, none⟩ = some a) (h1 : w1.cell? ⟨k, 1, none⟩ = some b)
    (hk : w.heap.size ≤ k) (hcs : ∀ c ∈ cs, c.1 ≠ k) (hos : ∀ o ∈ os, k < o.1 ∨ o.2.1 ≤ k) :
    Stt w ((w1.setCell ⟨k, 0, none⟩ x).setCell ⟨k, 1, none⟩ y) (cs ++ [(k, 0, x), (k, 1, y)]) os := by
  have hh : ∀ j, j ≠ k → ((w1.setCell ⟨k, 0, none⟩ x).setCell ⟨k, 1, none⟩ y).heap[j]? = w1.heap[j]? := by
    intro j hj
    rw [Below.heap_setCell _ _ _ _ (by exact hj), Below.heap_setCell _ _ _ _ (by exact hj)]
  refine ⟨(h.below.setCell (by exact hk) _).setCell (by exact hk) _, fun c hm => ?_, fun o hm => ?_⟩
  · rcases List.mem_append.1 hm with hm | hm
    · exact (World.cell?_of_block (a := ⟨c.1, c.2.1, none⟩) (hh c.1 (hcs c hm))).trans (h.cells c hm)
    · simp at hm
      rcases hm with rfl | rfl
      · go_simp
      · go_simp
  · obtain ⟨q1, q2, q3, q4⟩ := h.owns o hm
    refine ⟨World.ownsRow.kept (row := some k) q1 ⟨rfl, rfl, rfl, by simp, fun j _ hj => hh j (fun e => hj (by rw [e]))⟩ ?_, q2, by simpa using q3, q4⟩
    cases hb : o.2.2.1.ownBlock with
    | none => exact .inl rfl
    | some j =>
      refine .inr (fun e => ?_)
      obtain rfl := Option.some.inj e
      have a := (q1.lt j hb).1
      have b := q2 j hb
      have := hos o hm
      omega

/-- A box that was made behind wb is filled. -/
theorem Stt.fill {w wb w5 : World} {cs : List (Nat × Nat × Value)} {os : List (Nat × Nat × Value × List Int)} {n : Nat × Nat × Value × List Int} (Sb : Stt w wb cs os) (S5 : Stt w w5 cs (os ++ [n])) {k : Nat} (E : EBox w5 k) (hk : wb.heap.size ≤ k) (hn : k < n.1) (x y : Value) :
    Stt w ((w5.setCell ⟨k, 0, none⟩ x).setCell ⟨k, 1, none⟩ y) (cs ++ [(k, 0, x), (k, 1, y)]) (os ++ [n]) := by
  refine S5.set2 E.c0 E.c1 (Nat.le_trans Sb.below.size hk) (fun c hc => Nat.ne_of_lt (Nat.lt_of_lt_of_le (World.block_lt_of_cell? _ _ (Sb.cells c hc)) hk)) ?_
  intro o ho
  rcases List.mem_append.1 ho with ho | ho
  · exact .inr (Nat.le_trans (Sb.owns o ho).2.2.1 hk)
  · simp at ho
    subst ho
    exact .inl hn

theorem Stt.blk {w w' : World} {cs : List (Nat × Nat × Value)} {os : List (Nat × Nat × Value × List Int)} (h : Stt w w' cs os) {c : Nat × Nat × Value} (hc : c ∈ cs) : c.1 < w'.heap.size := World.block_lt_of_cell? _ _ (h.cells c hc)

end Go.Proofs.YtdklikicngmkbaaGreatDoor

namespace Go.Proofs.YtdklikicngmkbaaGreatDoor
open Go.RowKit
set_option maxRecDepth 100000



theorem jtInts_any (w : World) (u v : Value) (l m : List Int) (hu : Reads w u l) (hv : Reads w v m) :
    Calls Tryz.prog 126 #[u, v] w fun e w' => e = .returned (.bool (decide (l = m))) ∧ Below w.heap.size w w' := by
  obtain ⟨ao, b, off, cap, rfl, hu⟩ := hu
  obtain ⟨ao', b', off', cap', rfl, hv⟩ := hv
  have h1 := hu.le
  have h2 := hu.big
  have h3 := hv.le
  have h4 := hv.big
  unfold maxLen at h2 h4
  by_cases hlen : l.length = m.length
  · have hne : ((l.length : Int) != (m.length : Int)) = false := by simp; omega
    have hle1 : l.length ≤ m.length := by omega
    have hle2 : m.length ≤ l.length := by omega
    clear hlen
    go_enter Tryz.func126, Tryz.ntmps126
    go_wp2
    go_loopw [5] (fun i wr => ∃ k : Nat, k ≤ l.length ∧ i = .int .i64 k ∧ l.take k = m.take k ∧ Below w.heap.size w wr) (fun i _ => l.length - (intOf i).toNat)
    case atStart => exact ⟨0, Nat.zero_le _, rfl, by simp, Below.refl _ _⟩
    case round =>
      obtain ⟨k, hk, rfl, ht, hbel⟩ := hrel
      have Ht := hide ht
      clear ht
      by_cases hlt : k < l.length
      · have hlt' : k < m.length := by omega
        have hc := (hu.later hbel).cell k hlt
        have hc' := (hv.later hbel).cell k hlt'
        have hat := hu.at_ (by omega)
        have hat' := hv.at_ (by omega)
        subst hat hat'
        clear hu hv
        by_cases he : l[k] = m[k]
        · have he' : (l[k] != m[k]) = false := by simp [he]
          have He := hide he
          clear he
          go_wp2
          go_quiet (fail)
          go_wp2
          go_roundw
          case rel => exact ⟨k + 1, by omega, by go_num, take_succ_eq (unhide Ht) hlt hlt' (unhide He), below_draws hbel _⟩
          case measure => simp [intOf]; omega
        · have he' : (l[k] != m[k]) = true := by simpa using he
          have hd : decide (l = m) = false := by simp; intro e; subst e; exact he rfl
          have Hd := hide hd
          clear hd he
          go_wp2
          go_quiet (fail)
          go_wp2
          go_ret
          exact ⟨by rw [unhide Hd]; rfl, below_draws hbel _⟩
      · have hd : decide (l = m) = true := by
          have := unhide Ht
          rw [List.take_of_length_le (by omega), List.take_of_length_le (by omega)] at this
          simpa using this
        have Hd := hide hd
        clear hd
        go_wp2
        go_ret
        exact ⟨by rw [unhide Hd]; rfl, hbel⟩
  · have hne : ((l.length : Int) != (m.length : Int)) = true := by simp; omega
    have hd : decide (l = m) = false := by simp; intro e; exact hlen (by rw [e])
    rw [hd]
    clear hu hv
    go_enter Tryz.func126, Tryz.ntmps126
    go_wp2
    go_ret
    exact ⟨rfl, Below.refl _ _⟩

theorem jtBig_same (w : World) (p : Bool) (u v : Value) (l : List Int) (hu : Reads w u l) (hv : Reads w v l) :
    Calls Tryz.prog 78 #[.agg #[.bool p, u], .agg #[.bool p, v]] w fun e w' => e = .returned (.bool true) ∧ Below w.heap.size w w' := by
  have B0 : Below w.heap.size w ((w.alloc (.cells #[.bool p, u] 25)).alloc (.cells #[.bool p, v] 25)) := ((Below.refl _ _).alloc (Nat.le_refl _) _).alloc (by simp) _
  have C := hide (jtInts_any _ u v l l (hu.later B0) (hv.later B0))
  have hpp : (p == p) = true := by simp
  obtain ⟨ao, b, off, cap, rfl, hu⟩ := hu
  obtain ⟨ao', b', off', cap', rfl, hv⟩ := hv
  clear hu hv
  go_enter Tryz.func78, Tryz.ntmps78
  go_wp2_with fail
  refine (unhide C).mono ?_
  rintro e w1 ⟨rfl, b1⟩
  have hd : decide (l = l) = true := by simp
  have B1 := B0.trans (b1.mono B0.size)
  clear b1 C B0
  go_wp2
  go_ret
  exact ⟨rfl, B1⟩

end Go.Proofs.YtdklikicngmkbaaGreatDoor

namespace Go.Proofs.YtdklikicngmkbaaGreatDoor
open Go.RowKit

/-- A box more, of three cells. -/
theorem Stt.box3 {w w1 : World} {cs : List (Nat × Nat × Value)} {os : List (Nat × Nat × Value × List Int)} (h : Stt w w1 cs os) (x y z : Value) (t : TypeId) :
    Stt w (w1.alloc (.cells #[x, y, z] t)) (cs ++ [(w1.heap.size, 0, x), (w1.heap.size, 1, y), (w1.heap.size, 2, z)]) os := by
  have k : Below w1.heap.size w1 (w1.alloc (.cells #[x, y, z] t)) := (Below.refl _ _).alloc (Nat.le_refl _) _
  refine ⟨(h.later k).below, fun c hm => ?_, (h.later k).owns⟩
  rcases List.mem_append.1 hm with hm | hm
  · exact (h.later k).cells c hm
  · simp at hm
    rcases hm with rfl | rfl | rfl <;> simp

end Go.Proofs.YtdklikicngmkbaaGreatDoor

namespace Go.Proofs.YtdklikicngmkbaaGreatDoor
open Go.RowKit
set_option maxRecDepth 100000

theorem jtDec_same (w : World) (p : Bool) (u v : Value) (l : List Int) (s : Int) (hu : Reads w u l) (hv : Reads w v l) :
    Calls Tryz.prog 37 #[.agg #[.bool p, u, .int .i64 s], .agg #[.bool p, v, .int .i64 s]] w fun e w' => e = .returned (.bool true) ∧ Below w.heap.size w w' := by
  have h := fun o o' => jtBig_same ((w.alloc o).alloc o') p u v l ((hu.alloc _).alloc _) ((hv.alloc _).alloc _)
  have H := hide h
  clear h
  have e0 : (s == s) = true := by simp
  go_enter Tryz.func37, Tryz.ntmps37
  go_wp2_with fail
  refine (unhide H _ _).mono ?_
  rintro e w1 ⟨rfl, hb⟩
  go_wp2
  go_ret
  exact ⟨rfl, (((Below.refl _ _).alloc (Nat.le_refl _) _).alloc (by simp) _).trans (hb.mono (by simp; omega))⟩

end Go.Proofs.YtdklikicngmkbaaGreatDoor

namespace Go.Proofs.YtdklikicngmkbaaGreatDoor
open Go.RowKit
set_option maxRecDepth 100000
set_option linter.unusedSimpArgs false
set_option linter.unusedVariables false

set_option maxHeartbeats 4000000 in
theorem jtVal_same (w : World) (k : Int) (y n : Bool) (ao ao2 : Option Addr) (l : List Int) (cap cap2 : Nat) (sc d mo da : Int) (t : ByteArray) (hr : Reads w (.slice ao l.length cap) l) (hr2 : Reads w (.slice ao2 l.length cap2) l) :
    Calls Tryz.prog 15 #[.agg #[.int .i64 k, .bool y, .bool n, .slice ao l.length cap, .int .i64 sc, .int .i64 d, .int .i64 mo, .int .i64 da, .string t], .agg #[.int .i64 k, .bool y, .bool n, .slice ao2 l.length cap2, .int .i64 sc, .int .i64 d, .int .i64 mo, .int .i64 da, .string t]] w fun e w' => e = .returned (.bool true) ∧ Below w.heap.size w w' := by
  have C := hide (fun W (b : Below w.heap.size w W) => jtDec_same W n (.slice ao l.length cap) (.slice ao2 l.length cap2) l sc (hr.later b) (hr2.later b))
  obtain ⟨W0, hW0⟩ : ∃ W0, W0 = (w.alloc (.cells #[.int .i64 k, .bool y, .bool n, .slice ao l.length cap, .int .i64 sc, .int .i64 d, .int .i64 mo, .int .i64 da, .string t] 31)).alloc (.cells #[.int .i64 k, .bool y, .bool n, .slice ao2 l.length cap2, .int .i64 sc, .int .i64 d, .int .i64 mo, .int .i64 da, .string t] 31) := ⟨_, rfl⟩
  have A0 : V9 W0 w.heap.size (.int .i64 k) (.bool y) (.bool n) (.slice ao l.length cap) (.int .i64 sc) (.int .i64 d) (.int .i64 mo) (.int .i64 da) (.string t) := by rw [hW0]; exact (V9.new w _ _ _ _ _ _ _ _ _ _).later ((Below.refl _ _).alloc (Nat.le_refl _) _)
  have R0 : V9 W0 (w.heap.size + 1) (.int .i64 k) (.bool y) (.bool n) (.slice ao2 l.length cap2) (.int .i64 sc) (.int .i64 d) (.int .i64 mo) (.int .i64 da) (.string t) := by
    rw [hW0]
    have h := V9.new (w.alloc (.cells #[.int .i64 k, .bool y, .bool n, .slice ao l.length cap, .int .i64 sc, .int .i64 d, .int .i64 mo, .int .i64 da, .string t] 31)) (.int .i64 k) (.bool y) (.bool n) (.slice ao2 l.length cap2) (.int .i64 sc) (.int .i64 d) (.int .i64 mo) (.int .i64 da) (.string t) 31
    simpa only [World.size_alloc] using h
  have B0 : Below w.heap.size w W0 := by rw [hW0]; exact ((Below.refl _ _).alloc (Nat.le_refl _) _).alloc (by simp) _
  clear hr hr2
  have hy : (y == y) = true := by simp
  have ht : (t.toList == t.toList) = true := by simp
  go_enter Tryz.func15, Tryz.ntmps15
  go_wp2_with fail
  rw [← hW0]
  clear hW0
  obtain ⟨a0, a1, a2, a3, a4, a5, a6, a7, a8, -, -, -, -, -, -, -, -, -, -⟩ := id A0
  obtain ⟨b0, b1, b2, b3, b4, b5, b6, b7, b8, -, -, -, -, -, -, -, -, -, -⟩ := id R0
  refine (unhide C _ B0).mono ?_
  rintro e w1 ⟨rfl, bx⟩
  have A1 := A0.later bx
  have R1 := R0.later bx
  have hs : w.heap.size + 1 < w1.heap.size := R1.lt
  clear a0 a1 a2 a3 a4 a5 a6 a7 a8 b0 b1 b2 b3 b4 b5 b6 b7 b8 A0 R0 C
  obtain ⟨a0, a1, a2, a3, a4, a5, a6, a7, a8, -, -, -, -, -, -, -, -, -, -⟩ := id A1
  obtain ⟨b0, b1, b2, b3, b4, b5, b6, b7, b8, -, -, -, -, -, -, -, -, -, -⟩ := id R1
  go_wp2
  go_ret
  exact ⟨rfl, B0.trans (bx.mono B0.size)⟩

end Go.Proofs.YtdklikicngmkbaaGreatDoor
