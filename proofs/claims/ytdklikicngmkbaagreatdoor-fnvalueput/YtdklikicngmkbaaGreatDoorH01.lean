/- What numbers answer; l1Big of the specification. A box of a number that stands empty while a call goes on. Shapes of what is owned. A number as a big one: BigOf of the specification, by a contract. -/
import Derived.Test.YtdklikicngmkbaaGreatDoorG22
import Derived.Test.YtdklikicngmkbaaGreatDoorG19
import Derived.Test.YtdklikicngmkbaaGreatDoorG07
import Derived.Test.YtdklikicngmkbaaGreatDoorG01
namespace Go.Proofs.YtdklikicngmkbaaGreatDoor
open Go.RowKit
set_option maxRecDepth 100000

theorem l1Big_any (w : World) (neg : Bool) (v : Value) (z : Int) (hneg : z ≠ 0 → neg = sg z) (hr : Reads w v (L z.natAbs)) (hz : z.natAbs < 10000 ^ 200) :
    Calls Tryz.prog 152 #[.bool neg, v] w (GivesBig2 w (outR true z)) := by
  have hl := L_len_le hz
  have ht : trim (L z.natAbs) = L z.natAbs := trim_self (L_last _)
  have hcall := fun o => l1Trim_any (w.alloc o) v (L z.natAbs) (hr.alloc o) (by omega)
  rw [ht] at hcall
  have eo1 : 16 < (L z.natAbs).length → outR true z = (false, [], false) := fun h => by unfold outR; rw [if_neg (by omega)]
  have eo2 : ¬ 16 < (L z.natAbs).length → outR true z = (sg z, L z.natAbs, true) := fun h => by unfold outR; rw [if_pos ⟨rfl, by omega⟩]
  have e0 : (L z.natAbs).length = 0 → sg z = false := fun h => by
    have := L_len_zero.1 h
    have e : z = 0 := by omega
    simp [sg, e]
  have e1 : (L z.natAbs).length ≠ 0 → neg = sg z := fun h => hneg (fun k => h (by simp [k, L_zero]))
  clear hneg ht hz
  generalize outR true z = O at *
  generalize L z.natAbs = ll at *
  generalize sg z = sz at *
  have HC := hide hcall
  obtain ⟨ao, b, off, cap, rfl, hr⟩ := hr
  clear hr hcall
  have E1 := hide e1
  have E0 := hide e0
  have EO1 := hide eo1
  have EO2 := hide eo2
  clear e0 e1 eo1 eo2
  go_enter Tryz.func152, Tryz.ntmps152
  go_wp2_with fail
  refine (unhide HC _).mono ?_
  rintro e w1 ⟨ao1, cap1, rfl, o1, b1⟩
  obtain ⟨hc, hf⟩ := bcell b1
  have hsz : w.heap.size < w1.heap.size := by have := b1.size; simp at this; omega
  have fin : Below w.heap.size w w1 := ((Below.refl _ _).alloc (Nat.le_refl _) _).trans (b1.mono (by simp))
  have fin2 : ∀ x y, Below w.heap.size w ((w1.setCell ⟨w.heap.size, 0, none⟩ x).setCell ⟨w.heap.size, 1, none⟩ y) := fun x y => (fin.setCell (Nat.le_refl _) _).setCell (Nat.le_refl _) _
  have fin3 : ∀ x y, Own w.heap.size ((w1.setCell ⟨w.heap.size, 0, none⟩ x).setCell ⟨w.heap.size, 1, none⟩ y) (.slice ao1 ll.length cap1) ll := fun x y => ((o1.setBelow (by simp) x).setBelow (by simp) y).mono (by simp)
  clear o1
  by_cases h16 : 16 < ll.length
  · have Heo := hide (unhide EO1 h16)
    go_wp2
    refine bodyPost_ret (v := .tuple #[.agg #[.bool false, .slice none 0 0], .bool false]) (by simp [results, Tryz.results152, go_sem, hc]) rfl ?_
    rw [unhide Heo]
    exact ⟨none, 0, rfl, Own.nil _ _, fin2 _ _⟩
  · have Heo := hide (unhide EO2 h16)
    by_cases h0 : ll.length = 0
    · have Es := hide (unhide E0 h0)
      have hz1 : ¬ 0 < ll.length := by omega
      clear h0
      cases neg
      all_goals
        go_wp2
        refine bodyPost_ret (v := .tuple #[.agg #[.bool false, .slice ao1 ll.length cap1], .bool true]) (by simp [results, Tryz.results152, go_sem, hc]) rfl ?_
        rw [unhide Heo, unhide Es]
        exact ⟨ao1, cap1, rfl, fin3 _ _, fin2 _ _⟩
    · have Es := hide (unhide E1 h0)
      have hp : 0 < ll.length := by omega
      clear h0
      cases neg
      · go_wp2
        refine bodyPost_ret (v := .tuple #[.agg #[.bool false, .slice ao1 ll.length cap1], .bool true]) (by simp [results, Tryz.results152, go_sem, hc]) rfl ?_
        rw [unhide Heo, ← unhide Es]
        exact ⟨ao1, cap1, rfl, fin3 _ _, fin2 _ _⟩
      · go_wp2
        refine bodyPost_ret (v := .tuple #[.agg #[.bool true, .slice ao1 ll.length cap1], .bool true]) (by simp [results, Tryz.results152, go_sem, hc]) rfl ?_
        rw [unhide Heo, ← unhide Es]
        exact ⟨ao1, cap1, rfl, fin3 _ _, fin2 _ _⟩

end Go.Proofs.YtdklikicngmkbaaGreatDoor

namespace Go.Proofs.YtdklikicngmkbaaGreatDoor
open Go.RowKit


/-- The place for an answer, made first. -/
structure EBox' (w0 w : World) : Prop where
  below : Below w0.heap.size w0 w
  c0 : w.cell? ⟨w0.heap.size, 0, none⟩ = some (.bool false)
  c1 : w.cell? ⟨w0.heap.size, 1, none⟩ = some (.slice none 0 0)
  f0 : w.frozen? ⟨w0.heap.size, 0, none⟩ = false
  f1 : w.frozen? ⟨w0.heap.size, 1, none⟩ = false
  lt : w0.heap.size < w.heap.size

theorem EBox'.later {w0 w w' : World} (h : EBox' w0 w) (b : Below w.heap.size w w') : EBox' w0 w' :=
  ⟨h.below.trans (b.mono h.below.size), cell_later b h.c0, cell_later b h.c1, frozen_later b h.f0 h.lt, frozen_later b h.f1 h.lt, lt_later b h.lt⟩

theorem EBox'.start (w : World) : EBox' w (w.alloc (.cells #[.bool false, .slice none 0 0] 25)) :=
  ⟨(Below.refl _ _).alloc (Nat.le_refl _) _, by go_simp, by go_simp, by go_simp, by go_simp, by simp⟩

end Go.Proofs.YtdklikicngmkbaaGreatDoor

namespace Go.Proofs.YtdklikicngmkbaaGreatDoor
open Go.RowKit


theorem EBox'.later1 {w0 w w' : World} (h : EBox' w0 w) (b : Below (w0.heap.size + 1) w w') : EBox' w0 w' :=
  ⟨h.below.trans (b.mono (Nat.le_succ _)), (b.cell (p := ⟨w0.heap.size, 0, none⟩) (Nat.lt_succ_self _)).trans h.c0, (b.cell (p := ⟨w0.heap.size, 1, none⟩) (Nat.lt_succ_self _)).trans h.c1, (b.frozen (p := ⟨w0.heap.size, 0, none⟩) (Nat.lt_succ_self _)).trans h.f0, (b.frozen (p := ⟨w0.heap.size, 1, none⟩) (Nat.lt_succ_self _)).trans h.f1, Nat.lt_of_lt_of_le h.lt b.size⟩

end Go.Proofs.YtdklikicngmkbaaGreatDoor

namespace Go.Proofs.YtdklikicngmkbaaGreatDoor
open Go.RowKit



theorem of_step {N : List Int} {rest : Int} {out : List Int} (h : N = out ++ L rest.natAbs) (h0 : rest ≠ 0) : N = (out ++ [((rest.natAbs % 10000 : Nat) : Int)]) ++ L (rest.natAbs / 10000) := by
  rw [h, L_pos (by omega)]
  simp

theorem tdiv_abs (rest : Int) : (rest.tdiv 10000).natAbs = rest.natAbs / 10000 := by
  rw [Int.natAbs_tdiv]
  rfl

theorem tmod_neg' {x : Int} (h : x < 0) : x.tmod 10000 = -((-x) % 10000) := by
  rw [show x.tmod 10000 = -((-x).tmod 10000) by rw [Int.neg_tmod]; simp, Int.tmod_eq_emod_of_nonneg (by omega)]

theorem tdiv_neg' {x : Int} (h : x < 0) : x.tdiv 10000 = -((-x) / 10000) := by
  rw [show x.tdiv 10000 = -((-x).tdiv 10000) by rw [Int.neg_tdiv]; simp, Int.tdiv_eq_ediv_of_nonneg (by omega)]

/-- What BigOf answers. -/
def ofR (n : Int) : Bool × List Int := (sg n, L n.natAbs)

set_option maxRecDepth 100000 in
theorem specBigOf_any (w : World) (n : Int) (hw1 : -9223372036854775808 ≤ n) (hw2 : n ≤ 9223372036854775807) :
    Calls Tryz.prog 149 #[.int .i64 n] w (GivesBig w (ofR n).1 (ofR n).2) := by
  have K0 : EBox' w (w.alloc (.cells #[.bool false, .slice none 0 0] 25)) := EBox'.start w
  have O0 := own_empty (B := w.heap.size + 1) (w.alloc (.cells #[.bool false, .slice none 0 0] 25)) (by simp)
  simp only [World.size_alloc] at O0
  show Calls Tryz.prog _ _ _ (GivesBig w (sg n) (L n.natAbs))
  have hN : n.natAbs < 10000 ^ 5 := by
    have : (10000 : Nat) ^ 5 = 100000000000000000000 := by rfl
    omega
  have hlen := L_len_le hN
  go_enter Tryz.func149, Tryz.ntmps149
  go_wp2
  go_loopw [3, 4, 5] (fun s rr _ wr => ∃ (rest : Int) (out : List Int), rr = .int .i64 rest ∧ -9223372036854775808 ≤ rest ∧ rest ≤ 9223372036854775807 ∧ L n.natAbs = out ++ L rest.natAbs ∧ Own (w.heap.size + 1) wr s out ∧ EBox' w wr ∧ w.heap.size + 1 ≤ wr.heap.size)
    (fun _ rr _ _ => (intOf rr).natAbs)
  case atStart => exact ⟨n, [], rfl, hw1, hw2, rfl, O0, K0.later1 ((Below.refl (w.heap.size + 1) _).alloc (by simp) _), by simp⟩
  case round =>
    obtain ⟨rest, out, rfl, hr1, hr2, hL, hown, hbox, hsz⟩ := hrel
    have HL := hide hL
    have hol : out.length ≤ 8000000 := by
      have := congrArg List.length hL
      rw [List.length_append] at this
      omega
    clear hL
    have HO := hide hown
    obtain ⟨ao, capo, rfl⟩ := hown.shape
    have shape := hown.split
    clear hown
    by_cases h0 : rest = 0
    · subst h0
      have e := unhide HL
      simp only [Int.natAbs_zero, L_zero, List.append_nil] at e
      rw [← e] at HO ⊢
      have hz : n = zof (decide (n < 0)) n.natAbs := by unfold zof; by_cases h : n < 0 <;> simp [h] <;> omega
      clear e HL shape hz O0
      obtain ⟨kb, kr0, kr1, kf0, kf1, kl⟩ := id hbox
      go_wp2
      refine bodyPost_ret (v := .agg #[.bool (sg n), .slice ao (L n.natAbs).length capo]) (by simp [results, Tryz.results149, go_sem, kr0, kr1, sg]) rfl ?_
      exact ⟨ao, capo, rfl, (((unhide HO).setBelow (by simp) _).setBelow (by simp) _).mono (by simp), (kb.setCell (by simp) _).setCell (by simp) _⟩
    · have h0' : (rest != 0) = true := by simpa using h0
      have hR := hide (of_step (unhide HL) h0)
      by_cases hp : 0 ≤ rest
      · rcases shape with ⟨e1, hz⟩ | ⟨g, capo', e1, hBg, hgs, hcapo, hmo⟩
        all_goals
          simp only [Value.slice.injEq] at e1
          obtain ⟨rfl, hz2, rfl⟩ := e1
          clear hz2
          (try (clear hz))
          go_wp2_with (at_builtin; refine wpList_push rfl _ _ 23 rfl Tryz.underlying23 (w.heap.size + 1) _ out _ (unhide HO) rfl rfl hol hsz ?_; intro g1 cap1 w1 hown1 hb1 hc1 hm1 hBg1 hgs1)
          go_roundw
          case rel => exact ⟨rest / 10000, _, rfl, by omega, by omega, by rw [show (rest / 10000).natAbs = rest.natAbs / 10000 by omega, unhide hR, show ((rest.natAbs % 10000 : Nat) : Int) = rest % 10000 by omega], hown1, hbox.later1 hb1, Nat.le_trans hsz hb1.size⟩
          case measure => simp only [intOf]; omega
      · have hneg : rest < 0 := by omega
        have et := tmod_neg' hneg
        have ed := tdiv_neg' hneg
        obtain ⟨r, hr⟩ : ∃ r, r = (-rest) % 10000 := ⟨_, rfl⟩
        obtain ⟨q, hq⟩ : ∃ q, q = (-rest) / 10000 := ⟨_, rfl⟩
        rw [← hr] at et
        rw [← hq] at ed
        have hr0 : 0 ≤ r := by omega
        have hr3 : r < 10000 := by omega
        have er : ((rest.natAbs % 10000 : Nat) : Int) = r := by omega
        have eq : (-q).natAbs = rest.natAbs / 10000 := by omega
        have hm : (-q).natAbs < rest.natAbs := by omega
        have hq1 : -9223372036854775808 ≤ -q := by omega
        have hq2 : -q ≤ 9223372036854775807 := by omega
        have ER := hide er
        have EQ := hide eq
        have HM := hide hm
        clear hr hq er eq hm
        rcases shape with ⟨e1, hz⟩ | ⟨g, capo', e1, hBg, hgs, hcapo, hmo⟩
        all_goals
          simp only [Value.slice.injEq] at e1
          obtain ⟨rfl, hz2, rfl⟩ := e1
          clear hz2
          (try (clear hz))
          go_wp2_with (at_builtin; refine wpList_push rfl _ _ 23 rfl Tryz.underlying23 (w.heap.size + 1) _ out _ (unhide HO) rfl rfl hol hsz ?_; intro g1 cap1 w1 hown1 hb1 hc1 hm1 hBg1 hgs1)
          all_goals
            have hown2 : Own (w.heap.size + 1) w1 (.slice (some ⟨g1, 0, none⟩) (out.length + 1) cap1) (out ++ [r]) := by
              first
                | exact hown1
                | have e : -r = r := by omega
                  rw [e] at hown1
                  exact hown1
            go_roundw
            case rel => exact ⟨-q, _, rfl, hq1, hq2, by rw [unhide EQ, unhide hR, unhide ER], hown2, hbox.later1 hb1, Nat.le_trans hsz hb1.size⟩
            case measure => exact unhide HM

end Go.Proofs.YtdklikicngmkbaaGreatDoor
