/- What numbers answer. Cells behind later calls. DecGet of the program, by a contract. -/
import Derived.Test.YtdklikicngmkbaaGreatDoorG21
import Derived.Test.YtdklikicngmkbaaGreatDoorG07
import Derived.WalkSpells
import Derived.Test.YtdklikicngmkbaaGreatDoorG08
namespace Go.Proofs.YtdklikicngmkbaaGreatDoor
open Go.RowKit
set_option maxRecDepth 100000




/-- A number that was made, if it is not too long; nothing, if it is, or if it was not asked of what is ok. -/
def outR (ok : Bool) (z : Int) : Bool × List Int × Bool := if ok = true ∧ (L z.natAbs).length ≤ 16 then (sg z, L z.natAbs, true) else (false, [], false)

/-- What a call answers that hands out a number of its own, and whether. -/
def GivesBig2 (w : World) (o : Bool × List Int × Bool) (e : Ending) (w' : World) : Prop :=
  ∃ ao cap, e = .returned (.tuple #[.agg #[.bool o.1, .slice ao o.2.1.length cap], .bool o.2.2]) ∧ Own w.heap.size w' (.slice ao o.2.1.length cap) o.2.1 ∧ Below w.heap.size w w'

/-- The number that a sign and limbs are. -/
def zv (neg : Bool) (l : List Int) : Int := zof neg (val l).toNat

theorem okB_iff {neg : Bool} {l : List Int} : okB neg l = true ↔ OkBig neg l := by simp [okB]

/-- What is ok has the limbs of its number. -/
theorem ok_limbs {neg : Bool} {l : List Int} (h : okB neg l = true) : l = L (val l).toNat ∧ (val l).toNat < 10000 ^ 16 := by
  obtain ⟨h1, h2, _, h4⟩ := okB_iff.1 h
  have e := L_of h2 h4
  refine ⟨e, lt_of_L_len ?_⟩
  rw [← e]
  exact h1

theorem ok_sign {neg : Bool} {l : List Int} (h : okB neg l = true) : neg = sg (zv neg l) := by
  obtain ⟨e, _⟩ := ok_limbs h
  obtain ⟨h1, h2, h3, h4⟩ := okB_iff.1 h
  unfold sg zv zof
  cases neg
  · simp
    omega
  · have hl : l ≠ [] := fun k => by have := h3 k; cases this
    have hn : (val l).toNat ≠ 0 := fun k => hl (by rw [e, k, L_zero])
    simp
    omega

theorem pow16 {n k : Nat} (h : n < 10000 ^ 16) (hk : 16 ≤ k) : n < 10000 ^ k := Nat.lt_of_lt_of_le h (Nat.pow_le_pow_right (by decide) hk)

end Go.Proofs.YtdklikicngmkbaaGreatDoor

namespace Go.Proofs.YtdklikicngmkbaaGreatDoor
open Go.RowKit
set_option maxRecDepth 100000


theorem frozen_later {w w1 : World} {b o : Nat} (hb : Below w.heap.size w w1) (h : w.frozen? ⟨b, o, none⟩ = false) (hz : b < w.heap.size) : w1.frozen? ⟨b, o, none⟩ = false :=
  (hb.frozen (p := ⟨b, o, none⟩) hz).trans h

theorem lt_later {w w1 : World} {b : Nat} (hb : Below w.heap.size w w1) (hz : b < w.heap.size) : b < w1.heap.size := Nat.lt_of_lt_of_le hz hb.size

theorem cell_set2 {w : World} {b o c : Nat} {x : Value} (h : w.cell? ⟨b, o, none⟩ = some x) (hne : b ≠ c) (u u' : Value) : ((w.setCell ⟨c, 0, none⟩ u).setCell ⟨c, 1, none⟩ u').cell? ⟨b, o, none⟩ = some x := by
  have e : ((w.setCell ⟨c, 0, none⟩ u).setCell ⟨c, 1, none⟩ u').heap[b]? = w.heap[b]? := by
    rw [Below.heap_setCell _ _ _ _ (by exact hne), Below.heap_setCell _ _ _ _ (by exact hne)]
  exact (World.cell?_of_block (a := ⟨b, o, none⟩) e).trans h

/-- An owned list stays while a cell of another block is written that holds no list of ints. -/
theorem Own.setOther {B : Nat} {w : World} {v : Value} {l : List Int} (h : Own B w v l) {a : Addr} (ha : v.ownBlock ≠ some a.block) (u : Value) : Own B (w.setCell a u) v l :=
  World.ownsRow.kept (row := some a.block) h ⟨rfl, rfl, rfl, by simp, fun k _ hk => Below.heap_setCell w a u k (fun e => hk (by rw [e]))⟩ (.inr ha)

end Go.Proofs.YtdklikicngmkbaaGreatDoor

namespace Go.Proofs.YtdklikicngmkbaaGreatDoor
open Go.RowKit
set_option maxRecDepth 100000

/-- Whether a sign, what is ahead of a dot, and what is behind it, are a decimal's. -/
def dgetOk (n : Bool) (wh pt : ByteArray) (fd : Bool) : Bool :=
  plainB wh && decide (wh.size ≤ 30) && (!fd || (figB pt && decide (pt.size ≠ 0))) && decide (pt.size ≤ 12) && decB n (L (num (dg (wh ++ pt)))) pt.size
/-- What DecGet answers. -/
def dgetR (n : Bool) (wh pt : ByteArray) (fd : Bool) : Bool × List Int × Int × Bool :=
  if dgetOk n wh pt fd = true then (n, L (num (dg (wh ++ pt))), (pt.size : Int), true) else (false, [], 0, false)
theorem dget_no {n : Bool} {wh pt : ByteArray} {fd : Bool} (h : dgetOk n wh pt fd = false) : dgetR n wh pt fd = (false, [], 0, false) := by unfold dgetR; rw [h, if_neg (by simp)]
theorem dget_yes {n : Bool} {wh pt : ByteArray} {fd : Bool} (h : dgetOk n wh pt fd = true) : dgetR n wh pt fd = (n, L (num (dg (wh ++ pt))), (pt.size : Int), true) := by unfold dgetR; rw [if_pos h]

/-- What a call answers that hands out a decimal of its own, and whether. -/
def GivesDec2 (w : World) (o : Bool × List Int × Int × Bool) (e : Ending) (w' : World) : Prop :=
  ∃ ao cap, e = .returned (.tuple #[.agg #[.bool o.1, .slice ao o.2.1.length cap, .int .i64 o.2.2.1], .bool o.2.2.2]) ∧ Own w.heap.size w' (.slice ao o.2.1.length cap) o.2.1 ∧ Below w.heap.size w w'

/-- The place for a decimal, made first. -/
structure EDx (w0 w : World) : Prop where
  below : Below w0.heap.size w0 w
  c0 : w.cell? ⟨w0.heap.size, 0, none⟩ = some (.bool false)
  c1 : w.cell? ⟨w0.heap.size, 1, none⟩ = some (.slice none 0 0)
  c2 : w.cell? ⟨w0.heap.size, 2, none⟩ = some (.int .i64 0)
  f0 : w.frozen? ⟨w0.heap.size, 0, none⟩ = false
  f1 : w.frozen? ⟨w0.heap.size, 1, none⟩ = false
  f2 : w.frozen? ⟨w0.heap.size, 2, none⟩ = false
  lt : w0.heap.size < w.heap.size

theorem EDx.later {w0 w w' : World} (h : EDx w0 w) (b : Below w.heap.size w w') : EDx w0 w' :=
  ⟨h.below.trans (b.mono h.below.size), cell_later b h.c0, cell_later b h.c1, cell_later b h.c2, frozen_later b h.f0 h.lt, frozen_later b h.f1 h.lt, frozen_later b h.f2 h.lt, lt_later b h.lt⟩
theorem EDx.start (w : World) : EDx w (w.alloc (.cells #[.bool false, .slice none 0 0, .int .i64 0] 27)) :=
  ⟨(Below.refl _ _).alloc (Nat.le_refl _) _, by go_simp, by go_simp, by go_simp, by go_simp, by go_simp, by go_simp, by simp⟩

theorem figB_app {a b : ByteArray} (ha : figB a = true) (hb : figB b = true) : figB (a ++ b) = true := by
  unfold figB at *
  rw [ByteArray.data_append, Array.toList_append, List.all_append, ha, hb]
  rfl
theorem figB_nil {b : ByteArray} (h : b.size = 0) : figB b = true := figB_of (fun i hi => by omega)

theorem sg_or (n : Bool) (N : Nat) (sc : Int) : sg (zof n N) = n ∨ (n = true ∧ sg (zof n N) = false ∧ decB n (L N) sc = false) := by
  cases n
  · left
    unfold sg zof
    rw [if_neg (by simp), decide_eq_false_iff_not]
    omega
  · by_cases h : N = 0
    · right
      subst h
      refine ⟨rfl, ?_, decB_false ?_⟩
      · unfold sg zof
        rw [if_pos rfl, decide_eq_false_iff_not]
        omega
      · intro k
        have := k.1.2.2.1 (by rw [L_zero])
        cases this
    · left
      unfold sg zof
      rw [if_pos rfl, decide_eq_true_iff]
      omega

theorem zof_absG (n : Bool) (N : Nat) : (zof n N).natAbs = N := by
  unfold zof
  split
  · exact (Int.natAbs_neg _).trans (Int.natAbs_natCast _)
  · exact Int.natAbs_natCast _

-- TAIL
set_option maxHeartbeats 4000000 in
theorem implDecGet_any (w : World) (s : ByteArray) (d : Nat) (hd : DotAt (restB s) d) (hs : s.size ≤ maxLen) (tt : Tab w) :
    Calls Tryz.prog 77 #[.string s] w (GivesDec2 w (dgetR (negB s) ((restB s).extract 0 d) (partOf (restB s) d) (decide (d < (restB s).size)))) := by
  have K0 := EDx.start w
  have hr0 : (restB s).size ≤ maxLen := by unfold restB; split <;> (try rw [ByteArray.size_extract]) <;> omega
  have CC := hide (fun W => cutMinus_any W s hs)
  have CD := hide (fun W => cutDot_any W (restB s) d hd hr0)
  have hw0 : ((restB s).extract 0 d).size ≤ maxLen := by rw [ByteArray.size_extract]; omega
  have hp0 : (partOf (restB s) d).size ≤ maxLen := by unfold partOf; split; rw [ByteArray.size_extract]; omega; exact Nat.zero_le _
  have hfd : decide (d < (restB s).size) = false → (partOf (restB s) d).size = 0 := fun h => by unfold partOf; rw [if_neg (by simpa using h)]; rfl
  generalize (restB s).extract 0 d = wh at *
  generalize partOf (restB s) d = pt at *
  generalize decide (d < (restB s).size) = fd at *
  generalize negB s = n at *
  generalize restB s = r at *
  clear hd hr0
  have CA := hide (fun W => arePlain_any W wh hw0)
  have CF := hide (fun W => areFigures_any W pt hp0)
  have HFD := hide hfd
  unfold maxLen at hs hw0 hp0
  clear hfd
  go_enter Tryz.func77, Tryz.ntmps77
  go_wp2_with fail
  refine (unhide CC _).mono ?_
  rintro e w1 ⟨rfl, rfl⟩
  go_wp2_with fail
  refine (unhide CD _).mono ?_
  rintro e w2 ⟨rfl, b2⟩
  have K2 := K0.later b2
  clear K0 b2 CC CD
  by_cases h30 : wh.size ≤ 30
  · have h31 : ¬ (30 : Int) < wh.size := by omega
    go_wp2_with fail
    refine (unhide CA _).mono ?_
    rintro e w3 ⟨rfl, rfl⟩
    cases hp : plainB wh with
    | false =>
      have E := hide (dget_no (n := n) (wh := wh) (pt := pt) (fd := fd) (by unfold dgetOk; rw [hp]; rfl))
      obtain ⟨kb, kr0, kr1, kr2, kf0, kf1, kf2, kl⟩ := id K2
      go_wp2
      refine bodyPost_ret (v := .tuple #[.agg #[.bool false, .slice none 0 0, .int .i64 0], .bool false]) (by simp [results, Tryz.results77, go_sem, kr0, kr1, kr2]) rfl ?_
      rw [unhide E]
      exact ⟨none, 0, rfl, Own.nil _ _, ((kb.setCell (by simp) _).setCell (by simp) _).setCell (by simp) _⟩
    | true =>
      have hfw := hide (plain_fig hp)
      cases hf : fd with
      | true =>
        rw [hf] at HFD
        go_wp2_with fail
        refine (unhide CF _).mono ?_
        rintro e w4 ⟨rfl, rfl⟩
        cases hq : (figB pt && decide (pt.size ≠ 0)) with
        | false =>
          have E := hide (dget_no (n := n) (wh := wh) (pt := pt) (fd := fd) (by unfold dgetOk; rw [hf, hq]; simp))
          obtain ⟨kb, kr0, kr1, kr2, kf0, kf1, kf2, kl⟩ := id K2
          go_wp2
          refine bodyPost_ret (v := .tuple #[.agg #[.bool false, .slice none 0 0, .int .i64 0], .bool false]) (by simp [results, Tryz.results77, go_sem, kr0, kr1, kr2]) rfl ?_
          rw [unhide E]
          exact ⟨none, 0, rfl, Own.nil _ _, ((kb.setCell (by simp) _).setCell (by simp) _).setCell (by simp) _⟩
        | true =>
          have hfp := hide (by rw [Bool.and_eq_true] at hq; exact hq.1 : figB pt = true)
          by_cases h12 : pt.size ≤ 12
          · have h13 : ¬ (12 : Int) < pt.size := by omega
            have hfa := fig_dg (figB_app (unhide hfw) (unhide hfp))
            have hsz : (wh ++ pt).size ≤ 42 := by rw [ByteArray.size_append]; omega
            have EO := hide (show ∀ q, decB n (L (num (dg (wh ++ pt)))) pt.size = q → dgetOk n wh pt fd = q by intro q hq2; unfold dgetOk; rw [hq2]; rw [hp, hq]; simp [h30, h12])
            have CL := hide (fun W => limbsOf_any W (wh ++ pt) (dg (wh ++ pt)) hfa (by rw [dg_len]; omega))
            have HY := hide (fun h => dget_yes (n := n) (wh := wh) (pt := pt) (fd := fd) h)
            have HNo := hide (fun h => dget_no (n := n) (wh := wh) (pt := pt) (fd := fd) h)
            generalize dgetOk n wh pt fd = OK at *
            generalize dgetR n wh pt fd = O at *
            generalize hN : num (dg (wh ++ pt)) = N at *
            clear hN hfa
            have hgo := sg_or n N pt.size
            have hab := zof_absG n N
            generalize hz : zof n N = z at *
            have CI := hide (fun W v (hr : Reads W v (L z.natAbs)) (k : Below w.heap.size w W) => implDecOk_any W (sg z) v (L z.natAbs) pt.size hr (tt.later k))
            have G := hide (fun w1 w2 (ao : Option Addr) (cap : Nat) (o : Own (w.heap.size + 1) w1 (.slice ao (L N).length cap) (L N)) (h1 : Below w.heap.size w w1) (b : Below w1.heap.size w1 w2) => signed_gives (w := w) o h1 b hz.symm)
            rw [hab] at CI G
            clear hz hab
            generalize sg z = g at *
            clear z
            go_wp2_with fail
            refine (unhide CL _).mono ?_
            rintro e w5 ⟨a5, c5, rfl, o5, b5⟩
            have K5 := K2.later b5
            have o5' : Own (w.heap.size + 1) w5 _ (L N) := o5.mono K2.lt
            clear b5 K2 o5 CL
            go_wp2_with fail
            refine (signed_any _ n a5 _ c5).mono ?_
            rintro e w6 ⟨he, b6⟩
            obtain ⟨a6, c6, e6, o6, bb6⟩ := unhide G w5 w6 a5 c5 o5' K5.below b6
            rw [e6] at he
            subst he
            have K6 := K5.later b6
            clear b6 o5' K5 e6 G
            have k7 : Below w6.heap.size w6 (w6.alloc (.cells #[.bool g, .slice a6 (L N).length c6, .int .i64 pt.size] 27)) := (Below.refl _ _).alloc (Nat.le_refl _) _
            have K7 := K6.later k7
            have o7 := o6.later k7
            have lt7 := K6.lt
            rcases hgo with hg | ⟨hn1, hg, hd0⟩
            · subst hg
              have hgg : (g != g) = false := by cases g <;> rfl
              go_wp2_with fail
              refine (unhide CI _ _ o7.reads K7.below).mono ?_
              rintro e w8 ⟨rfl, b8⟩
              have K8 := K7.later b8
              have o8 := o7.later b8
              have q0 : w8.cell? ⟨w6.heap.size, 0, none⟩ = some (.bool g) := cell_later b8 (by go_simp)
              have q1 : w8.cell? ⟨w6.heap.size, 1, none⟩ = some (.slice a6 (L N).length c6) := cell_later b8 (by go_simp)
              have q2 : w8.cell? ⟨w6.heap.size, 2, none⟩ = some (.int .i64 pt.size) := cell_later b8 (by go_simp)
              have n1 : ¬ (w6.heap.size = w.heap.size) := by omega
              have n2 : ¬ (w.heap.size = w6.heap.size) := by omega
              clear b8 K7 o7 k7 o6
              obtain ⟨kb, kr0, kr1, kr2, kf0, kf1, kf2, kl⟩ := id K8
              cases hdb : decB g (L N) pt.size with
              | true =>
                have E := hide (unhide HY (unhide EO true hdb))
                go_wp2
                refine bodyPost_ret (v := .tuple #[.agg #[.bool g, .slice a6 (L N).length c6, .int .i64 pt.size], .bool true]) (by simp [results, Tryz.results77, go_sem, kr0, kr1, kr2]) rfl ?_
                rw [unhide E]
                exact ⟨a6, c6, rfl, (((o8.setBelow (by simp) _).setBelow (by simp) _).setBelow (by simp) _).mono (by simp), ((kb.setCell (by simp) _).setCell (by simp) _).setCell (by simp) _⟩
              | false =>
                have E := hide (unhide HNo (unhide EO false hdb))
                go_wp2
                refine bodyPost_ret (v := .tuple #[.agg #[.bool false, .slice none 0 0, .int .i64 0], .bool false]) (by simp [results, Tryz.results77, go_sem, kr0, kr1, kr2]) rfl ?_
                rw [unhide E]
                exact ⟨none, 0, rfl, Own.nil _ _, ((kb.setCell (by simp) _).setCell (by simp) _).setCell (by simp) _⟩
            · subst hn1 hg
              have E := hide (unhide HNo (unhide EO false hd0))
              obtain ⟨kb, kr0, kr1, kr2, kf0, kf1, kf2, kl⟩ := id K6
              clear o6 o7 K7 k7
              go_wp2
              refine bodyPost_ret (v := .tuple #[.agg #[.bool false, .slice none 0 0, .int .i64 0], .bool false]) (by simp [results, Tryz.results77, go_sem, kr0, kr1, kr2, lt7]) rfl ?_
              rw [unhide E]
              exact ⟨none, 0, rfl, Own.nil _ _, (((kb.setCell (by simp) _).setCell (by simp) _).setCell (by simp) _).alloc (by simp; omega) _⟩
          · have h13 : (12 : Int) < pt.size := by omega
            have E := hide (dget_no (n := n) (wh := wh) (pt := pt) (fd := fd) (by unfold dgetOk; simp [h12]))
            obtain ⟨kb, kr0, kr1, kr2, kf0, kf1, kf2, kl⟩ := id K2
            go_wp2
            refine bodyPost_ret (v := .tuple #[.agg #[.bool false, .slice none 0 0, .int .i64 0], .bool false]) (by simp [results, Tryz.results77, go_sem, kr0, kr1, kr2]) rfl ?_
            rw [unhide E]
            exact ⟨none, 0, rfl, Own.nil _ _, ((kb.setCell (by simp) _).setCell (by simp) _).setCell (by simp) _⟩
      | false =>
        have hfp := hide (figB_nil (unhide HFD hf))
        by_cases h12 : pt.size ≤ 12
        · have h13 : ¬ (12 : Int) < pt.size := by omega
          have hfa := fig_dg (figB_app (unhide hfw) (unhide hfp))
          have hsz : (wh ++ pt).size ≤ 42 := by rw [ByteArray.size_append]; omega
          have EO := hide (show ∀ q, decB n (L (num (dg (wh ++ pt)))) pt.size = q → dgetOk n wh pt fd = q by intro q hq2; unfold dgetOk; rw [hq2]; simp [hp, h30, hf, h12])
          have CL := hide (fun W => limbsOf_any W (wh ++ pt) (dg (wh ++ pt)) hfa (by rw [dg_len]; omega))
          have HY := hide (fun h => dget_yes (n := n) (wh := wh) (pt := pt) (fd := fd) h)
          have HNo := hide (fun h => dget_no (n := n) (wh := wh) (pt := pt) (fd := fd) h)
          generalize dgetOk n wh pt fd = OK at *
          generalize dgetR n wh pt fd = O at *
          generalize hN : num (dg (wh ++ pt)) = N at *
          clear hN hfa
          have hgo := sg_or n N pt.size
          have hab := zof_absG n N
          generalize hz : zof n N = z at *
          have CI := hide (fun W v (hr : Reads W v (L z.natAbs)) (k : Below w.heap.size w W) => implDecOk_any W (sg z) v (L z.natAbs) pt.size hr (tt.later k))
          have G := hide (fun w1 w2 (ao : Option Addr) (cap : Nat) (o : Own (w.heap.size + 1) w1 (.slice ao (L N).length cap) (L N)) (h1 : Below w.heap.size w w1) (b : Below w1.heap.size w1 w2) => signed_gives (w := w) o h1 b hz.symm)
          rw [hab] at CI G
          clear hz hab
          generalize sg z = g at *
          clear z
          go_wp2_with fail
          refine (unhide CL _).mono ?_
          rintro e w5 ⟨a5, c5, rfl, o5, b5⟩
          have K5 := K2.later b5
          have o5' : Own (w.heap.size + 1) w5 _ (L N) := o5.mono K2.lt
          clear b5 K2 o5 CL
          go_wp2_with fail
          refine (signed_any _ n a5 _ c5).mono ?_
          rintro e w6 ⟨he, b6⟩
          obtain ⟨a6, c6, e6, o6, bb6⟩ := unhide G w5 w6 a5 c5 o5' K5.below b6
          rw [e6] at he
          subst he
          have K6 := K5.later b6
          clear b6 o5' K5 e6 G
          have k7 : Below w6.heap.size w6 (w6.alloc (.cells #[.bool g, .slice a6 (L N).length c6, .int .i64 pt.size] 27)) := (Below.refl _ _).alloc (Nat.le_refl _) _
          have K7 := K6.later k7
          have o7 := o6.later k7
          have lt7 := K6.lt
          rcases hgo with hg | ⟨hn1, hg, hd0⟩
          · subst hg
            have hgg : (g != g) = false := by cases g <;> rfl
            go_wp2_with fail
            refine (unhide CI _ _ o7.reads K7.below).mono ?_
            rintro e w8 ⟨rfl, b8⟩
            have K8 := K7.later b8
            have o8 := o7.later b8
            have q0 : w8.cell? ⟨w6.heap.size, 0, none⟩ = some (.bool g) := cell_later b8 (by go_simp)
            have q1 : w8.cell? ⟨w6.heap.size, 1, none⟩ = some (.slice a6 (L N).length c6) := cell_later b8 (by go_simp)
            have q2 : w8.cell? ⟨w6.heap.size, 2, none⟩ = some (.int .i64 pt.size) := cell_later b8 (by go_simp)
            have n1 : ¬ (w6.heap.size = w.heap.size) := by omega
            have n2 : ¬ (w.heap.size = w6.heap.size) := by omega
            clear b8 K7 o7 k7 o6
            obtain ⟨kb, kr0, kr1, kr2, kf0, kf1, kf2, kl⟩ := id K8
            cases hdb : decB g (L N) pt.size with
            | true =>
              have E := hide (unhide HY (unhide EO true hdb))
              go_wp2
              refine bodyPost_ret (v := .tuple #[.agg #[.bool g, .slice a6 (L N).length c6, .int .i64 pt.size], .bool true]) (by simp [results, Tryz.results77, go_sem, kr0, kr1, kr2]) rfl ?_
              rw [unhide E]
              exact ⟨a6, c6, rfl, (((o8.setBelow (by simp) _).setBelow (by simp) _).setBelow (by simp) _).mono (by simp), ((kb.setCell (by simp) _).setCell (by simp) _).setCell (by simp) _⟩
            | false =>
              have E := hide (unhide HNo (unhide EO false hdb))
              go_wp2
              refine bodyPost_ret (v := .tuple #[.agg #[.bool false, .slice none 0 0, .int .i64 0], .bool false]) (by simp [results, Tryz.results77, go_sem, kr0, kr1, kr2]) rfl ?_
              rw [unhide E]
              exact ⟨none, 0, rfl, Own.nil _ _, ((kb.setCell (by simp) _).setCell (by simp) _).setCell (by simp) _⟩
          · subst hn1 hg
            have E := hide (unhide HNo (unhide EO false hd0))
            obtain ⟨kb, kr0, kr1, kr2, kf0, kf1, kf2, kl⟩ := id K6
            clear o6 o7 K7 k7
            go_wp2
            refine bodyPost_ret (v := .tuple #[.agg #[.bool false, .slice none 0 0, .int .i64 0], .bool false]) (by simp [results, Tryz.results77, go_sem, kr0, kr1, kr2, lt7]) rfl ?_
            rw [unhide E]
            exact ⟨none, 0, rfl, Own.nil _ _, (((kb.setCell (by simp) _).setCell (by simp) _).setCell (by simp) _).alloc (by simp; omega) _⟩
        · have h13 : (12 : Int) < pt.size := by omega
          have E := hide (dget_no (n := n) (wh := wh) (pt := pt) (fd := fd) (by unfold dgetOk; simp [h12]))
          obtain ⟨kb, kr0, kr1, kr2, kf0, kf1, kf2, kl⟩ := id K2
          go_wp2
          refine bodyPost_ret (v := .tuple #[.agg #[.bool false, .slice none 0 0, .int .i64 0], .bool false]) (by simp [results, Tryz.results77, go_sem, kr0, kr1, kr2]) rfl ?_
          rw [unhide E]
          exact ⟨none, 0, rfl, Own.nil _ _, ((kb.setCell (by simp) _).setCell (by simp) _).setCell (by simp) _⟩
  · have h31 : (30 : Int) < wh.size := by omega
    have E := hide (dget_no (n := n) (wh := wh) (pt := pt) (fd := fd) (by unfold dgetOk; simp [h30]))
    obtain ⟨kb, kr0, kr1, kr2, kf0, kf1, kf2, kl⟩ := id K2
    go_wp2
    refine bodyPost_ret (v := .tuple #[.agg #[.bool false, .slice none 0 0, .int .i64 0], .bool false]) (by simp [results, Tryz.results77, go_sem, kr0, kr1, kr2]) rfl ?_
    rw [unhide E]
    exact ⟨none, 0, rfl, Own.nil _ _, ((kb.setCell (by simp) _).setCell (by simp) _).setCell (by simp) _⟩

end Go.Proofs.YtdklikicngmkbaaGreatDoor
