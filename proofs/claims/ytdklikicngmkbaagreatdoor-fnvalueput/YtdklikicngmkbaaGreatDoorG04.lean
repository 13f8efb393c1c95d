/- A copy of numbers; how large they are. The laws' own helpers, each by its contract: how large a number is, a copy of it, whether two are the same. The laws' own helpers for decimals: how large one is, a copy of it, whether two are the same. SpanOk of the program and of the specification. Each contract says which blocks its call lays. -/
import Derived.Test.YtdklikicngmkbaaGreatDoorG01
import Derived.Test.YtdklikicngmkbaaGreatDoorG02
import Derived.Test.YtdklikicngmkbaaGreatDoorProg
import Derived.WalkKit
import Derived.WalkSmall
import Derived.WalkLawsBesides
import Derived.Below
import Derived.Deep.QuietTactic
import Derived.BigQuiet
namespace Go.Proofs.YtdklikicngmkbaaGreatDoor
open Go.RowKit


theorem toIntS_any (w : World) (v : Value) (l : List Int) (hr : Reads w v l) (hl : l.length ≤ 1048576) :
    Calls Tryz.prog 145 #[v] w (Gives w l) := by
  obtain ⟨ao, b, off, cap, rfl, hr⟩ := hr
  obtain ⟨i0, hi, hz0, hz1, hz2⟩ := info_parts Tryz.info3
  go_enter Tryz.func145, Tryz.ntmps145
  go_wp2_with (at_make; refine wpList_make_full _ rfl _ _ 23 rfl w.heap.size 3 i0 (.int .i64 0) 1 Tryz.underlying23 hi hz0 hz1 _ _ _ _ l.length rfl rfl rfl rfl ?b2 ?b3 (Nat.le_refl _) ?_)
  case b2 => rw [hz2]; omega
  case b3 => unfold maxLen; omega
  intro w0 hown0 hgrow0
  go_wp2
  have hm0 : (madeCells #[Value.int .i64 0] l.length).toList = ints (List.replicate l.length 0) := by rw [toList_madeCells_one, ints_zeros]
  rw [hm0] at hown0
  go_loopw [4] (fun i wr => ∃ (k : Nat) (m : List Int), k ≤ l.length ∧ i = .int .i64 k ∧ m.length = l.length ∧ m.take k = l.take k ∧ wr.ownsRow w.heap.size 3 1 (.slice (some ⟨w.heap.size, 0, none⟩) l.length l.length) l.length (ints m) ∧ Below w.heap.size w wr)
    (fun i _ => l.length - (intOf i).toNat)
  case atStart => exact ⟨0, _, Nat.zero_le _, rfl, by simp, by simp, hown0, (Below.refl _ _).grown hgrow0 (Nat.le_refl _) (fun k h => by cases h)⟩
  case round =>
    obtain ⟨k, m, hk, rfl, hm, ht, hown, hbel⟩ := hrel
    by_cases hlt : k < l.length
    · have hc := (hr.later hbel).cell k hlt
      have hd := hown.cellAt k (by omega)
      rw [ints_at (by omega)] at hd
      have hf := hown.frozenAt k
      obtain ⟨hst, hgr⟩ := hown.stored k (.int .i64 l[k])
      rw [ints_set] at hst
      have hat := hr.at_ (by omega)
      subst hat
      clear hown hr
      go_wp2
      go_roundw
      case rel => exact ⟨k + 1, _, by omega, by go_num, by simpa using hm, take_set_succ ht hlt (by omega), hst, hbel.setCell (Nat.le_refl _) _⟩
      case measure => simp [intOf]; omega
    · go_wp2
      go_ret
      have e : m = l := by rw [List.take_of_length_le (by omega), List.take_of_length_le (by omega)] at ht; exact ht
      subst e
      exact Gives.of hown hbel

/-- The size of a slice is taken away from what is left. -/
theorem szIntS_any (w : World) (v : Value) (l : List Int) (left : Int) (hr : Reads w v l) (h0 : 0 ≤ left) (h1 : left ≤ 1048576) :
    Calls Tryz.prog 144 #[v, .int .i64 left] w fun e w' => e = .returned (.int .i64 (if left < l.length then -1 else left - l.length)) ∧ w' = w := by
  obtain ⟨ao, b, off, cap, rfl, hr⟩ := hr
  have hb := hr.le
  have hm := hr.big
  unfold maxLen at hm
  clear hr
  by_cases h : left < l.length
  · rw [if_pos h]
    go_enter Tryz.func144, Tryz.ntmps144
    go_wp2
    go_ret
    exact ⟨rfl, rfl⟩
  · rw [if_neg h]
    go_enter Tryz.func144, Tryz.ntmps144
    go_wp2
    go_ret
    exact ⟨rfl, rfl⟩

end Go.Proofs.YtdklikicngmkbaaGreatDoor

namespace Go.Proofs.YtdklikicngmkbaaGreatDoor
open Go.RowKit

theorem szBig_any (w : World) (neg : Bool) (v : Value) (l : List Int) (left : Int) (hr : Reads w v l) (h0 : 0 ≤ left) (h1 : left ≤ 1048576) :
    Calls Tryz.prog 94 #[.agg #[.bool neg, v], .int .i64 left] w fun e w' => e = .returned (.int .i64 (if left < l.length then -1 else left - l.length)) ∧ Below w.heap.size w w' := by
  have hs := fun o => szIntS_any (w.alloc o) v l left (hr.alloc o) h0 h1
  obtain ⟨ao, b, off, cap, rfl, hr⟩ := hr
  have Hs := hide hs
  clear hs hr
  by_cases h : left < l.length
  · rw [if_pos h]
    go_enter Tryz.func94, Tryz.ntmps94
    go_wp2_with (go_at_call 144; refine (unhide Hs _).mono ?_; rw [if_pos h]; rintro e w' ⟨rfl, rfl⟩)
    go_ret
    exact ⟨rfl, (Below.refl _ _).alloc (Nat.le_refl _) _⟩
  · rw [if_neg h]
    have h' : 0 ≤ left - l.length := by omega
    go_enter Tryz.func94, Tryz.ntmps94
    go_wp2_with (go_at_call 144; refine (unhide Hs _).mono ?_; rw [if_neg h]; rintro e w' ⟨rfl, rfl⟩)
    go_ret
    exact ⟨rfl, (Below.refl _ _).alloc (Nat.le_refl _) _⟩

/-- A copy of a number. -/
theorem toBig_any (w : World) (neg : Bool) (v : Value) (l : List Int) (hr : Reads w v l) (hl : l.length ≤ 1048576) :
    Calls Tryz.prog 95 #[.agg #[.bool neg, v]] w (GivesBig w neg l) := by
  go_enter Tryz.func95, Tryz.ntmps95
  go_wp2_with fail
  refine (toIntS_any _ v l (((hr.alloc _).alloc _).alloc _) hl).mono ?_
  rintro e w1 ⟨ao, cap, rfl, hown, hb⟩
  obtain ⟨hc, hf⟩ := bcell hb
  have hz : w.heap.size + 2 < w1.heap.size := by have := hb.size; simp at this; omega
  go_wp2
  refine bodyPost_ret (v := .agg #[.bool neg, .slice ao l.length cap]) (by simp [results, Tryz.results95, go_sem, hc]) rfl ⟨ao, cap, rfl, ?_, ?_⟩
  · exact (((hown.setBelow (by simp) _).setBelow (by simp) _).setBelow (by simp) _).mono (by simp; omega)
  · exact ((((((Below.refl _ _).alloc (Nat.le_refl _) _).alloc (by simp) _).alloc (by simp; omega) _).trans (hb.mono (by simp; omega))).setCell (by simp; omega) _).setCell (by simp) _ |>.setCell (by simp) _

end Go.Proofs.YtdklikicngmkbaaGreatDoor

namespace Go.Proofs.YtdklikicngmkbaaGreatDoor
open Go.RowKit

theorem szDec_any (w : World) (neg : Bool) (v : Value) (l : List Int) (s : Int) (left : Int) (hr : Reads w v l) (h0 : 0 ≤ left) (h1 : left ≤ 1048576) :
    Calls Tryz.prog 50 #[.agg #[.bool neg, v, .int .i64 s], .int .i64 left] w fun e w' => e = .returned (.int .i64 (if left < l.length then -1 else left - l.length)) ∧ Below w.heap.size w w' := by
  have hs := fun o => szBig_any (w.alloc o) neg v l left (hr.alloc o) h0 h1
  obtain ⟨ao, b, off, cap, rfl, hr⟩ := hr
  have Hs := hide hs
  clear hs hr
  by_cases h : left < l.length
  · rw [if_pos h]
    go_enter Tryz.func50, Tryz.ntmps50
    go_wp2_with fail
    refine (unhide Hs _).mono ?_
    rw [if_pos (by omega)]
    rintro e w' ⟨rfl, b1⟩
    go_wp2
    go_ret
    exact ⟨rfl, ((Below.refl _ _).alloc (Nat.le_refl _) _).trans (b1.mono (by simp))⟩
  · rw [if_neg h]
    have h' : 0 ≤ left - l.length := by omega
    go_enter Tryz.func50, Tryz.ntmps50
    go_wp2_with fail
    refine (unhide Hs _).mono ?_
    rw [if_neg (by omega)]
    rintro e w' ⟨rfl, b1⟩
    go_wp2
    go_ret
    exact ⟨rfl, ((Below.refl _ _).alloc (Nat.le_refl _) _).trans (b1.mono (by simp))⟩

theorem toDec_any (w : World) (neg : Bool) (v : Value) (l : List Int) (s : Int) (hr : Reads w v l) (hl : l.length ≤ 1048576) :
    Calls Tryz.prog 51 #[.agg #[.bool neg, v, .int .i64 s]] w (GivesDec w neg l s) := by
  go_enter Tryz.func51, Tryz.ntmps51
  go_wp2_with fail
  refine (toBig_any _ neg v l (((hr.alloc _).alloc _).alloc _) hl).mono ?_
  rintro e w1 ⟨ao, cap, rfl, hown, hb⟩
  obtain ⟨hc, hf⟩ := bcell hb
  have hz : w.heap.size + 2 < w1.heap.size := by have := hb.size; simp at this; omega
  go_wp2
  refine bodyPost_ret (v := .agg #[.bool neg, .slice ao l.length cap, .int .i64 s]) (by simp [results, Tryz.results51, go_sem, hc]) rfl ⟨ao, cap, rfl, ?_, ?_⟩
  · exact ((((((hown.setBelow (by simp) _).setBelow (by simp) _).setBelow (by simp) _).setBelow (by simp) _).setBelow (by simp) _).setBelow (by simp) _).mono (by simp; omega)
  · exact ((((((((((Below.refl _ _).alloc (Nat.le_refl _) _).alloc (by simp) _).alloc (by simp; omega) _).trans (hb.mono (by simp; omega))).setCell (by simp; omega) _).setCell (by simp; omega) _).setCell (by simp; omega) _).setCell (by simp) _).setCell (by simp) _).setCell (by simp) _

end Go.Proofs.YtdklikicngmkbaaGreatDoor

namespace Go.Proofs.YtdklikicngmkbaaGreatDoor
open Go.RowKit

theorem inK_any (w : World) (n a b : Int) : Calls Tryz.prog 62 #[.int .i64 n, .int .i64 a, .int .i64 b] w fun e w' => e = .returned (.bool (decide (a ≤ n ∧ n ≤ b))) ∧ w' = w := by
  by_cases h : a ≤ n
  · have h' : decide (a ≤ n) = true := by simpa using h
    by_cases k : n ≤ b
    · rw [show decide (a ≤ n ∧ n ≤ b) = true by simp [h, k]]
      go_enter Tryz.func62, Tryz.ntmps62
      go_wp2
      go_ret
      exact ⟨rfl, rfl⟩
    · rw [show decide (a ≤ n ∧ n ≤ b) = false by simp; omega]
      have k' : decide (n ≤ b) = false := by simp; omega
      go_enter Tryz.func62, Tryz.ntmps62
      go_wp2
      go_ret
      exact ⟨rfl, rfl⟩
  · have h' : decide (a ≤ n) = false := by simpa using h
    rw [show decide (a ≤ n ∧ n ≤ b) = false by simp; omega]
    go_enter Tryz.func62, Tryz.ntmps62
    go_wp2
    go_ret
    exact ⟨rfl, rfl⟩

/-- A span is ok. -/
@[reducible] def SpanIs (m d : Int) : Prop := (-120000 ≤ m ∧ m ≤ 120000) ∧ -4000000 ≤ d ∧ d ≤ 4000000

theorem implSpanOk_any (w : World) (m d : Int) : Calls Tryz.prog 171 #[.agg #[.int .i64 m, .int .i64 d]] w fun e w' => e = .returned (.bool (decide (SpanIs m d))) ∧ w' = w.alloc (.cells #[.int .i64 m, .int .i64 d] 29) := by
  by_cases h1 : -120000 ≤ m
  · have t1 : decide (-120000 ≤ m) = true := by simpa using h1
    by_cases h2 : m ≤ 120000
    · have t2 : decide (m ≤ 120000) = true := by simpa using h2
      by_cases h3 : -4000000 ≤ d
      · have t3 : decide (-4000000 ≤ d) = true := by simpa using h3
        by_cases h4 : d ≤ 4000000
        · have t4 : decide (d ≤ 4000000) = true := by simpa using h4
          rw [decide_eq_true (show SpanIs m d from ⟨⟨h1, h2⟩, h3, h4⟩)]
          go_enter Tryz.func171, Tryz.ntmps171
          go_wp2
          go_ret
          exact ⟨rfl, rfl⟩
        · have t4 : decide (d ≤ 4000000) = false := by simpa using h4
          rw [decide_eq_false (show ¬ SpanIs m d from fun h => h4 h.2.2)]
          go_enter Tryz.func171, Tryz.ntmps171
          go_wp2
          go_ret
          exact ⟨rfl, rfl⟩
      · have t3 : decide (-4000000 ≤ d) = false := by simpa using h3
        rw [decide_eq_false (show ¬ SpanIs m d from fun h => h3 h.2.1)]
        go_enter Tryz.func171, Tryz.ntmps171
        go_wp2
        go_ret
        exact ⟨rfl, rfl⟩
    · have t2 : decide (m ≤ 120000) = false := by simpa using h2
      rw [decide_eq_false (show ¬ SpanIs m d from fun h => h2 h.1.2)]
      go_enter Tryz.func171, Tryz.ntmps171
      go_wp2
      go_ret
      exact ⟨rfl, rfl⟩
  · have t1 : decide (-120000 ≤ m) = false := by simpa using h1
    rw [decide_eq_false (show ¬ SpanIs m d from fun h => h1 h.1.1)]
    go_enter Tryz.func171, Tryz.ntmps171
    go_wp2
    go_ret
    exact ⟨rfl, rfl⟩

theorem specL3SpanOk_any (w : World) (m d : Int) : Calls Tryz.prog 66 #[.agg #[.int .i64 m, .int .i64 d]] w fun e w' => e = .returned (.bool (decide (SpanIs m d))) ∧ w' = w.alloc (.cells #[.int .i64 m, .int .i64 d] 29) := by
  have C1 := fun W => inK_any W m (-120000) 120000
  have C2 := fun W => inK_any W d (-4000000) 4000000
  by_cases h1 : -120000 ≤ m ∧ m ≤ 120000
  · rw [decide_eq_true h1] at C1
    by_cases h2 : -4000000 ≤ d ∧ d ≤ 4000000
    · rw [decide_eq_true h2] at C2
      rw [decide_eq_true (show SpanIs m d from ⟨h1, h2⟩)]
      clear h1 h2
      go_enter Tryz.func66, Tryz.ntmps66
      go_wp2_with fail
      refine (C1 _).mono ?_
      rintro e w1 ⟨rfl, rfl⟩
      go_wp2_with fail
      refine (C2 _).mono ?_
      rintro e w2 ⟨rfl, rfl⟩
      go_wp2
      go_ret
      exact ⟨rfl, rfl⟩
    · rw [decide_eq_false h2] at C2
      rw [decide_eq_false (show ¬ SpanIs m d from fun h => h2 h.2)]
      clear h1 h2
      go_enter Tryz.func66, Tryz.ntmps66
      go_wp2_with fail
      refine (C1 _).mono ?_
      rintro e w1 ⟨rfl, rfl⟩
      go_wp2_with fail
      refine (C2 _).mono ?_
      rintro e w2 ⟨rfl, rfl⟩
      go_wp2
      go_ret
      exact ⟨rfl, rfl⟩
  · rw [decide_eq_false h1] at C1
    rw [decide_eq_false (show ¬ SpanIs m d from fun h => h1 h.1)]
    clear h1
    go_enter Tryz.func66, Tryz.ntmps66
    go_wp2_with fail
    refine (C1 _).mono ?_
    rintro e w1 ⟨rfl, rfl⟩
    go_wp2
    go_ret
    exact ⟨rfl, rfl⟩

end Go.Proofs.YtdklikicngmkbaaGreatDoor
