/- The laws' own helpers for decimals: how large one is, a copy of it, whether two are the same. -/
import Derived.Test.YtjefmjnmcphmeaaDoorLawB
namespace Go.Proofs.YtjefmjnmcphmeaaDoor
open Go.RowKit

/-- What a call answers that hands out a decimal of its own. -/
def GivesDec (w : World) (neg : Bool) (l : List Int) (s : Int) (e : Ending) (w' : World) : Prop :=
  ∃ ao cap, e = .returned (.agg #[.bool neg, .slice ao l.length cap, .int .i64 s]) ∧ Own w.heap.size w' (.slice ao l.length cap) l ∧ Below w.heap.size w w'

theorem szDec_any (w : World) (neg : Bool) (v : Value) (l : List Int) (s : Int) (left : Int) (hr : Reads w v l) (h0 : 0 ≤ left) (h1 : left ≤ 1048576) :
    Calls Tryd.prog 6 #[.agg #[.bool neg, v, .int .i64 s], .int .i64 left] w fun e w' => e = .returned (.int .i64 (if left < l.length then -1 else left - l.length)) ∧ Below w.heap.size w w' := by
  have hs := fun o => szBig_any (w.alloc o) neg v l left (hr.alloc o) h0 h1
  obtain ⟨ao, b, off, cap, rfl, hr⟩ := hr
  have Hs := hide hs
  clear hs hr
  by_cases h : left < l.length
  · rw [if_pos h]
    go_enter Tryd.func6, Tryd.ntmps6
    go_wp2_with fail
    refine (unhide Hs _).mono ?_
    rw [if_pos (by omega)]
    rintro e w' ⟨rfl, b1⟩
    go_wp2
    go_ret
    exact ⟨rfl, ((Below.refl _ _).alloc (Nat.le_refl _) _).trans (b1.mono (by simp))⟩
  · rw [if_neg h]
    have h' : 0 ≤ left - l.length := by omega
    go_enter Tryd.func6, Tryd.ntmps6
    go_wp2_with fail
    refine (unhide Hs _).mono ?_
    rw [if_neg (by omega)]
    rintro e w' ⟨rfl, b1⟩
    go_wp2
    go_ret
    exact ⟨rfl, ((Below.refl _ _).alloc (Nat.le_refl _) _).trans (b1.mono (by simp))⟩

theorem toDec_any (w : World) (neg : Bool) (v : Value) (l : List Int) (s : Int) (hr : Reads w v l) (hl : l.length ≤ 1048576) :
    Calls Tryd.prog 8 #[.agg #[.bool neg, v, .int .i64 s]] w (GivesDec w neg l s) := by
  go_enter Tryd.func8, Tryd.ntmps8
  go_wp2_with fail
  refine (toBig_any _ neg v l (((hr.alloc _).alloc _).alloc _) hl).mono ?_
  rintro e w1 ⟨ao, cap, rfl, hown, hb⟩
  obtain ⟨hc, hf⟩ := bcell hb
  have hz : w.heap.size + 2 < w1.heap.size := by have := hb.size; simp at this; omega
  go_wp2
  refine bodyPost_ret (v := .agg #[.bool neg, .slice ao l.length cap, .int .i64 s]) (by simp [results, Tryd.results8, go_sem, hc]) rfl ⟨ao, cap, rfl, ?_, ?_⟩
  · exact ((((((hown.setBelow (by simp) _).setBelow (by simp) _).setBelow (by simp) _).setBelow (by simp) _).setBelow (by simp) _).setBelow (by simp) _).mono (by simp; omega)
  · exact ((((((((((Below.refl _ _).alloc (Nat.le_refl _) _).alloc (by simp) _).alloc (by simp; omega) _).trans (hb.mono (by simp; omega))).setCell (by simp; omega) _).setCell (by simp; omega) _).setCell (by simp; omega) _).setCell (by simp) _).setCell (by simp) _).setCell (by simp) _

theorem eqDec_same (w : World) (p : Bool) (u v : Value) (l : List Int) (s : Int) (hu : Reads w u l) (hv : Reads w v l) :
    Calls Tryd.prog 10 #[.agg #[.bool p, u, .int .i64 s], .agg #[.bool p, v, .int .i64 s]] w fun e w' => e = .returned (.bool true) ∧ Below w.heap.size w w' := by
  have h := fun o o' => eqBig_same ((w.alloc o).alloc o') p u v l ((hu.alloc _).alloc _) ((hv.alloc _).alloc _)
  have H := hide h
  clear h
  have e0 : (!(s == s)) = false := by simp
  go_enter Tryd.func10, Tryd.ntmps10
  go_wp2_with fail
  refine (unhide H _ _).mono ?_
  rintro e w1 ⟨rfl, hb⟩
  obtain ⟨hc, hf⟩ := bcell hb
  have hz : w.heap.size + 1 < w1.heap.size := by have := hb.size; simp at this; omega
  go_wp2
  go_ret
  exact ⟨rfl, (((Below.refl _ _).alloc (Nat.le_refl _) _).alloc (by simp) _).trans (hb.mono (by simp; omega))⟩

end Go.Proofs.YtjefmjnmcphmeaaDoor
