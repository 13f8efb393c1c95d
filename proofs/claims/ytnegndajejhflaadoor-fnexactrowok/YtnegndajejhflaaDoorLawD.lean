/- The laws' own helpers for decimals: how large one is, a copy of it, whether two are the same. -/
import Derived.Test.YtnegndajejhflaaDoorLawD0
import Derived.Test.YtnegndajejhflaaDoorLawB
namespace Go.Proofs.YtnegndajejhflaaDoor
open Go.RowKit

theorem szDec_any (w : World) (neg : Bool) (v : Value) (l : List Int) (s : Int) (left : Int) (hr : Reads w v l) (h0 : 0 ≤ left) (h1 : left ≤ 1048576) :
    Calls Tryd.prog 19 #[.agg #[.bool neg, v, .int .i64 s], .int .i64 left] w fun e w' => e = .returned (.int .i64 (if left < l.length then -1 else left - l.length)) ∧ Below w.heap.size w w' := by
  have hs := fun o => szBig_any (w.alloc o) neg v l left (hr.alloc o) h0 h1
  obtain ⟨ao, b, off, cap, rfl, hr⟩ := hr
  have Hs := hide hs
  clear hs hr
  by_cases h : left < l.length
  · rw [if_pos h]
    go_enter Tryd.func19, Tryd.ntmps19
    go_wp2_with fail
    refine (unhide Hs _).mono ?_
    rw [if_pos (by omega)]
    rintro e w' ⟨rfl, b1⟩
    go_wp2
    go_ret
    exact ⟨rfl, ((Below.refl _ _).alloc (Nat.le_refl _) _).trans (b1.mono (by simp))⟩
  · rw [if_neg h]
    have h' : 0 ≤ left - l.length := by omega
    go_enter Tryd.func19, Tryd.ntmps19
    go_wp2_with fail
    refine (unhide Hs _).mono ?_
    rw [if_neg (by omega)]
    rintro e w' ⟨rfl, b1⟩
    go_wp2
    go_ret
    exact ⟨rfl, ((Below.refl _ _).alloc (Nat.le_refl _) _).trans (b1.mono (by simp))⟩

theorem toDec_any (w : World) (neg : Bool) (v : Value) (l : List Int) (s : Int) (hr : Reads w v l) (hl : l.length ≤ 1048576) :
    Calls Tryd.prog 23 #[.agg #[.bool neg, v, .int .i64 s]] w (GivesDec w neg l s) := by
  go_enter Tryd.func23, Tryd.ntmps23
  go_wp2_with fail
  refine (toBig_any _ neg v l (((hr.alloc _).alloc _).alloc _) hl).mono ?_
  rintro e w1 ⟨ao, cap, rfl, hown, hb⟩
  obtain ⟨hc, hf⟩ := bcell hb
  have hz : w.heap.size + 2 < w1.heap.size := by have := hb.size; simp at this; omega
  go_wp2
  refine bodyPost_ret (v := .agg #[.bool neg, .slice ao l.length cap, .int .i64 s]) (by simp [results, Tryd.results23, go_sem, hc]) rfl ⟨ao, cap, rfl, ?_, ?_⟩
  · exact ((((((hown.setBelow (by simp) _).setBelow (by simp) _).setBelow (by simp) _).setBelow (by simp) _).setBelow (by simp) _).setBelow (by simp) _).mono (by simp; omega)
  · exact ((((((((((Below.refl _ _).alloc (Nat.le_refl _) _).alloc (by simp) _).alloc (by simp; omega) _).trans (hb.mono (by simp; omega))).setCell (by simp; omega) _).setCell (by simp; omega) _).setCell (by simp; omega) _).setCell (by simp) _).setCell (by simp) _).setCell (by simp) _

end Go.Proofs.YtnegndajejhflaaDoor
