/- What a call answers that hands out a decimal of its own. The program turns a sign, by a contract. -/
import Derived.Test.YthnkmjkgcnhlfaaGreatDoorH01
import Derived.Test.YthnkmjkgcnhlfaaGreatDoorH03
import Derived.Deep.RegionWith
namespace Go.Proofs.YthnkmjkgcnhlfaaGreatDoor
open Go.RowKit

/-- What a call answers that hands out a decimal of its own. -/
def GivesDec (w : World) (neg : Bool) (l : List Int) (s : Int) (e : Ending) (w' : World) : Prop :=
  ∃ ao cap, e = .returned (.agg #[.bool neg, .slice ao l.length cap, .int .i64 s]) ∧ Own w.heap.size w' (.slice ao l.length cap) l ∧ Below w.heap.size w w'

end Go.Proofs.YthnkmjkgcnhlfaaGreatDoor

namespace Go.Proofs.YthnkmjkgcnhlfaaGreatDoor
open Go.RowKit
set_option maxRecDepth 100000



theorem turned_any (w : World) (neg : Bool) (v : Value) (n : Nat) (hr : Reads w v (L n)) :
    Calls Tryz.prog 53 #[.agg #[.bool neg, v]] w fun e w' => ∃ v', e = .returned (.agg #[.bool (!neg && decide (n ≠ 0)), v']) ∧ Reads w' v' (L n) ∧ Below w.heap.size w w' := by
  have hr0 := hr
  obtain ⟨ao, b, off, cap, rfl, hr⟩ := hr
  clear hr
  go_enter Tryz.func53, Tryz.ntmps53
  go_wp2_with fail
  refine (signed_any _ _ ao (L n).length cap).mono ?_
  rintro e w1 ⟨rfl, hb⟩
  obtain ⟨hc, hf⟩ := bcell hb
  have hz : w.heap.size + 1 < w1.heap.size := by have := hb.size; simp at this; omega
  have fin : Below w.heap.size w w1 := (((Below.refl _ _).alloc (Nat.le_refl _) _).alloc (by simp) _).trans (hb.mono (by simp; omega))
  by_cases h : n = 0
  · subst h
    have e0 : (L 0).length = 0 := by simp [L_zero]
    rw [if_pos e0]
    go_wp2
    refine bodyPost_ret (v := .agg #[.bool false, .slice none 0 0]) (by simp [results, Tryz.results53, go_sem, hc]) rfl ⟨.slice none 0 0, by simp, ?_, ?_⟩
    · rw [L_zero]; exact (Own.nil 0 _).reads
    · exact (fin.setCell (by simp) _).setCell (by simp) _
  · have hl : (L n).length ≠ 0 := fun k => h (L_len_zero.1 k)
    rw [if_neg hl]
    have hd : (!neg && decide (n ≠ 0)) = !neg := by simp [h]
    have Hd := hide hd
    clear hd
    go_wp2
    refine bodyPost_ret (v := .agg #[.bool (!neg), .slice ao (L n).length cap]) (by simp [results, Tryz.results53, go_sem, hc]) rfl ⟨_, by rw [unhide Hd], ?_, ?_⟩
    · exact hr0.later ((fin.setCell (by simp) _).setCell (by simp) _)
    · exact (fin.setCell (by simp) _).setCell (by simp) _

end Go.Proofs.YthnkmjkgcnhlfaaGreatDoor
