/- Whether two decimals are the same. -/
import Derived.Test.YtoadmnonpgkpmaaDoorLawB0
namespace Go.Proofs.YtoadmnonpgkpmaaDoor
open Go.RowKit


/-- What a call answers that hands out a decimal of its own. -/
def GivesDec (w : World) (neg : Bool) (l : List Int) (s : Int) (e : Ending) (w' : World) : Prop :=
  ∃ ao cap, e = .returned (.agg #[.bool neg, .slice ao l.length cap, .int .i64 s]) ∧ Own w.heap.size w' (.slice ao l.length cap) l ∧ Below w.heap.size w w'

theorem eqDec_same (w : World) (p : Bool) (u v : Value) (l : List Int) (s : Int) (hu : Reads w u l) (hv : Reads w v l) :
    Calls Tryd.prog 6 #[.agg #[.bool p, u, .int .i64 s], .agg #[.bool p, v, .int .i64 s]] w fun e w' => e = .returned (.bool true) ∧ Below w.heap.size w w' := by
  have h := fun o o' => eqBig_same ((w.alloc o).alloc o') p u v l ((hu.alloc _).alloc _) ((hv.alloc _).alloc _)
  have H := hide h
  clear h
  have e0 : (!(s == s)) = false := by simp
  go_enter Tryd.func6, Tryd.ntmps6
  go_wp2_with fail
  refine (unhide H _ _).mono ?_
  rintro e w1 ⟨rfl, hb⟩
  obtain ⟨hc, hf⟩ := bcell hb
  have hz : w.heap.size + 1 < w1.heap.size := by have := hb.size; simp at this; omega
  go_wp2
  go_ret
  exact ⟨rfl, (((Below.refl _ _).alloc (Nat.le_refl _) _).alloc (by simp) _).trans (hb.mono (by simp; omega))⟩

end Go.Proofs.YtoadmnonpgkpmaaDoor
