/- signed by a contract; the number of a sign and limbs. -/
import Derived.Test.YthcmkeegfhgliaaDoorImA0
import Derived.Deep.RegionWith
namespace Go.Proofs.YthcmkeegfhgliaaDoor
open Go.RowKit
set_option maxRecDepth 100000




/-- What 'signed' answers: the limbs that it was given, or none, if they are none. -/
theorem signed_any (w : World) (neg : Bool) (ao : Option Addr) (n cap : Nat) :
    Calls Tryd.prog 24 #[.bool neg, .slice ao n cap] w fun e w' => e = .returned (if n = 0 then .agg #[.bool false, .slice none 0 0] else .agg #[.bool neg, .slice ao n cap]) ∧ Below w.heap.size w w' := by
  by_cases h : n = 0
  · rw [if_pos h]
    have h' : ((n : Int) == 0) = true := by simp [h]
    have hn : n ≤ 9223372036854775807 := by omega
    clear h
    go_enter Tryd.func24, Tryd.ntmps24
    go_wp2
    refine bodyPost_ret (v := .agg #[.bool false, .slice none 0 0]) (by simp [results, Tryd.results24, go_sem]) rfl ⟨rfl, ?_⟩
    exact (Below.refl _ _).alloc (Nat.le_refl _) _
  · rw [if_neg h]
    have h' : ((n : Int) == 0) = false := by simp [h]
    go_enter Tryd.func24, Tryd.ntmps24
    go_wp2
    refine bodyPost_ret (v := .agg #[.bool neg, .slice ao n cap]) (by simp [results, Tryd.results24, go_sem]) rfl ⟨rfl, ?_⟩
    exact (Below.refl _ _).alloc (Nat.le_refl _) _

/-- A number by its sign and its limbs' number. -/
def zof (neg : Bool) (n : Nat) : Int := if neg then -(n : Int) else n

/-- Whether a number is below 0. -/
def sg (z : Int) : Bool := decide (z < 0)

/-- From what 'signed' answers to a number of the call's own. -/
theorem signed_gives {w w1 w2 : World} {B : Nat} {neg : Bool} {ao : Option Addr} {cap n : Nat} {z : Int} (ho : Own B w1 (.slice ao (L n).length cap) (L n)) (h1 : Below w.heap.size w w1) (h2 : Below w1.heap.size w1 w2) (hz : z = zof neg n) :
    ∃ ao' cap', (if (L n).length = 0 then Value.agg #[.bool false, .slice none 0 0] else .agg #[.bool neg, .slice ao (L n).length cap]) = .agg #[.bool (sg z), .slice ao' (L z.natAbs).length cap'] ∧ Own B w2 (.slice ao' (L z.natAbs).length cap') (L z.natAbs) ∧ Below w.heap.size w w2 := by
  have hb : Below w.heap.size w w2 := h1.trans (h2.mono h1.size)
  have hna : z.natAbs = n := by subst hz; unfold zof; split <;> omega
  rw [hna]
  by_cases h : n = 0
  · subst h
    have e : z = 0 := by omega
    rw [L_zero]
    refine ⟨none, 0, ?_, Own.nil _ _, hb⟩
    simp [e, sg]
  · have hl : (L n).length ≠ 0 := fun k => h (L_len_zero.1 k)
    rw [if_neg hl]
    refine ⟨ao, cap, ?_, ho.later h2, hb⟩
    have : sg z = neg := by
      subst hz
      unfold sg zof
      cases neg <;> simp <;> omega
    rw [this]

end Go.Proofs.YthcmkeegfhgliaaDoor
