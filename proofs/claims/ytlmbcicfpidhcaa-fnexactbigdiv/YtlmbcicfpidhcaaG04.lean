/- What a law's walk carries from call to call: cells of its boxes, lists that it owns, each within its own blocks; old memory as it was. What is ok of numbers. What numbers answer. -/
import Derived.Test.YtlmbcicfpidhcaaStt1
import Derived.Test.YtlmbcicfpidhcaaG00
import Derived.Test.YtlmbcicfpidhcaaG03
import Derived.WalkSpells
import Derived.Test.YtlmbcicfpidhcaaG01
namespace Go.Proofs.Ytlmbcicfpidhcaa
open Go.RowKit

end Go.Proofs.Ytlmbcicfpidhcaa

namespace Go.Proofs.Ytlmbcicfpidhcaa
open Go.RowKit
set_option maxRecDepth 100000


/-- A number is ok. -/
def OkBig (neg : Bool) (l : List Int) : Prop := l.length ≤ 16 ∧ Lim l ∧ (l = [] → neg = false) ∧ (l = [] ∨ l.getD (l.length - 1) 0 ≠ 0)

def okD (neg : Bool) (l : List Int) : Decidable (OkBig neg l) := by unfold OkBig Lim; exact inferInstance

def okB (neg : Bool) (l : List Int) : Bool := @decide (OkBig neg l) (okD neg l)

theorem okB_true {neg : Bool} {l : List Int} (h : OkBig neg l) : okB neg l = true := by simp [okB, h]

theorem okB_false {neg : Bool} {l : List Int} (h : ¬ OkBig neg l) : okB neg l = false := by simp [okB, h]

end Go.Proofs.Ytlmbcicfpidhcaa

namespace Go.Proofs.Ytlmbcicfpidhcaa
open Go.RowKit
set_option maxRecDepth 100000




/-- A number that was made, if it is not too long; nothing, if it is, or if it was not asked of what is ok. -/
def outR (ok : Bool) (z : Int) : Bool × List Int × Bool := if ok = true ∧ (L z.natAbs).length ≤ 16 then (sg z, L z.natAbs, true) else (false, [], false)

/-- What a call answers that hands out a number of its own, and whether. -/
def GivesBig2 (w : World) (o : Bool × List Int × Bool) (e : Ending) (w' : World) : Prop :=
  ∃ ao cap, e = .returned (.tuple #[.agg #[.bool o.1, .slice ao o.2.1.length cap], .bool o.2.2]) ∧ Own w.heap.size w' (.slice ao o.2.1.length cap) o.2.1 ∧ Below w.heap.size w w'

/-- The number that a sign and limbs are. -/
def zv (neg : Bool) (l : List Int) : Int := zof neg (val l).toNat

theorem okB_iff {neg : Bool} {l : List Int} : okB neg l = true ↔ OkBig neg l := by simp [okB]

/-- What is ok has the limbs of its number. -/
theorem ok_limbs {neg : Bool} {l : List Int} (h : okB neg l = true) : l = L (val l).toNat ∧ (val l).toNat < 10000 ^ 16 := by
  obtain ⟨h1, h2, _, h4⟩ := okB_iff.1 h
  have e := L_of h2 h4
  refine ⟨e, lt_of_L_len ?_⟩
  rw [← e]
  exact h1

theorem ok_sign {neg : Bool} {l : List Int} (h : okB neg l = true) : neg = sg (zv neg l) := by
  obtain ⟨e, _⟩ := ok_limbs h
  obtain ⟨h1, h2, h3, h4⟩ := okB_iff.1 h
  unfold sg zv zof
  cases neg
  · simp
    omega
  · have hl : l ≠ [] := fun k => by have := h3 k; cases this
    have hn : (val l).toNat ≠ 0 := fun k => hl (by rw [e, k, L_zero])
    simp
    omega

theorem pow16 {n k : Nat} (h : n < 10000 ^ 16) (hk : 16 ≤ k) : n < 10000 ^ k := Nat.lt_of_lt_of_le h (Nat.pow_le_pow_right (by decide) hk)

end Go.Proofs.Ytlmbcicfpidhcaa
