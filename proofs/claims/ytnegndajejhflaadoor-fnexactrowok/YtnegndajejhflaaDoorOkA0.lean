/- What is ok of numbers. -/
import Derived.Test.YtnegndajejhflaaDoorKit1
namespace Go.Proofs.YtnegndajejhflaaDoor
open Go.RowKit
set_option maxRecDepth 100000


/-- A number is ok. -/
def OkBig (neg : Bool) (l : List Int) : Prop := l.length ≤ 16 ∧ Lim l ∧ (l = [] → neg = false) ∧ (l = [] ∨ l.getD (l.length - 1) 0 ≠ 0)

def okD (neg : Bool) (l : List Int) : Decidable (OkBig neg l) := by unfold OkBig Lim; exact inferInstance

def okB (neg : Bool) (l : List Int) : Bool := @decide (OkBig neg l) (okD neg l)

theorem okB_true {neg : Bool} {l : List Int} (h : OkBig neg l) : okB neg l = true := by simp [okB, h]

theorem okB_false {neg : Bool} {l : List Int} (h : ¬ OkBig neg l) : okB neg l = false := by simp [okB, h]

end Go.Proofs.YtnegndajejhflaaDoor
