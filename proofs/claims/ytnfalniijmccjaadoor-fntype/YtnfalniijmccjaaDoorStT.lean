/- Whether a text begins with another one: the specification's l1Starts by a contract. -/
import Derived.Test.YtnfalniijmccjaaDoorProg
import Derived.Test.YtnfalniijmccjaaDoorBase
import Derived.WalkKit
import Derived.WalkSmall
namespace Go.Proofs.YtnfalniijmccjaaDoor
open Go.RowKit
set_option maxRecDepth 100000

/-- Whether a text begins with another one. -/
def startB (s t : ByteArray) : Bool := decide (t.size ≤ s.size) && ((s.extract 0 t.size).toList == t.toList)

theorem l1Starts_any (w : World) (s t : ByteArray) :
    Calls Tryd.prog 88 #[.string s, .string t] w fun e w' => e = .returned (.bool (startB s t)) ∧ w' = w := by
  by_cases h : t.size ≤ s.size
  · have k : decide ((t.size : Int) ≤ (s.size : Int)) = true := by simp; omega
    have hk1 : (t.size : Int) ≤ (s.size : Int) := by omega
    have hk2 : (0 : Int) ≤ (t.size : Int) := by omega
    have E := hide (show startB s t = ((s.extract 0 t.size).toList == t.toList) by unfold startB; rw [decide_eq_true h, Bool.true_and])
    go_enter Tryd.func88, Tryd.ntmps88
    go_wp2
    go_ret
    exact ⟨congrArg (fun b : Bool => Ending.returned (.bool b)) (unhide E).symm, rfl⟩
  · have k : decide ((t.size : Int) ≤ (s.size : Int)) = false := by simp; omega
    have E := hide (show startB s t = false by unfold startB; rw [decide_eq_false h, Bool.false_and])
    go_enter Tryd.func88, Tryd.ntmps88
    go_wp2
    go_ret
    exact ⟨congrArg (fun b : Bool => Ending.returned (.bool b)) (unhide E).symm, rfl⟩

end Go.Proofs.YtnfalniijmccjaaDoor
