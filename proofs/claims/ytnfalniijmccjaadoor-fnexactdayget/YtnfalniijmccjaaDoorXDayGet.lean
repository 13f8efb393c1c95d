/- The law FnExactDayGet: its walk. -/
import Derived.Test.YtnfalniijmccjaaDoorDyW
namespace Go.Proofs.YtnfalniijmccjaaDoor
open Go.RowKit

theorem xDayGet_walk (w : World) (s : ByteArray) (hs : s.size ≤ maxLen) (tt : Tab w) (he : Er w) :
    Calls Tryd.prog 7 #[.string s] w fun e w' => e = .returned (.bool true) ∧ Below w.heap.size w w' := by
  have CS := hide (fun W => specDayGet_any W s hs)
  unfold maxLen at hs
  by_cases hl : (1048576 : Int) < s.size
  · have t0 : decide ((1048576 : Int) < s.size) = true := by simpa using hl
    go_enter Tryd.func7, Tryd.ntmps7
    go_wp2
    go_ret
    exact ⟨rfl, Below.refl _ _⟩
  have t0 : decide ((1048576 : Int) < s.size) = false := by simpa using hl
  have CI := hide (fun W (b : Below w.heap.size w W) => implDayGet_any W s (tt.later b) (he.later b))
  generalize decide (0 < dayG s) = B at *
  generalize dayG s = G at *
  have hg : (G != G) = false := by simp
  have hb : (B != B) = false := by simp
  go_enter Tryd.func7, Tryd.ntmps7
  go_wp2_with fail
  refine (unhide CS _).mono ?_
  rintro e w1 ⟨rfl, rfl⟩
  go_wp2_with fail
  refine (unhide CI _ (Below.refl _ _)).mono ?_
  rintro e w2 ⟨rfl, b2⟩
  go_wp2
  go_ret
  exact ⟨rfl, b2⟩

end Go.Proofs.YtnfalniijmccjaaDoor
