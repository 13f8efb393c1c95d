/- The law FnExactDayParts: its walk. -/
import Derived.Test.YtekmbpkbnknbeaaDayP
namespace Go.Proofs.Ytekmbpkbnknbeaa
open Go.RowKit

theorem xDayParts_walk (w : World) (n : Int) :
    Calls Try.prog 4 #[.int .i64 n] w fun e w' => e = .returned (.bool true) ∧ Below w.heap.size w w' := by
  have C1 := specDayParts_any w n
  have C2 := implDayParts_any w n
  generalize partY n = a at *
  generalize partM n = b at *
  generalize partD n = c at *
  generalize decide (IsDay n) = d at *
  have ha : (a != a) = false := by simp
  have hb : (b != b) = false := by simp
  have hc : (c != c) = false := by simp
  have hd : (!(d == d)) = false := by simp
  go_enter Try.func4, Try.ntmps4
  go_wp2_with fail
  refine C1.mono ?_
  rintro e w1 ⟨rfl, rfl⟩
  go_wp2_with fail
  refine C2.mono ?_
  rintro e w1 ⟨rfl, rfl⟩
  go_wp2
  go_ret
  exact ⟨rfl, Below.refl _ _⟩

end Go.Proofs.Ytekmbpkbnknbeaa
