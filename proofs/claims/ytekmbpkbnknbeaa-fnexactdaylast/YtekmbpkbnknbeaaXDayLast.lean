/- The law laws.FnExactDayLast: its walk. -/
import Derived.Test.YtekmbpkbnknbeaaDayX
namespace Go.Proofs.Ytekmbpkbnknbeaa
open Go.RowKit

theorem xDayLast_walk (w : World) (y m : Int) :
    Calls Try.prog 5 #[.int .i64 y, .int .i64 m] w fun e w' => e = .returned (.bool true) ∧ Below w.heap.size w w' := by
  have C1 := specDayLast_any w y m
  have C2 := implDayLast_any w y m
  generalize lastR y m = r at *
  have hb : (r != r) = false := by simp
  go_enter Try.func5, Try.ntmps5
  go_wp2_with fail
  refine C1.mono ?_
  rintro e w1 ⟨rfl, rfl⟩
  go_wp2_with fail
  refine C2.mono ?_
  rintro e w1 ⟨rfl, rfl⟩
  go_wp2
  go_ret
  exact ⟨rfl, Below.refl _ _⟩

end Go.Proofs.Ytekmbpkbnknbeaa
