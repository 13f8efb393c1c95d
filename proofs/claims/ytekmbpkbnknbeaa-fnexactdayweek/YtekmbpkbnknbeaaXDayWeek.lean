/- The law laws.FnExactDayWeek: its walk. -/
import Derived.Test.YtekmbpkbnknbeaaDayX
namespace Go.Proofs.Ytekmbpkbnknbeaa
open Go.RowKit

theorem xDayWeek_walk (w : World) (n : Int) :
    Calls Try.prog 6 #[.int .i64 n] w fun e w' => e = .returned (.bool true) ∧ Below w.heap.size w w' := by
  have C1 := specDayWeek_any w n
  have C2 := implDayWeek_any w n
  generalize weekR n = r at *
  have hb : (r != r) = false := by simp
  go_enter Try.func6, Try.ntmps6
  go_wp2_with fail
  refine C1.mono ?_
  rintro e w1 ⟨rfl, rfl⟩
  go_wp2_with fail
  refine C2.mono ?_
  rintro e w1 ⟨rfl, rfl⟩
  go_wp2
  go_ret
  exact ⟨rfl, Below.refl _ _⟩

end Go.Proofs.Ytekmbpkbnknbeaa
