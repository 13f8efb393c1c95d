/- The law laws.FnExactDayOf: its walk. -/
import Derived.Test.YtekmbpkbnknbeaaDayX
namespace Go.Proofs.Ytekmbpkbnknbeaa
open Go.RowKit

theorem xDayOf_walk (w : World) (y m d : Int) :
    Calls Try.prog 3 #[.int .i64 y, .int .i64 m, .int .i64 d] w fun e w' => e = .returned (.bool true) ∧ Below w.heap.size w w' := by
  have C1 := specDayOf_any w y m d
  have C2 := implDayOf_any w y m d
  generalize dayR y m d = r at *
  have hb : (r != r) = false := by simp
  go_enter Try.func3, Try.ntmps3
  go_wp2_with fail
  refine C1.mono ?_
  rintro e w1 ⟨rfl, rfl⟩
  go_wp2_with fail
  refine C2.mono ?_
  rintro e w1 ⟨rfl, rfl⟩
  go_wp2
  go_ret
  exact ⟨rfl, Below.refl _ _⟩

end Go.Proofs.Ytekmbpkbnknbeaa
