/- The law laws.FnExactTruthNot: its walk. -/
import Derived.Test.YtekmbpkbnknbeaaTru
namespace Go.Proofs.Ytekmbpkbnknbeaa
open Go.RowKit

theorem xTruthNot_walk (w : World) (a : Int) :
    Calls Try.prog 12 #[.int .i64 a] w fun e w' => e = .returned (.bool true) ∧ Below w.heap.size w w' := by
  have hb : (tNot a != tNot a) = false := by simp
  go_enter Try.func12, Try.ntmps12
  go_wp2_with fail
  refine (specTruthNot_any w a).mono ?_
  rintro e w1 ⟨rfl, rfl⟩
  go_wp2_with fail
  refine (implTruthNot_any w1 a).mono ?_
  rintro e w2 ⟨rfl, rfl⟩
  generalize tNot a = r at *
  go_wp2
  go_ret
  exact ⟨rfl, Below.refl _ _⟩

end Go.Proofs.Ytekmbpkbnknbeaa
