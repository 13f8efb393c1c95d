/- The law laws.FnExactTruthOr: its walk. -/
import Derived.Test.YtekmbpkbnknbeaaTru
namespace Go.Proofs.Ytekmbpkbnknbeaa
open Go.RowKit

theorem xTruthOr_walk (w : World) (a b : Int) :
    Calls Try.prog 13 #[.int .i64 a, .int .i64 b] w fun e w' => e = .returned (.bool true) ∧ Below w.heap.size w w' := by
  have hb : (tOr a b != tOr a b) = false := by simp
  go_enter Try.func13, Try.ntmps13
  go_wp2_with fail
  refine (specTruthOr_any w a b).mono ?_
  rintro e w1 ⟨rfl, rfl⟩
  go_wp2_with fail
  refine (implTruthOr_any w1 a b).mono ?_
  rintro e w2 ⟨rfl, rfl⟩
  generalize tOr a b = r at *
  go_wp2
  go_ret
  exact ⟨rfl, Below.refl _ _⟩

end Go.Proofs.Ytekmbpkbnknbeaa
