/- The law FnExactSpanOk: its walk. -/
import Derived.Test.YtekmbpkbnknbeaaSpanL
import Derived.Test.YtekmbpkbnknbeaaSpanO
namespace Go.Proofs.Ytekmbpkbnknbeaa
open Go.RowKit

theorem xSpanOk_walk (w : World) (m d : Int) :
    Calls Try.prog 7 #[.agg #[.int .i64 m, .int .i64 d]] w fun e w' => e = .returned (.bool true) ∧ Below w.heap.size w w' := by
  have C1 := fun W => specSpanOk_any W m d
  have C2 := fun W => implSpanOk_any W m d
  have C0 := fun W => toSpan_any W m d
  generalize decide (SpanIs m d) = b at *
  have hb : (!(b == b)) = false := by simp
  go_enter Try.func7, Try.ntmps7
  go_wp2_with fail
  refine (C0 _).mono ?_
  rintro e w1 ⟨rfl, rfl⟩
  go_wp2_with fail
  refine (C1 _).mono ?_
  rintro e w2 ⟨rfl, rfl⟩
  go_wp2_with fail
  refine (C0 _).mono ?_
  rintro e w1 ⟨rfl, rfl⟩
  go_wp2_with fail
  refine (C2 _).mono ?_
  rintro e w2 ⟨rfl, rfl⟩
  go_wp2
  go_ret
  refine ⟨rfl, ?_⟩
  repeat (first | exact Below.refl _ _ | refine Below.alloc ?_ (by first | exact Nat.le_refl _ | (simp only [World.size_alloc]; omega)) _)

end Go.Proofs.Ytekmbpkbnknbeaa
