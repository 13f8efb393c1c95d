/- SpanOk of the specification. -/
import Derived.Test.YtnfalniijmccjaaDoorSpanK
namespace Go.Proofs.YtnfalniijmccjaaDoor
open Go.RowKit

theorem specSpanOk_any (w : World) (m d : Int) : Calls Tryd.prog 21 #[.agg #[.int .i64 m, .int .i64 d]] w fun e w' => e = .returned (.bool (decide (SpanIs m d))) ∧ w' = (w.alloc (.cells #[.int .i64 m, .int .i64 d] 31)).alloc (.cells #[.int .i64 m, .int .i64 d] 31) := by
  have C := fun W => specL3SpanOk_any W m d
  generalize decide (SpanIs m d) = b at *
  go_enter Tryd.func21, Tryd.ntmps21
  go_wp2_with fail
  refine (C _).mono ?_
  rintro e w1 ⟨rfl, rfl⟩
  go_wp2
  go_ret
  exact ⟨rfl, rfl⟩

end Go.Proofs.YtnfalniijmccjaaDoor
