/- The law's toSpan, by its contract. -/
import Derived.Test.YtnegndajejhflaaDoorSpanK
namespace Go.Proofs.YtnegndajejhflaaDoor
open Go.RowKit

theorem toSpan_any (w : World) (m d : Int) : Calls Tryd.prog 24 #[.agg #[.int .i64 m, .int .i64 d]] w fun e w' => e = .returned (.agg #[.int .i64 m, .int .i64 d]) ∧
    w' = ((w.alloc (.cells #[.int .i64 m, .int .i64 d] 28)).alloc (.cells #[.int .i64 m, .int .i64 d] 38)).alloc (.cells #[.int .i64 m, .int .i64 d] 38) := by
  go_enter Tryd.func24, Tryd.ntmps24
  go_wp2
  refine bodyPost_ret (v := .agg #[.int .i64 m, .int .i64 d]) (by simp [results, Tryd.results24, go_sem]) rfl ⟨rfl, rfl⟩

end Go.Proofs.YtnegndajejhflaaDoor
