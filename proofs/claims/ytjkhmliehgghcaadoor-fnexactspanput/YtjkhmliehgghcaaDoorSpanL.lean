/- The law's toSpan, by its contract. -/
import Derived.Test.YtjkhmliehgghcaaDoorSpanK
namespace Go.Proofs.YtjkhmliehgghcaaDoor
open Go.RowKit

theorem toSpan_any (w : World) (m d : Int) : Calls Tryd.prog 27 #[.agg #[.int .i64 m, .int .i64 d]] w fun e w' => e = .returned (.agg #[.int .i64 m, .int .i64 d]) ∧
    w' = ((w.alloc (.cells #[.int .i64 m, .int .i64 d] 49)).alloc (.cells #[.int .i64 m, .int .i64 d] 51)).alloc (.cells #[.int .i64 m, .int .i64 d] 51) := by
  go_enter Tryd.func27, Tryd.ntmps27
  go_wp2
  refine bodyPost_ret (v := .agg #[.int .i64 m, .int .i64 d]) (by simp [results, Tryd.results27, go_sem]) rfl ⟨rfl, rfl⟩

end Go.Proofs.YtjkhmliehgghcaaDoor
