/- The law's toSpan, by its contract. -/
import Derived.Test.YtdklikicngmkbaaGreatDoorG04
namespace Go.Proofs.YtdklikicngmkbaaGreatDoor
open Go.RowKit

theorem toSpan_any (w : World) (m d : Int) : Calls Tryz.prog 52 #[.agg #[.int .i64 m, .int .i64 d]] w fun e w' => e = .returned (.agg #[.int .i64 m, .int .i64 d]) ∧
    w' = ((w.alloc (.cells #[.int .i64 m, .int .i64 d] 48)).alloc (.cells #[.int .i64 m, .int .i64 d] 29)).alloc (.cells #[.int .i64 m, .int .i64 d] 29) := by
  go_enter Tryz.func52, Tryz.ntmps52
  go_wp2
  refine bodyPost_ret (v := .agg #[.int .i64 m, .int .i64 d]) (by simp [results, Tryz.results52, go_sem]) rfl ⟨rfl, rfl⟩

end Go.Proofs.YtdklikicngmkbaaGreatDoor
