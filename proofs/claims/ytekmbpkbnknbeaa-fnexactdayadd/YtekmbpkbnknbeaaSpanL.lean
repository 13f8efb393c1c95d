/- The law's toSpan, by its contract. -/
import Derived.Test.YtekmbpkbnknbeaaSpanK
namespace Go.Proofs.Ytekmbpkbnknbeaa
open Go.RowKit

theorem toSpan_any (w : World) (m d : Int) : Calls Try.prog 24 #[.agg #[.int .i64 m, .int .i64 d]] w fun e w' => e = .returned (.agg #[.int .i64 m, .int .i64 d]) ∧
    w' = ((w.alloc (.cells #[.int .i64 m, .int .i64 d] 31)).alloc (.cells #[.int .i64 m, .int .i64 d] 33)).alloc (.cells #[.int .i64 m, .int .i64 d] 33) := by
  go_enter Try.func24, Try.ntmps24
  go_wp2
  refine bodyPost_ret (v := .agg #[.int .i64 m, .int .i64 d]) (by simp [results, Try.results24, go_sem]) rfl ⟨rfl, rfl⟩

end Go.Proofs.Ytekmbpkbnknbeaa
