/- TypeOk of the program, l4TypeOk of the specification. -/
import Derived.Test.YtnegndajejhflaaDoorTypK0
import Derived.Test.YtnegndajejhflaaDoorScK
import Derived.WalkKit
import Derived.WalkSmall
import Derived.WalkLawsBesides
import Derived.Below
import Derived.Deep.QuietTactic
import Derived.BigQuiet
namespace Go.Proofs.YtnegndajejhflaaDoor
open Go.RowKit

theorem toType_any (w : World) (k d s : Int) : Calls Tryd.prog 8 #[.agg #[.int .i64 k, .int .i64 d, .int .i64 s]] w fun e w' => e = .returned (.agg #[.int .i64 k, .int .i64 d, .int .i64 s]) ∧
    w' = ((w.alloc (.cells #[.int .i64 k, .int .i64 d, .int .i64 s] 32)).alloc (.cells #[.int .i64 k, .int .i64 d, .int .i64 s] 42)).alloc (.cells #[.int .i64 k, .int .i64 d, .int .i64 s] 42) := by
  go_enter Tryd.func8, Tryd.ntmps8
  go_wp2
  refine bodyPost_ret (v := .agg #[.int .i64 k, .int .i64 d, .int .i64 s]) (by simp [results, Tryd.results8, go_sem]) rfl ⟨rfl, rfl⟩

end Go.Proofs.YtnegndajejhflaaDoor
