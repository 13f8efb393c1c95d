/- Spans beside days. -/
import Derived.Test.YtekmbpkbnknbeaaDayP
import Derived.Test.YtekmbpkbnknbeaaSpanK
namespace Go.Proofs.Ytekmbpkbnknbeaa
end Go.Proofs.Ytekmbpkbnknbeaa
