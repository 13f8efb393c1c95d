/- Spans beside days. -/
import Derived.Test.YtieinmfmkimjjaaDayP
import Derived.Test.YtieinmfmkimjjaaSpanK
namespace Go.Proofs.Ytieinmfmkimjjaa
end Go.Proofs.Ytieinmfmkimjjaa
