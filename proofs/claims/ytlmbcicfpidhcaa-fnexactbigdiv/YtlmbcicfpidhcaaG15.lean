/- Drawn texts and numbers: l14Figs, l14Big by contracts. jtInts, jtBig of the laws, by contracts. What draws of two numbers ask of memory. -/
import Derived.Test.YtlmbcicfpidhcaaDraw0
import Derived.Test.YtlmbcicfpidhcaaG12
import Derived.Test.YtlmbcicfpidhcaaG02
import Derived.Test.YtlmbcicfpidhcaaG14
import Derived.Laws.IdiomStrings
import Derived.Test.YtlmbcicfpidhcaaG04
namespace Go.Proofs.Ytlmbcicfpidhcaa
open Go.RowKit

end Go.Proofs.Ytlmbcicfpidhcaa

namespace Go.Proofs.Ytlmbcicfpidhcaa
open Go.RowKit
set_option maxRecDepth 100000

end Go.Proofs.Ytlmbcicfpidhcaa

namespace Go.Proofs.Ytlmbcicfpidhcaa
open Go.RowKit

end Go.Proofs.Ytlmbcicfpidhcaa
