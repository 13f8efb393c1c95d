/- The laws' own helpers: marks laid and asked for. -/
import Derived.Test.YtlmbcicfpidhcaaG23
namespace Go.Proofs.Ytlmbcicfpidhcaa
open Go.RowKit

end Go.Proofs.Ytlmbcicfpidhcaa
