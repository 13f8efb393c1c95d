/- A sign laid on limbs: signed, by a contract. -/
import Derived.Test.YtjefmjnmcphmeaaDoorBigS1
import Derived.Test.YtjefmjnmcphmeaaDoorImD
import Derived.Deep.RegionWith
namespace Go.Proofs.YtjefmjnmcphmeaaDoor
open Go.RowKit
set_option maxRecDepth 100000

end Go.Proofs.YtjefmjnmcphmeaaDoor
