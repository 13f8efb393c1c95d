/- Boxes and owned lists over later worlds. -/
import Derived.Test.YtjefmjnmcphmeaaDoorBigB1
import Derived.Test.YtjefmjnmcphmeaaDoorBigS0
import Derived.WalkSpells
namespace Go.Proofs.YtjefmjnmcphmeaaDoor
open Go.RowKit
set_option maxRecDepth 100000

end Go.Proofs.YtjefmjnmcphmeaaDoor
