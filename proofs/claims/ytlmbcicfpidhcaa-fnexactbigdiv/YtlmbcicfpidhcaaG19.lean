/- The program's numbers with a sign, by contracts: signed, bounded, turned, signOf, sumOf, productOf. The program's sum of two numbers with signs, by a contract. Words for functions of two numbers that answer a number and whether; the specification's sums with signs, and its bound. -/
import Derived.Test.YtlmbcicfpidhcaaG18
import Derived.Test.YtlmbcicfpidhcaaG03
import Derived.Test.YtlmbcicfpidhcaaG07
import Derived.Test.YtlmbcicfpidhcaaG08
import Derived.Deep.RegionWith
import Derived.WalkSpells
import Derived.Test.YtlmbcicfpidhcaaG17
import Derived.Test.YtlmbcicfpidhcaaG06
import Derived.Test.YtlmbcicfpidhcaaG05
import Derived.Test.YtlmbcicfpidhcaaG09
namespace Go.Proofs.Ytlmbcicfpidhcaa
open Go.RowKit
set_option maxRecDepth 100000

end Go.Proofs.Ytlmbcicfpidhcaa

namespace Go.Proofs.Ytlmbcicfpidhcaa
open Go.RowKit
set_option maxRecDepth 100000

end Go.Proofs.Ytlmbcicfpidhcaa

namespace Go.Proofs.Ytlmbcicfpidhcaa
open Go.RowKit
set_option maxRecDepth 100000

end Go.Proofs.Ytlmbcicfpidhcaa
