/- How many times a number goes into another one: the specification's l1Fits by a contract. How many times a number goes into another one: the program's above by a contract. The program's through: how many times a number goes into another one, and what is left. -/
import Derived.Test.YtlmbcicfpidhcaaDivS0
import Derived.Test.YtlmbcicfpidhcaaG09
import Derived.Test.YtlmbcicfpidhcaaG10
import Derived.Test.YtlmbcicfpidhcaaG08
import Derived.Test.YtlmbcicfpidhcaaSpB
import Derived.Test.YtlmbcicfpidhcaaDivI0
import Derived.Test.YtlmbcicfpidhcaaG07
import Derived.Test.YtlmbcicfpidhcaaDivJ0
namespace Go.Proofs.Ytlmbcicfpidhcaa
open Go.RowKit

end Go.Proofs.Ytlmbcicfpidhcaa

namespace Go.Proofs.Ytlmbcicfpidhcaa
open Go.RowKit

end Go.Proofs.Ytlmbcicfpidhcaa

namespace Go.Proofs.Ytlmbcicfpidhcaa
open Go.RowKit

end Go.Proofs.Ytlmbcicfpidhcaa
