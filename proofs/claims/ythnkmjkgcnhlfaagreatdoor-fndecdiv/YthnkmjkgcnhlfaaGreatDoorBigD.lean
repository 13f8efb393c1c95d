/- Words for functions of two numbers that answer a number and whether; the specification's sums with signs, and its bound. -/
import Derived.Test.YthnkmjkgcnhlfaaGreatDoorL1A
import Derived.Test.YthnkmjkgcnhlfaaGreatDoorK06
import Derived.Test.YthnkmjkgcnhlfaaGreatDoorH16
import Derived.Test.YthnkmjkgcnhlfaaGreatDoorH19
import Derived.Test.YthnkmjkgcnhlfaaGreatDoorOkA
namespace Go.Proofs.YthnkmjkgcnhlfaaGreatDoor
open Go.RowKit
set_option maxRecDepth 100000

end Go.Proofs.YthnkmjkgcnhlfaaGreatDoor
