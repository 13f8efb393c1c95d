/- A box of a number that stands empty while a call goes on. -/
import Derived.Test.YthnkmjkgcnhlfaaGreatDoorH04
import Derived.Test.YthnkmjkgcnhlfaaGreatDoorBigD0
namespace Go.Proofs.YthnkmjkgcnhlfaaGreatDoor
open Go.RowKit

end Go.Proofs.YthnkmjkgcnhlfaaGreatDoor
