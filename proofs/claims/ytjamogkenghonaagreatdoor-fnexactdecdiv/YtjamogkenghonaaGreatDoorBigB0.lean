/- Boxes and owned lists over later worlds. -/
import Derived.Test.YtjamogkenghonaaGreatDoorGb
import Derived.Test.YtjamogkenghonaaGreatDoorBigS0
import Derived.WalkSpells
namespace Go.Proofs.YtjamogkenghonaaGreatDoor
open Go.RowKit
set_option maxRecDepth 100000

end Go.Proofs.YtjamogkenghonaaGreatDoor
