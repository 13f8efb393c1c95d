/- A sign laid on limbs: signed, by a contract. -/
import Derived.Test.YtjamogkenghonaaGreatDoorGb
import Derived.Test.YtjamogkenghonaaGreatDoorImD
import Derived.Deep.RegionWith
namespace Go.Proofs.YtjamogkenghonaaGreatDoor
open Go.RowKit
set_option maxRecDepth 100000

end Go.Proofs.YtjamogkenghonaaGreatDoor
