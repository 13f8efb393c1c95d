/- Texts of figures: the specification's l1IsFigures, the program's areFigures and arePlain, by contracts. -/
import Derived.Test.YtomcgnkmlmiijaaDoorGj
import Derived.Test.YtomcgnkmlmiijaaDoorFig0
namespace Go.Proofs.YtomcgnkmlmiijaaDoor
open Go.RowKit

end Go.Proofs.YtomcgnkmlmiijaaDoor
