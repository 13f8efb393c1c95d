/- Texts of figures: l1FromFigures by a contract. -/
import Derived.Test.YtomcgnkmlmiijaaDoorGi
import Derived.Test.YtomcgnkmlmiijaaDoorOf0
import Derived.Test.YtomcgnkmlmiijaaDoorSpA0
namespace Go.Proofs.YtomcgnkmlmiijaaDoor
open Go.RowKit

end Go.Proofs.YtomcgnkmlmiijaaDoor
