/- Texts of figures: l1FromFigures by a contract. -/
import Derived.Test.YthcmkeegfhgliaaDoorFig1
import Derived.Test.YthcmkeegfhgliaaDoorOf0
import Derived.Test.YthcmkeegfhgliaaDoorSpA0
namespace Go.Proofs.YthcmkeegfhgliaaDoor
open Go.RowKit

end Go.Proofs.YthcmkeegfhgliaaDoor
