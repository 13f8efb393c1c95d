/- What the texts on numbers import together, and one law on lists. -/
import Derived.Test.YtdefhpegabifjaaDoorProg
import Derived.Test.YtdefhpegabifjaaDoorMath2
import Derived.Test.YtdefhpegabifjaaDoorPush
import Derived.WalkLawsBesides
import Derived.Deep.QuietTactic
import Derived.BigQuiet
import Derived.WalkSmall
namespace Go.Proofs.YtdefhpegabifjaaDoor
open Go.RowKit

theorem take_succ_eq {l m : List Int} {k : Nat} (h : l.take k = m.take k) (h1 : k < l.length) (h2 : k < m.length) (he : l[k] = m[k]) : l.take (k + 1) = m.take (k + 1) := by
  rw [List.take_succ_eq_append_getElem h1, List.take_succ_eq_append_getElem h2, h, he]

end Go.Proofs.YtdefhpegabifjaaDoor
