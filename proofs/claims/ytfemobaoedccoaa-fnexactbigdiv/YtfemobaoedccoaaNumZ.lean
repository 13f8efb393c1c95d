/- The program's and the specification's sums, differences and products, at numbers that are ok. -/
import Derived.Test.YtfemobaoedccoaaNumY
import Derived.Test.YtfemobaoedccoaaPSt
import Derived.Test.YtfemobaoedccoaaNumA
import Derived.Test.YtfemobaoedccoaaBigE
import Derived.Test.YtfemobaoedccoaaBigF
import Derived.Test.YtfemobaoedccoaaBigG
import Derived.Test.YtfemobaoedccoaaBigH
namespace Go.Proofs.Ytfemobaoedccoaa
open Go.RowKit


theorem implMul_z {W : World} {a b : Int} (ha : (L a.natAbs).length ≤ 16) (hb : (L b.natAbs).length ≤ 16) {u v : Value} (hu : Reads W u (L a.natAbs)) (hv : Reads W v (L b.natAbs)) :
    Calls Try.prog 17 #[.agg #[.bool (sg a), u], .agg #[.bool (sg b), v]] W (GivesBig2 W (outR true (a * b))) := by
  have := implBigMul_any W (sg a) (sg b) u v _ _ hu hv
  rwa [okB_z ha, okB_z hb, zv_z, zv_z] at this

theorem specMul_z {W : World} {a b : Int} (ha : (L a.natAbs).length ≤ 16) (hb : (L b.natAbs).length ≤ 16) {u v : Value} (hu : Reads W u (L a.natAbs)) (hv : Reads W v (L b.natAbs)) :
    Calls Try.prog 18 #[.agg #[.bool (sg a), u], .agg #[.bool (sg b), v]] W (GivesBig2 W (outR true (a * b))) := by
  have := specBigMul_any W (sg a) (sg b) u v _ _ hu hv
  rwa [okB_z ha, okB_z hb, zv_z, zv_z] at this

end Go.Proofs.Ytfemobaoedccoaa
