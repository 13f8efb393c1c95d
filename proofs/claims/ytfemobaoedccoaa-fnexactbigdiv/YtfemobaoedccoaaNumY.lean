/- The program's and the specification's sums and differences, at numbers that are ok. -/
import Derived.Test.YtfemobaoedccoaaPSt
import Derived.Test.YtfemobaoedccoaaNumA
import Derived.Test.YtfemobaoedccoaaBigE
import Derived.Test.YtfemobaoedccoaaBigF
import Derived.Test.YtfemobaoedccoaaBigG
namespace Go.Proofs.Ytfemobaoedccoaa
open Go.RowKit

theorem implAdd_z {W : World} {a b : Int} (ha : (L a.natAbs).length ≤ 16) (hb : (L b.natAbs).length ≤ 16) {u v : Value} (hu : Reads W u (L a.natAbs)) (hv : Reads W v (L b.natAbs)) :
    Calls Try.prog 22 #[.agg #[.bool (sg a), u], .agg #[.bool (sg b), v]] W (GivesBig2 W (outR true (a + b))) := by
  have := implBigAdd_any W (sg a) (sg b) u v _ _ hu hv
  rwa [okB_z ha, okB_z hb, zv_z, zv_z] at this

theorem specAdd_z {W : World} {a b : Int} (ha : (L a.natAbs).length ≤ 16) (hb : (L b.natAbs).length ≤ 16) {u v : Value} (hu : Reads W u (L a.natAbs)) (hv : Reads W v (L b.natAbs)) :
    Calls Try.prog 37 #[.agg #[.bool (sg a), u], .agg #[.bool (sg b), v]] W (GivesBig2 W (outR true (a + b))) := by
  have := specBigAdd_any W (sg a) (sg b) u v _ _ hu hv
  rwa [okB_z ha, okB_z hb, zv_z, zv_z] at this

theorem implSub_z {W : World} {a b : Int} (ha : (L a.natAbs).length ≤ 16) (hb : (L b.natAbs).length ≤ 16) {u v : Value} (hu : Reads W u (L a.natAbs)) (hv : Reads W v (L b.natAbs)) :
    Calls Try.prog 39 #[.agg #[.bool (sg a), u], .agg #[.bool (sg b), v]] W (GivesBig2 W (outR true (a - b))) := by
  have := implBigSub_any W (sg a) (sg b) u v _ _ hu hv
  rwa [okB_z ha, okB_z hb, zv_z, zv_z] at this

theorem specSub_z {W : World} {a b : Int} (ha : (L a.natAbs).length ≤ 16) (hb : (L b.natAbs).length ≤ 16) {u v : Value} (hu : Reads W u (L a.natAbs)) (hv : Reads W v (L b.natAbs)) :
    Calls Try.prog 38 #[.agg #[.bool (sg a), u], .agg #[.bool (sg b), v]] W (GivesBig2 W (outR true (a - b))) := by
  have := specBigSub_any W (sg a) (sg b) u v _ _ hu hv
  rwa [okB_z ha, okB_z hb, zv_z, zv_z] at this

theorem out_cases (z : Int) : (outR true z = (sg z, L z.natAbs, true) ∧ (L z.natAbs).length ≤ 16) ∨ outR true z = (false, [], false) := by
  unfold outR
  by_cases h : (L z.natAbs).length ≤ 16
  · exact .inl ⟨by simp [h], h⟩
  · exact .inr (by simp [h])

end Go.Proofs.Ytfemobaoedccoaa
