/- The program's sums, differences and products, at numbers that are ok. -/
import Derived.Test.YthnkmjkgcnhlfaaGreatDoorPSt0
import Derived.Test.YthnkmjkgcnhlfaaGreatDoorNumA
import Derived.Test.YthnkmjkgcnhlfaaGreatDoorBigE
import Derived.Test.YthnkmjkgcnhlfaaGreatDoorBigE0
import Derived.Test.YthnkmjkgcnhlfaaGreatDoorBigG
namespace Go.Proofs.YthnkmjkgcnhlfaaGreatDoor
open Go.RowKit

theorem implAdd_z {W : World} {a b : Int} (ha : (L a.natAbs).length ≤ 16) (hb : (L b.natAbs).length ≤ 16) {u v : Value} (hu : Reads W u (L a.natAbs)) (hv : Reads W v (L b.natAbs)) :
    Calls Tryz.prog 34 #[.agg #[.bool (sg a), u], .agg #[.bool (sg b), v]] W (GivesBig2 W (outR true (a + b))) := by
  have := implBigAdd_any W (sg a) (sg b) u v _ _ hu hv
  rwa [okB_z ha, okB_z hb, zv_z, zv_z] at this

theorem implSub_z {W : World} {a b : Int} (ha : (L a.natAbs).length ≤ 16) (hb : (L b.natAbs).length ≤ 16) {u v : Value} (hu : Reads W u (L a.natAbs)) (hv : Reads W v (L b.natAbs)) :
    Calls Tryz.prog 33 #[.agg #[.bool (sg a), u], .agg #[.bool (sg b), v]] W (GivesBig2 W (outR true (a - b))) := by
  have := implBigSub_any W (sg a) (sg b) u v _ _ hu hv
  rwa [okB_z ha, okB_z hb, zv_z, zv_z] at this

theorem implMul_z {W : World} {a b : Int} (ha : (L a.natAbs).length ≤ 16) (hb : (L b.natAbs).length ≤ 16) {u v : Value} (hu : Reads W u (L a.natAbs)) (hv : Reads W v (L b.natAbs)) :
    Calls Tryz.prog 32 #[.agg #[.bool (sg a), u], .agg #[.bool (sg b), v]] W (GivesBig2 W (outR true (a * b))) := by
  have := implBigMul_any W (sg a) (sg b) u v _ _ hu hv
  rwa [okB_z ha, okB_z hb, zv_z, zv_z] at this

theorem out_cases (z : Int) : (outR true z = (sg z, L z.natAbs, true) ∧ (L z.natAbs).length ≤ 16) ∨ outR true z = (false, [], false) := by
  unfold outR
  by_cases h : (L z.natAbs).length ≤ 16
  · exact .inl ⟨by simp [h], h⟩
  · exact .inr (by simp [h])

end Go.Proofs.YthnkmjkgcnhlfaaGreatDoor
