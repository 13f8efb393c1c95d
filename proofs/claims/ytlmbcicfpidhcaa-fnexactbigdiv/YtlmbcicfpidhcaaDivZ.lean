/- Quotients and what is left: that they fit, what they are together, how what is left stands to the second. -/
import Derived.Test.YtlmbcicfpidhcaaG16
import Derived.Test.YtlmbcicfpidhcaaG21
import Derived.Test.YtlmbcicfpidhcaaG22
namespace Go.Proofs.Ytlmbcicfpidhcaa

theorem fit_quo {a b : Int} (ha : (L a.natAbs).length ≤ 16) : (L (a.tdiv b).natAbs).length ≤ 16 := fit_le ha (by rw [Int.natAbs_tdiv]; exact Nat.div_le_self _ _)

theorem fit_rest {a b : Int} (ha : (L a.natAbs).length ≤ 16) : (L (a.tmod b).natAbs).length ≤ 16 := fit_le ha (by rw [Int.natAbs_tmod]; exact Nat.mod_le _ _)

theorem fit_back {a b : Int} (ha : (L a.natAbs).length ≤ 16) : (L (a.tdiv b * b).natAbs).length ≤ 16 := fit_le ha (by rw [Int.natAbs_mul, Int.natAbs_tdiv]; exact Nat.div_mul_le_self _ _)

theorem cmp_rest {a b : Int} (ha : (L a.natAbs).length ≤ 16) (hb : (L b.natAbs).length ≤ 16) (hb0 : b ≠ 0) : cmpR false (L (a.tmod b).natAbs) false (L b.natAbs) = -1 := by
  have h1 := okB_z (a := ((a.tmod b).natAbs : Int)) (by rw [Int.natAbs_natCast]; exact fit_rest ha)
  have h2 := okB_z (a := (b.natAbs : Int)) (by rw [Int.natAbs_natCast]; exact hb)
  have z1 := zv_z ((a.tmod b).natAbs : Int)
  have z2 := zv_z (b.natAbs : Int)
  rw [sg_nat, Int.natAbs_natCast] at h1 h2 z1 z2
  unfold cmpR
  rw [if_pos ⟨h1, h2⟩, z1, z2]
  have hlt : (a.tmod b).natAbs < b.natAbs := by rw [Int.natAbs_tmod]; exact Nat.mod_lt _ (by omega)
  unfold cmpZ
  rw [if_pos (by omega)]

theorem sg_rest {a b : Int} (h : a.tmod b ≠ 0) : sg (a.tmod b) = sg a := by
  unfold sg
  by_cases h0 : 0 ≤ a
  · have := Int.tmod_nonneg b h0
    simp only [decide_eq_decide]
    omega
  · have h1 : (-a).tmod b = -(a.tmod b) := Int.neg_tmod a b
    have h2 := Int.tmod_nonneg b (show 0 ≤ -a by omega)
    rw [h1] at h2
    simp only [decide_eq_decide]
    omega

end Go.Proofs.Ytlmbcicfpidhcaa
