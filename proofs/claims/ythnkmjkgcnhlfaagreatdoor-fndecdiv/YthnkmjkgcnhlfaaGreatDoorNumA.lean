/- Numbers by their signs and limbs. -/
import Derived.Test.YthnkmjkgcnhlfaaGreatDoorK06
namespace Go.Proofs.YthnkmjkgcnhlfaaGreatDoor
open Go.RowKit

theorem okB_z {a : Int} (h : (L a.natAbs).length ≤ 16) : okB (sg a) (L a.natAbs) = true := by
  refine okB_true ⟨h, L_lim _, fun e => ?_, L_last _⟩
  have : a.natAbs = 0 := L_len_zero.1 (by rw [e]; rfl)
  unfold sg
  simp
  omega

theorem zv_z (a : Int) : zv (sg a) (L a.natAbs) = a := by
  unfold zv zof sg
  rw [val_L, Int.toNat_natCast]
  by_cases h : a < 0 <;> simp [h] <;> omega

end Go.Proofs.YthnkmjkgcnhlfaaGreatDoor
