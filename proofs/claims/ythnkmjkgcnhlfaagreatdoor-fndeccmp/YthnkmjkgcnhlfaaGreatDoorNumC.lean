/- Decimals as numbers and scales: how they are compared. Plain mathematics. -/
import Derived.Test.YthnkmjkgcnhlfaaGreatDoorNumD
import Derived.Test.YthnkmjkgcnhlfaaGreatDoorDcC
namespace Go.Proofs.YthnkmjkgcnhlfaaGreatDoor
open Go.RowKit

theorem dcmp_z {z x s t : Int} (h : decB (sg z) (L z.natAbs) s = true) (k : decB (sg x) (L x.natAbs) t = true) :
    dcmpR (sg z) (L z.natAbs) s (sg x) (L x.natAbs) t = cmpZ (z * ((10 ^ (t - s).toNat : Nat) : Int)) (x * ((10 ^ (s - t).toNat : Nat) : Int)) := by
  unfold dcmpR
  rw [if_pos ⟨h, k⟩, val_zD, val_zD, zof_mul, zof_mul]

end Go.Proofs.YthnkmjkgcnhlfaaGreatDoor
