/- Sums and differences of decimals as numbers. Plain mathematics. -/
import Derived.Test.YthnkmjkgcnhlfaaGreatDoorNumF
import Derived.Test.YthnkmjkgcnhlfaaGreatDoorNumC
import Derived.Test.YthnkmjkgcnhlfaaGreatDoorDcE
import Derived.Test.YthnkmjkgcnhlfaaGreatDoorDcF
namespace Go.Proofs.YthnkmjkgcnhlfaaGreatDoor
open Go.RowKit

theorem dadd_z {z x s t : Int} (h : decB (sg z) (L z.natAbs) s = true) (k : decB (sg x) (L x.natAbs) t = true) :
    daddR (sg z) (L z.natAbs) s (sg x) (L x.natAbs) t = dmake (z * ((10 ^ (max s t - s).toNat : Nat) : Int) + x * ((10 ^ (max s t - t).toNat : Nat) : Int)) (max s t) := by
  unfold daddR
  rw [if_pos ⟨h, k⟩, val_zD, val_zD, zof_mul, zof_mul]

theorem dsub_z {z x s t : Int} (h : decB (sg z) (L z.natAbs) s = true) (k : decB (sg x) (L x.natAbs) t = true) :
    dsubR (sg z) (L z.natAbs) s (sg x) (L x.natAbs) t = dmake (z * ((10 ^ (max s t - s).toNat : Nat) : Int) - x * ((10 ^ (max s t - t).toNat : Nat) : Int)) (max s t) := by
  unfold dsubR
  rw [if_pos ⟨h, k⟩, val_zD, val_zD, zof_mul, zof_mul]

theorem dadd_bad {p q : Bool} {l m : List Int} {s t : Int} (h : ¬ (decB p l s = true ∧ decB q m t = true)) : daddR p l s q m t = (false, [], 0, 1) := by
  unfold daddR
  rw [if_neg h]

theorem dsub_bad {p q : Bool} {l m : List Int} {s t : Int} (h : ¬ (decB p l s = true ∧ decB q m t = true)) : dsubR p l s q m t = (false, [], 0, 1) := by
  unfold dsubR
  rw [if_neg h]

theorem one_pow {n : Nat} (h : n = 0) : ((10 ^ n : Nat) : Int) = 1 := by subst h; rfl

/-- What was added can be taken away again. -/
theorem add_back {z x s t X : Int} (h : decB (sg z) (L z.natAbs) s = true) (k : decB (sg x) (L x.natAbs) t = true)
    (hX : X = z * ((10 ^ (max s t - s).toNat : Nat) : Int) + x * ((10 ^ (max s t - t).toNat : Nat) : Int)) (hf : Fit X) :
    decB (sg X) (L X.natAbs) (max s t) = true ∧ daddR (sg x) (L x.natAbs) t (sg z) (L z.natAbs) s = (sg X, L X.natAbs, max s t, 0) ∧
      (dsubR (sg X) (L X.natAbs) (max s t) (sg x) (L x.natAbs) t = (false, [], 0, 3) ∨
        ∃ y : Int, dsubR (sg X) (L X.natAbs) (max s t) (sg x) (L x.natAbs) t = (sg y, L y.natAbs, max s t, 0) ∧ dcmpR (sg y) (L y.natAbs) (max s t) (sg z) (L z.natAbs) s = 0) := by
  obtain ⟨hz, hs0, hs1⟩ := decB_fit h
  obtain ⟨hx, ht0, ht1⟩ := decB_fit k
  have hd := fit_dec hf (s := max s t) (by omega) (by omega)
  refine ⟨hd, ?_, ?_⟩
  · rw [dadd_z k h, Int.add_comm, show max t s = max s t by omega, ← hX, dmake_fit _ hf]
  · rw [dsub_z hd k, show max (max s t) t = max s t by omega, one_pow (n := (max s t - max s t).toNat) (by omega), Int.mul_one]
    have e : X - x * ((10 ^ (max s t - t).toNat : Nat) : Int) = z * ((10 ^ (max s t - s).toNat : Nat) : Int) := by rw [hX]; omega
    rw [e]
    by_cases hy : Fit (z * ((10 ^ (max s t - s).toNat : Nat) : Int))
    · refine .inr ⟨_, dmake_fit _ hy, ?_⟩
      rw [dcmp_z (fit_dec hy (by omega) (by omega)) h, one_pow (n := (s - max s t).toNat) (by omega), Int.mul_one]
      exact cmpZ_eq rfl
    · exact .inl (dmake_not _ hy)

end Go.Proofs.YthnkmjkgcnhlfaaGreatDoor
