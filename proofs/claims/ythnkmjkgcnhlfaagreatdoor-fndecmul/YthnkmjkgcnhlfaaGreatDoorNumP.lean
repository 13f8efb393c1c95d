/- A product in either order, by one and by nothing. Plain mathematics. -/
import Derived.Test.YthnkmjkgcnhlfaaGreatDoorNumM
import Derived.Test.YthnkmjkgcnhlfaaGreatDoorNumL
namespace Go.Proofs.YthnkmjkgcnhlfaaGreatDoor
open Go.RowKit

theorem mul_law {p q og : Bool} {l m ol : List Int} {s t os on : Int} (h : dmulR p l s q m t = (og, ol, os, on)) (hn : on ≠ 1) :
    (on = 0 ∨ on = 3) ∧ dmulR q m t p l s = (og, ol, os, on) ∧ dmulR p l s false [1] 0 = (p, l, s, 0) ∧ dmulR p l s false [] 0 = (false, [], s, 0) ∧
      (on = 0 → os = min (s + t) 12) ∧ (0 ≤ s ∧ s ≤ 12) ∧ 0 ≤ t ∧ t ≤ 12 := by
  by_cases o1 : decB p l s = true ∧ decB q m t = true
  case neg =>
    rw [dmul_no o1] at h
    simp only [Prod.mk.injEq] at h
    exact absurd h.2.2.2.symm hn
  obtain ⟨a, rfl, rfl, fa, a0, a1⟩ := dec_fit o1.1
  obtain ⟨b, rfl, rfl, fb, b0, b1⟩ := dec_fit o1.2
  have hone := dmul_z o1.1 (fit_dec (show Fit 1 by decide) (show (0 : Int) ≤ 0 by omega) (by omega))
  rw [show sg (1 : Int) = false from rfl, show L (1 : Int).natAbs = [1] from L1, Int.add_zero, show min s 12 = s by omega, show (s - s).toNat = 0 by omega, Nat.pow_zero, resZ_one, Int.mul_one, dmake_fit _ fa] at hone
  have hnil := dmul_z o1.1 (fit_dec (show Fit 0 by decide) (show (0 : Int) ≤ 0 by omega) (by omega))
  rw [zero_z.1, zero_z.2, Int.add_zero, show min s 12 = s by omega, show (s - s).toNat = 0 by omega, Nat.pow_zero, resZ_one, Int.mul_zero, dmake_fit _ (show Fit 0 by decide), zero_z.1, zero_z.2] at hnil
  rw [dmul_z o1.1 o1.2] at h
  have hr := dmul_z o1.2 o1.1
  rw [Int.mul_comm b a, Int.add_comm t s, h] at hr
  refine ⟨?_, hr, hone, hnil, ?_, ⟨a0, a1⟩, b0, b1⟩
  · rcases dmake_code (resZ (a * b) (10 ^ (s + t - min (s + t) 12).toNat) 7) (min (s + t) 12) with ⟨-, e⟩ | e
    · rw [e] at h; simp only [Prod.mk.injEq] at h; exact .inl h.2.2.2.symm
    · rw [e] at h; simp only [Prod.mk.injEq] at h; exact .inr h.2.2.2.symm
  · intro h0
    subst h0
    obtain ⟨-, -, -, e⟩ := fit_of h
    exact e.symm

end Go.Proofs.YthnkmjkgcnhlfaaGreatDoor
