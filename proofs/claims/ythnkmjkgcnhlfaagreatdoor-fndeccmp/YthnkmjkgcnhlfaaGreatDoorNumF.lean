/- Decimals as numbers below 10^30 and scales. Plain mathematics. -/
import Derived.Test.YthnkmjkgcnhlfaaGreatDoorNumD
import Derived.Test.YthnkmjkgcnhlfaaGreatDoorH22
namespace Go.Proofs.YthnkmjkgcnhlfaaGreatDoor
open Go.RowKit

/-- A number that has no more figures than a decimal. -/
def Fit (z : Int) : Prop := z.natAbs < 10 ^ 30

instance (z : Int) : Decidable (Fit z) := by unfold Fit; exact inferInstance

theorem fit_iff (z : Int) : (txtL (L z.natAbs)).length ≤ 30 ↔ Fit z := by
  rw [txt_dec]
  exact (dec_len _ _ (by decide)).symm

theorem dmake_fit {z : Int} (s : Int) (h : Fit z) : dmake z s = (sg z, L z.natAbs, s, 0) := by
  unfold dmake
  rw [if_pos ((fit_iff z).2 h)]

theorem dmake_not {z : Int} (s : Int) (h : ¬ Fit z) : dmake z s = (false, [], 0, 3) := by
  unfold dmake
  rw [if_neg (fun k => h ((fit_iff z).1 k))]

theorem fit_dec {z s : Int} (h : Fit z) (h0 : 0 ≤ s) (h1 : s ≤ 12) : decB (sg z) (L z.natAbs) s = true := z_dec ((fit_iff z).2 h) h0 h1

/-- A decimal that is ok is a number and a scale. -/
theorem dec_fit {p : Bool} {l : List Int} {s : Int} (h : decB p l s = true) : ∃ z : Int, p = sg z ∧ l = L z.natAbs ∧ Fit z ∧ 0 ≤ s ∧ s ≤ 12 := by
  obtain ⟨z, h1, h2, h3, h4, h5⟩ := dec_z h
  exact ⟨z, h1, h2, (fit_iff z).1 h3, h4, h5⟩

theorem decB_fit {z s : Int} (h : decB (sg z) (L z.natAbs) s = true) : Fit z ∧ 0 ≤ s ∧ s ≤ 12 := by
  obtain ⟨-, h1, h2⟩ := decB_iff.1 h
  exact ⟨(fit_iff z).1 h1, h2⟩

theorem Fit.le {z x : Int} (h : Fit z) (k : x.natAbs ≤ z.natAbs) : Fit x := Nat.lt_of_le_of_lt k h

/-- What is 0 has no sign and no limbs. -/
theorem zero_z : sg 0 = false ∧ L (0 : Int).natAbs = [] := ⟨rfl, by rw [Int.natAbs_zero, L_zero]⟩

end Go.Proofs.YthnkmjkgcnhlfaaGreatDoor
