/- Differences of decimals. Plain mathematics. -/
import Derived.Test.YthnkmjkgcnhlfaaGreatDoorK00
namespace Go.Proofs.YthnkmjkgcnhlfaaGreatDoor
open Go.RowKit

theorem sub_law {p q og : Bool} {l m ol : List Int} {s t os on : Int} (h : dsubR p l s q m t = (og, ol, os, on)) (hn : on ≠ 1) :
    (on = 0 ∨ on = 3) ∧ dsubR p l s p l s = (false, [], s, 0) ∧ ∃ yg yl ys, dsubR q m t p l s = (yg, yl, ys, on) ∧ (on = 0 → yg = (!og && decide (0 < ol.length)) ∧ yl = ol ∧ ys = os) := by
  by_cases hok : decB p l s = true ∧ decB q m t = true
  case neg =>
    rw [dsub_bad hok] at h
    simp only [Prod.mk.injEq] at h
    exact absurd h.2.2.2.symm hn
  obtain ⟨h1, h2⟩ := hok
  obtain ⟨z, rfl, rfl, -⟩ := dec_fit h1
  obtain ⟨x, rfl, rfl, -⟩ := dec_fit h2
  have hs : dsubR (sg z) (L z.natAbs) s (sg z) (L z.natAbs) s = (false, [], s, 0) := by
    rw [dsub_z h1 h1, Int.sub_self, dmake_fit _ (show Fit 0 by decide), zero_z.1, zero_z.2, show max s s = s by omega]
  rw [dsub_z h1 h2] at h
  rw [dsub_z h2 h1, show max t s = max s t by omega]
  generalize z * ((10 ^ (max s t - s).toNat : Nat) : Int) = a at *
  generalize x * ((10 ^ (max s t - t).toNat : Nat) : Int) = b at *
  by_cases hf : Fit (a - b)
  · have hf2 : Fit (b - a) := by unfold Fit at *; omega
    rw [dmake_fit _ hf] at h
    simp only [Prod.mk.injEq] at h
    obtain ⟨rfl, rfl, rfl, rfl⟩ := h
    refine ⟨.inl rfl, hs, _, _, _, dmake_fit _ hf2, fun _ => ⟨?_, by rw [show (b - a).natAbs = (a - b).natAbs by omega], rfl⟩⟩
    have e : decide (0 < (L (a - b).natAbs).length) = decide (a - b ≠ 0) := by
      rw [decide_eq_decide]
      constructor
      · intro k e
        rw [e, zero_z.2] at k
        exact absurd k (by decide)
      · intro k
        rcases Nat.eq_zero_or_pos (L (a - b).natAbs).length with c | c
        · have := L_len_zero.1 c; omega
        · exact c
    rw [e]
    unfold sg
    by_cases c : a - b < 0
    · rw [decide_eq_true c, decide_eq_false (by omega)]
      rfl
    · by_cases d : a - b = 0
      · rw [d, show b - a = 0 by omega]
        rfl
      · rw [decide_eq_false c, decide_eq_true (show b - a < 0 by omega), decide_eq_true d]
        rfl
  · have hf2 : ¬ Fit (b - a) := by unfold Fit at *; omega
    rw [dmake_not _ hf] at h
    simp only [Prod.mk.injEq] at h
    obtain ⟨rfl, rfl, rfl, rfl⟩ := h
    exact ⟨.inr rfl, hs, _, _, _, dmake_not _ hf2, fun e => by cases e⟩

end Go.Proofs.YthnkmjkgcnhlfaaGreatDoor
