/- jtZero. -/
import Derived.Test.YtlmbcicfpidhcaaG04
import Derived.Test.YtlmbcicfpidhcaaG06
namespace Go.Proofs.Ytlmbcicfpidhcaa
open Go.RowKit
set_option maxRecDepth 100000

theorem jtZero_z (w : World) (a : Int) (s : Value) (hr : Reads w s (L a.natAbs)) :
    Calls Try.prog 21 #[.agg #[.bool (sg a), s]] w fun e w' => e = .returned (.bool (decide (a = 0))) ∧ Below w.heap.size w w' := by
  obtain ⟨ao, b1, off, cap, rfl, hu⟩ := hr
  clear hu
  by_cases h : a = 0
  · subst h
    rw [decide_eq_true rfl]
    have e : (L (Int.natAbs 0)).length = 0 := by rw [Int.natAbs_zero, L_zero]; rfl
    rw [e, show sg 0 = false from rfl]
    clear e
    go_enter Try.func21, Try.ntmps21
    go_wp2
    go_ret
    exact ⟨rfl, (Below.refl _ _).alloc (Nat.le_refl _) _⟩
  · rw [decide_eq_false h]
    have hl : (L a.natAbs).length ≠ 0 := fun e => by have := L_len_zero.1 e; omega
    have tb : (((L a.natAbs).length : Int) == 0) = false := by rw [beq_eq_false_iff_ne]; omega
    generalize (L a.natAbs).length = n at *
    generalize sg a = g at *
    clear h
    cases g
    · go_enter Try.func21, Try.ntmps21
      go_wp2
      go_ret
      exact ⟨rfl, (Below.refl _ _).alloc (Nat.le_refl _) _⟩
    · go_enter Try.func21, Try.ntmps21
      go_wp2
      go_ret
      exact ⟨rfl, (Below.refl _ _).alloc (Nat.le_refl _) _⟩

end Go.Proofs.Ytlmbcicfpidhcaa
