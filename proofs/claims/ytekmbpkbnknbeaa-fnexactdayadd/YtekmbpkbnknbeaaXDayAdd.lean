/- The law FnExactDayAdd: its walk. -/
import Derived.Test.YtekmbpkbnknbeaaAddX
import Derived.Test.YtekmbpkbnknbeaaSpanL
namespace Go.Proofs.Ytekmbpkbnknbeaa
open Go.RowKit

theorem xDayAdd_walk (w : World) (n m d : Int) :
    Calls Try.prog 8 #[.int .i64 n, .agg #[.int .i64 m, .int .i64 d]] w fun e w' => e = .returned (.bool true) ∧ Below w.heap.size w w' := by
  have C0 := fun W => toSpan_any W m d
  have C1 := fun W => specDayAdd_any W n m d
  have C2 := fun W => implDayAdd_any W n m d
  generalize sumR n m d = r at *
  have hr : (r != r) = false := by simp
  generalize decide (0 < r) = b at *
  have hb : (!(b == b)) = false := by simp
  unfold sumW at C1
  by_cases h : IsDay n
  · simp only [if_pos h] at C1
    clear h
    go_enter Try.func8, Try.ntmps8
    go_wp2_with fail
    refine (C0 _).mono ?_
    rintro e w1 ⟨rfl, rfl⟩
    go_wp2_with fail
    refine (C1 _).mono ?_
    rintro e w2 ⟨rfl, rfl⟩
    go_wp2_with fail
    refine (C0 _).mono ?_
    rintro e w1 ⟨rfl, rfl⟩
    go_wp2_with fail
    refine (C2 _).mono ?_
    rintro e w2 ⟨rfl, b2⟩
    go_wp2
    go_ret
    refine ⟨rfl, Below.trans ?_ (b2.mono (by simp only [World.size_alloc]; omega))⟩
    repeat (first | exact Below.refl _ _ | refine Below.alloc ?_ (by first | exact Nat.le_refl _ | (simp only [World.size_alloc]; omega)) _)
  · simp only [if_neg h] at C1
    clear h
    go_enter Try.func8, Try.ntmps8
    go_wp2_with fail
    refine (C0 _).mono ?_
    rintro e w1 ⟨rfl, rfl⟩
    go_wp2_with fail
    refine (C1 _).mono ?_
    rintro e w2 ⟨rfl, rfl⟩
    go_wp2_with fail
    refine (C0 _).mono ?_
    rintro e w1 ⟨rfl, rfl⟩
    go_wp2_with fail
    refine (C2 _).mono ?_
    rintro e w2 ⟨rfl, b2⟩
    go_wp2
    go_ret
    refine ⟨rfl, Below.trans ?_ (b2.mono (by simp only [World.size_alloc]; omega))⟩
    repeat (first | exact Below.refl _ _ | refine Below.alloc ?_ (by first | exact Nat.le_refl _ | (simp only [World.size_alloc]; omega)) _)

end Go.Proofs.Ytekmbpkbnknbeaa
