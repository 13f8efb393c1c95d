/- Truths: TruthNot, TruthAnd, TruthOr of the program and of the specification, each by one contract. -/
import Derived.Test.YtekmbpkbnknbeaaProg
import Derived.WalkKit
import Derived.WalkSmall
namespace Go.Proofs.Ytekmbpkbnknbeaa
open Go.RowKit

/-- What is not so. -/
def tNot (a : Int) : Int := if a = 0 then 1 else if a = 1 then 0 else if a = 2 then 2 else -1
/-- Both are so. -/
def tAnd (a b : Int) : Int :=
  if a < 0 ∨ 2 < a ∨ b < 0 ∨ 2 < b then -1 else if a = 0 ∨ b = 0 then 0 else if a = 2 ∨ b = 2 then 2 else 1
/-- One is so. -/
def tOr (a b : Int) : Int :=
  if a < 0 ∨ 2 < a ∨ b < 0 ∨ 2 < b then -1 else if a = 1 ∨ b = 1 then 1 else if a = 2 ∨ b = 2 then 2 else 0

theorem truth_cases (a : Int) : a < 0 ∨ 2 < a ∨ a = 0 ∨ a = 1 ∨ a = 2 := by omega
theorem tNot_out {a : Int} (h : a < 0 ∨ 2 < a) : tNot a = -1 := by
  unfold tNot; simp only [show ¬ a = 0 by omega, show ¬ a = 1 by omega, show ¬ a = 2 by omega, if_false]
theorem tAnd_out {a b : Int} (h : a < 0 ∨ 2 < a ∨ b < 0 ∨ 2 < b) : tAnd a b = -1 := by unfold tAnd; rw [if_pos h]
theorem tOr_out {a b : Int} (h : a < 0 ∨ 2 < a ∨ b < 0 ∨ 2 < b) : tOr a b = -1 := by unfold tOr; rw [if_pos h]

theorem specTruthNot_any (w : World) (a : Int) : Calls Try.prog 36 #[.int .i64 a] w fun e w' => e = .returned (.int .i64 (tNot a)) ∧ w' = w := by
  rcases truth_cases a with h | h | rfl | rfl | rfl
  · rw [tNot_out (by omega)]
    have la : decide (0 ≤ a) = false := by simp; omega
    go_enter Try.func36, Try.ntmps36
    go_wp2
    go_ret
    exact ⟨rfl, rfl⟩
  · rw [tNot_out (by omega)]
    have la : decide (0 ≤ a) = true := by simp; omega
    have ka : decide (a ≤ 2) = false := by simp; omega
    go_enter Try.func36, Try.ntmps36
    go_wp2
    go_ret
    exact ⟨rfl, rfl⟩
  · go_enter Try.func36, Try.ntmps36
    go_wp2
    go_ret
    exact ⟨rfl, rfl⟩
  · go_enter Try.func36, Try.ntmps36
    go_wp2
    go_ret
    exact ⟨rfl, rfl⟩
  · go_enter Try.func36, Try.ntmps36
    go_wp2
    go_ret
    exact ⟨rfl, rfl⟩

theorem specTruthAnd_any (w : World) (a b : Int) : Calls Try.prog 34 #[.int .i64 a, .int .i64 b] w fun e w' => e = .returned (.int .i64 (tAnd a b)) ∧ w' = w := by
  rcases truth_cases a with h | h | h | h | h
  · rw [tAnd_out (by omega)]
    have la : decide (0 ≤ a) = false := by simp; omega
    go_enter Try.func34, Try.ntmps34
    go_wp2
    go_ret
    exact ⟨rfl, rfl⟩
  · rw [tAnd_out (by omega)]
    have la : decide (0 ≤ a) = true := by simp; omega
    have ka : decide (a ≤ 2) = false := by simp; omega
    go_enter Try.func34, Try.ntmps34
    go_wp2
    go_ret
    exact ⟨rfl, rfl⟩
  · subst h
    rcases truth_cases b with g | g | rfl | rfl | rfl
    · rw [tAnd_out (by omega)]
      have lb : decide (0 ≤ b) = false := by simp; omega
      go_enter Try.func34, Try.ntmps34
      go_wp2
      go_ret
      exact ⟨rfl, rfl⟩
    · rw [tAnd_out (by omega)]
      have lb : decide (0 ≤ b) = true := by simp; omega
      have kb : decide (b ≤ 2) = false := by simp; omega
      go_enter Try.func34, Try.ntmps34
      go_wp2
      go_ret
      exact ⟨rfl, rfl⟩
    · go_enter Try.func34, Try.ntmps34
      go_wp2
      go_ret
      exact ⟨rfl, rfl⟩
    · go_enter Try.func34, Try.ntmps34
      go_wp2
      go_ret
      exact ⟨rfl, rfl⟩
    · go_enter Try.func34, Try.ntmps34
      go_wp2
      go_ret
      exact ⟨rfl, rfl⟩
  · subst h
    rcases truth_cases b with g | g | rfl | rfl | rfl
    · rw [tAnd_out (by omega)]
      have lb : decide (0 ≤ b) = false := by simp; omega
      go_enter Try.func34, Try.ntmps34
      go_wp2
      go_ret
      exact ⟨rfl, rfl⟩
    · rw [tAnd_out (by omega)]
      have lb : decide (0 ≤ b) = true := by simp; omega
      have kb : decide (b ≤ 2) = false := by simp; omega
      go_enter Try.func34, Try.ntmps34
      go_wp2
      go_ret
      exact ⟨rfl, rfl⟩
    · go_enter Try.func34, Try.ntmps34
      go_wp2
      go_ret
      exact ⟨rfl, rfl⟩
    · go_enter Try.func34, Try.ntmps34
      go_wp2
      go_ret
      exact ⟨rfl, rfl⟩
    · go_enter Try.func34, Try.ntmps34
      go_wp2
      go_ret
      exact ⟨rfl, rfl⟩
  · subst h
    rcases truth_cases b with g | g | rfl | rfl | rfl
    · rw [tAnd_out (by omega)]
      have lb : decide (0 ≤ b) = false := by simp; omega
      go_enter Try.func34, Try.ntmps34
      go_wp2
      go_ret
      exact ⟨rfl, rfl⟩
    · rw [tAnd_out (by omega)]
      have lb : decide (0 ≤ b) = true := by simp; omega
      have kb : decide (b ≤ 2) = false := by simp; omega
      go_enter Try.func34, Try.ntmps34
      go_wp2
      go_ret
      exact ⟨rfl, rfl⟩
    · go_enter Try.func34, Try.ntmps34
      go_wp2
      go_ret
      exact ⟨rfl, rfl⟩
    · go_enter Try.func34, Try.ntmps34
      go_wp2
      go_ret
      exact ⟨rfl, rfl⟩
    · go_enter Try.func34, Try.ntmps34
      go_wp2
      go_ret
      exact ⟨rfl, rfl⟩

theorem specTruthOr_any (w : World) (a b : Int) : Calls Try.prog 38 #[.int .i64 a, .int .i64 b] w fun e w' => e = .returned (.int .i64 (tOr a b)) ∧ w' = w := by
  rcases truth_cases a with h | h | h | h | h
  · rw [tOr_out (by omega)]
    have la : decide (0 ≤ a) = false := by simp; omega
    go_enter Try.func38, Try.ntmps38
    go_wp2
    go_ret
    exact ⟨rfl, rfl⟩
  · rw [tOr_out (by omega)]
    have la : decide (0 ≤ a) = true := by simp; omega
    have ka : decide (a ≤ 2) = false := by simp; omega
    go_enter Try.func38, Try.ntmps38
    go_wp2
    go_ret
    exact ⟨rfl, rfl⟩
  · subst h
    rcases truth_cases b with g | g | rfl | rfl | rfl
    · rw [tOr_out (by omega)]
      have lb : decide (0 ≤ b) = false := by simp; omega
      go_enter Try.func38, Try.ntmps38
      go_wp2
      go_ret
      exact ⟨rfl, rfl⟩
    · rw [tOr_out (by omega)]
      have lb : decide (0 ≤ b) = true := by simp; omega
      have kb : decide (b ≤ 2) = false := by simp; omega
      go_enter Try.func38, Try.ntmps38
      go_wp2
      go_ret
      exact ⟨rfl, rfl⟩
    · go_enter Try.func38, Try.ntmps38
      go_wp2
      go_ret
      exact ⟨rfl, rfl⟩
    · go_enter Try.func38, Try.ntmps38
      go_wp2
      go_ret
      exact ⟨rfl, rfl⟩
    · go_enter Try.func38, Try.ntmps38
      go_wp2
      go_ret
      exact ⟨rfl, rfl⟩
  · subst h
    rcases truth_cases b with g | g | rfl | rfl | rfl
    · rw [tOr_out (by omega)]
      have lb : decide (0 ≤ b) = false := by simp; omega
      go_enter Try.func38, Try.ntmps38
      go_wp2
      go_ret
      exact ⟨rfl, rfl⟩
    · rw [tOr_out (by omega)]
      have lb : decide (0 ≤ b) = true := by simp; omega
      have kb : decide (b ≤ 2) = false := by simp; omega
      go_enter Try.func38, Try.ntmps38
      go_wp2
      go_ret
      exact ⟨rfl, rfl⟩
    · go_enter Try.func38, Try.ntmps38
      go_wp2
      go_ret
      exact ⟨rfl, rfl⟩
    · go_enter Try.func38, Try.ntmps38
      go_wp2
      go_ret
      exact ⟨rfl, rfl⟩
    · go_enter Try.func38, Try.ntmps38
      go_wp2
      go_ret
      exact ⟨rfl, rfl⟩
  · subst h
    rcases truth_cases b with g | g | rfl | rfl | rfl
    · rw [tOr_out (by omega)]
      have lb : decide (0 ≤ b) = false := by simp; omega
      go_enter Try.func38, Try.ntmps38
      go_wp2
      go_ret
      exact ⟨rfl, rfl⟩
    · rw [tOr_out (by omega)]
      have lb : decide (0 ≤ b) = true := by simp; omega
      have kb : decide (b ≤ 2) = false := by simp; omega
      go_enter Try.func38, Try.ntmps38
      go_wp2
      go_ret
      exact ⟨rfl, rfl⟩
    · go_enter Try.func38, Try.ntmps38
      go_wp2
      go_ret
      exact ⟨rfl, rfl⟩
    · go_enter Try.func38, Try.ntmps38
      go_wp2
      go_ret
      exact ⟨rfl, rfl⟩
    · go_enter Try.func38, Try.ntmps38
      go_wp2
      go_ret
      exact ⟨rfl, rfl⟩

theorem implTruthNot_any (w : World) (a : Int) : Calls Try.prog 37 #[.int .i64 a] w fun e w' => e = .returned (.int .i64 (tNot a)) ∧ w' = w := by
  rcases truth_cases a with h | h | rfl | rfl | rfl
  · rw [tNot_out (by omega)]
    have n0 : (a == 0) = false := by simp; omega
    have n1 : (a == 1) = false := by simp; omega
    have n2 : (a == 2) = false := by simp; omega
    go_enter Try.func37, Try.ntmps37
    go_wp2
    go_ret
    exact ⟨rfl, rfl⟩
  · rw [tNot_out (by omega)]
    have n0 : (a == 0) = false := by simp; omega
    have n1 : (a == 1) = false := by simp; omega
    have n2 : (a == 2) = false := by simp; omega
    go_enter Try.func37, Try.ntmps37
    go_wp2
    go_ret
    exact ⟨rfl, rfl⟩
  · go_enter Try.func37, Try.ntmps37
    go_wp2
    go_ret
    exact ⟨rfl, rfl⟩
  · go_enter Try.func37, Try.ntmps37
    go_wp2
    go_ret
    exact ⟨rfl, rfl⟩
  · go_enter Try.func37, Try.ntmps37
    go_wp2
    go_ret
    exact ⟨rfl, rfl⟩

theorem implTruthAnd_any (w : World) (a b : Int) : Calls Try.prog 35 #[.int .i64 a, .int .i64 b] w fun e w' => e = .returned (.int .i64 (tAnd a b)) ∧ w' = w := by
  rcases truth_cases a with h | h | h | h | h
  · rw [tAnd_out (by omega)]
    have la : decide (0 ≤ a) = false := by simp; omega
    go_enter Try.func35, Try.ntmps35
    go_wp2
    go_ret
    exact ⟨rfl, rfl⟩
  · rw [tAnd_out (by omega)]
    have la : decide (0 ≤ a) = true := by simp; omega
    have ka : decide (a ≤ 2) = false := by simp; omega
    go_enter Try.func35, Try.ntmps35
    go_wp2
    go_ret
    exact ⟨rfl, rfl⟩
  · subst h
    rcases truth_cases b with g | g | rfl | rfl | rfl
    · rw [tAnd_out (by omega)]
      have lb : decide (0 ≤ b) = false := by simp; omega
      go_enter Try.func35, Try.ntmps35
      go_wp2
      go_ret
      exact ⟨rfl, rfl⟩
    · rw [tAnd_out (by omega)]
      have lb : decide (0 ≤ b) = true := by simp; omega
      have kb : decide (b ≤ 2) = false := by simp; omega
      go_enter Try.func35, Try.ntmps35
      go_wp2
      go_ret
      exact ⟨rfl, rfl⟩
    · go_enter Try.func35, Try.ntmps35
      go_wp2
      go_ret
      exact ⟨rfl, rfl⟩
    · go_enter Try.func35, Try.ntmps35
      go_wp2
      go_ret
      exact ⟨rfl, rfl⟩
    · go_enter Try.func35, Try.ntmps35
      go_wp2
      go_ret
      exact ⟨rfl, rfl⟩
  · subst h
    rcases truth_cases b with g | g | rfl | rfl | rfl
    · rw [tAnd_out (by omega)]
      have lb : decide (0 ≤ b) = false := by simp; omega
      go_enter Try.func35, Try.ntmps35
      go_wp2
      go_ret
      exact ⟨rfl, rfl⟩
    · rw [tAnd_out (by omega)]
      have lb : decide (0 ≤ b) = true := by simp; omega
      have kb : decide (b ≤ 2) = false := by simp; omega
      go_enter Try.func35, Try.ntmps35
      go_wp2
      go_ret
      exact ⟨rfl, rfl⟩
    · go_enter Try.func35, Try.ntmps35
      go_wp2
      go_ret
      exact ⟨rfl, rfl⟩
    · go_enter Try.func35, Try.ntmps35
      go_wp2
      go_ret
      exact ⟨rfl, rfl⟩
    · go_enter Try.func35, Try.ntmps35
      go_wp2
      go_ret
      exact ⟨rfl, rfl⟩
  · subst h
    rcases truth_cases b with g | g | rfl | rfl | rfl
    · rw [tAnd_out (by omega)]
      have lb : decide (0 ≤ b) = false := by simp; omega
      go_enter Try.func35, Try.ntmps35
      go_wp2
      go_ret
      exact ⟨rfl, rfl⟩
    · rw [tAnd_out (by omega)]
      have lb : decide (0 ≤ b) = true := by simp; omega
      have kb : decide (b ≤ 2) = false := by simp; omega
      go_enter Try.func35, Try.ntmps35
      go_wp2
      go_ret
      exact ⟨rfl, rfl⟩
    · go_enter Try.func35, Try.ntmps35
      go_wp2
      go_ret
      exact ⟨rfl, rfl⟩
    · go_enter Try.func35, Try.ntmps35
      go_wp2
      go_ret
      exact ⟨rfl, rfl⟩
    · go_enter Try.func35, Try.ntmps35
      go_wp2
      go_ret
      exact ⟨rfl, rfl⟩

theorem implTruthOr_any (w : World) (a b : Int) : Calls Try.prog 39 #[.int .i64 a, .int .i64 b] w fun e w' => e = .returned (.int .i64 (tOr a b)) ∧ w' = w := by
  rcases truth_cases a with h | h | h | h | h
  · rw [tOr_out (by omega)]
    have la : decide (0 ≤ a) = false := by simp; omega
    go_enter Try.func39, Try.ntmps39
    go_wp2
    go_ret
    exact ⟨rfl, rfl⟩
  · rw [tOr_out (by omega)]
    have la : decide (0 ≤ a) = true := by simp; omega
    have ka : decide (a ≤ 2) = false := by simp; omega
    go_enter Try.func39, Try.ntmps39
    go_wp2
    go_ret
    exact ⟨rfl, rfl⟩
  · subst h
    rcases truth_cases b with g | g | rfl | rfl | rfl
    · rw [tOr_out (by omega)]
      have lb : decide (0 ≤ b) = false := by simp; omega
      go_enter Try.func39, Try.ntmps39
      go_wp2
      go_ret
      exact ⟨rfl, rfl⟩
    · rw [tOr_out (by omega)]
      have lb : decide (0 ≤ b) = true := by simp; omega
      have kb : decide (b ≤ 2) = false := by simp; omega
      go_enter Try.func39, Try.ntmps39
      go_wp2
      go_ret
      exact ⟨rfl, rfl⟩
    · go_enter Try.func39, Try.ntmps39
      go_wp2
      go_ret
      exact ⟨rfl, rfl⟩
    · go_enter Try.func39, Try.ntmps39
      go_wp2
      go_ret
      exact ⟨rfl, rfl⟩
    · go_enter Try.func39, Try.ntmps39
      go_wp2
      go_ret
      exact ⟨rfl, rfl⟩
  · subst h
    rcases truth_cases b with g | g | rfl | rfl | rfl
    · rw [tOr_out (by omega)]
      have lb : decide (0 ≤ b) = false := by simp; omega
      go_enter Try.func39, Try.ntmps39
      go_wp2
      go_ret
      exact ⟨rfl, rfl⟩
    · rw [tOr_out (by omega)]
      have lb : decide (0 ≤ b) = true := by simp; omega
      have kb : decide (b ≤ 2) = false := by simp; omega
      go_enter Try.func39, Try.ntmps39
      go_wp2
      go_ret
      exact ⟨rfl, rfl⟩
    · go_enter Try.func39, Try.ntmps39
      go_wp2
      go_ret
      exact ⟨rfl, rfl⟩
    · go_enter Try.func39, Try.ntmps39
      go_wp2
      go_ret
      exact ⟨rfl, rfl⟩
    · go_enter Try.func39, Try.ntmps39
      go_wp2
      go_ret
      exact ⟨rfl, rfl⟩
  · subst h
    rcases truth_cases b with g | g | rfl | rfl | rfl
    · rw [tOr_out (by omega)]
      have lb : decide (0 ≤ b) = false := by simp; omega
      go_enter Try.func39, Try.ntmps39
      go_wp2
      go_ret
      exact ⟨rfl, rfl⟩
    · rw [tOr_out (by omega)]
      have lb : decide (0 ≤ b) = true := by simp; omega
      have kb : decide (b ≤ 2) = false := by simp; omega
      go_enter Try.func39, Try.ntmps39
      go_wp2
      go_ret
      exact ⟨rfl, rfl⟩
    · go_enter Try.func39, Try.ntmps39
      go_wp2
      go_ret
      exact ⟨rfl, rfl⟩
    · go_enter Try.func39, Try.ntmps39
      go_wp2
      go_ret
      exact ⟨rfl, rfl⟩
    · go_enter Try.func39, Try.ntmps39
      go_wp2
      go_ret
      exact ⟨rfl, rfl⟩

end Go.Proofs.Ytekmbpkbnknbeaa
