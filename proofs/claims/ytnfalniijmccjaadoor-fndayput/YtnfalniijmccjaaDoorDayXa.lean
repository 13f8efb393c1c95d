/- What days answer; dayOk. -/
import Derived.Test.YtnfalniijmccjaaDoorDayJa
import Derived.Test.YtnfalniijmccjaaDoorDayS
namespace Go.Proofs.YtnfalniijmccjaaDoor
open Go.RowKit


/-- A year and a month of the calendar. -/
@[reducible] def YM (y m : Int) : Prop := 1 ≤ y ∧ y ≤ 9999 ∧ 1 ≤ m ∧ m ≤ 12

/-- The month as a number. -/
def moOf (y m : Int) : Nat := (12 * (y - 1) + m - 1).toNat

def lastR (y m : Int) : Int := if YM y m then lastD y m else 0

def dayR (y m d : Int) : Int := if YM y m ∧ 1 ≤ d ∧ d ≤ lastD y m then ahead (moOf y m) + d else 0

def weekR (n : Int) : Int := if 1 ≤ n ∧ n ≤ 3652059 then (n - 1) % 7 + 1 else 0

@[reducible] def IsDay (n : Int) : Prop := 1 ≤ n ∧ n ≤ 3652059

def partY (n : Int) : Int := if IsDay n then (moN n : Int) / 12 + 1 else 0

def partM (n : Int) : Int := if IsDay n then (moN n : Int) % 12 + 1 else 0

def partD (n : Int) : Int := if IsDay n then dyN n else 0

theorem moOf_lt {y m : Int} (h : YM y m) : moOf y m < 119988 := by unfold moOf YM at *; omega

theorem moOf_cast {y m : Int} (h : YM y m) : (moOf y m : Int) = 12 * (y - 1) + m - 1 := by unfold moOf YM at *; omega

theorem moOf_last {y m : Int} (h : YM y m) : lastM (moOf y m) = lastD y m := by
  unfold lastM
  rw [show ((moOf y m / 12 : Nat) : Int) + 1 = y by unfold moOf YM at *; omega, show ((moOf y m % 12 : Nat) : Int) + 1 = m by unfold moOf YM at *; omega]

theorem dayOk_any (w : World) (n : Int) : Calls Tryd.prog 64 #[.int .i64 n] w fun e w' => e = .returned (.bool (decide (1 ≤ n ∧ n ≤ 3652059))) ∧ w' = w := by
  by_cases h : 1 ≤ n
  · by_cases k : n ≤ 3652059
    · rw [decide_eq_true ⟨h, k⟩]
      have h' : decide (1 ≤ n) = true := by simpa using h
      have k' : decide (n ≤ 3652059) = true := by simpa using k
      go_enter Tryd.func64, Tryd.ntmps64
      go_wp2
      go_ret
      exact ⟨rfl, rfl⟩
    · rw [decide_eq_false (fun e => k e.2)]
      have h' : decide (1 ≤ n) = true := by simpa using h
      have k' : decide (n ≤ 3652059) = false := by simpa using k
      go_enter Tryd.func64, Tryd.ntmps64
      go_wp2
      go_ret
      exact ⟨rfl, rfl⟩
  · rw [decide_eq_false (fun e => h e.1)]
    have h' : decide (1 ≤ n) = false := by simpa using h
    go_enter Tryd.func64, Tryd.ntmps64
    go_wp2
    go_ret
    exact ⟨rfl, rfl⟩

end Go.Proofs.YtnfalniijmccjaaDoor
