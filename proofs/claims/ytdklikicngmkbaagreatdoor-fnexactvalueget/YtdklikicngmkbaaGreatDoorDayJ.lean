/- A day of a month; a month of a year. -/
import Derived.Test.YtdklikicngmkbaaGreatDoorG11
namespace Go.Proofs.YtdklikicngmkbaaGreatDoor
open Go.RowKit

theorem day_any (w : World) (k : Nat) (d : Int) (hk : k ≤ 119988) (_h0 : 0 ≤ d) (_h1 : d ≤ 31) :
    Calls Tryz.prog 166 #[.int .i64 k, .int .i64 d] w fun e w' => e = .returned (.int .i64 (dayIn k d)) ∧ w' = w := by
  have C1 := ahead_any w k (by omega)
  have C2 := last_any w k (by omega)
  have hz := lastM_bounds k
  have ha := ahead_big hk
  unfold dayIn
  generalize lastM k = z at *
  generalize ahead k = a at *
  obtain ⟨hz1, hz2⟩ := hz
  obtain ⟨ha1, ha2⟩ := ha
  by_cases hd : d ≤ z
  · rw [Int.min_eq_left hd]
    go_enter Tryz.func166, Tryz.ntmps166
    go_wp2_with fail
    refine C1.mono ?_
    rintro e w1 ⟨rfl, rfl⟩
    go_wp2_with fail
    refine C2.mono ?_
    rintro e w2 ⟨rfl, rfl⟩
    go_wp2
    go_ret
    exact ⟨rfl, rfl⟩
  · rw [Int.min_eq_right (by omega)]
    go_enter Tryz.func166, Tryz.ntmps166
    go_wp2_with fail
    refine C1.mono ?_
    rintro e w1 ⟨rfl, rfl⟩
    go_wp2_with fail
    refine C2.mono ?_
    rintro e w2 ⟨rfl, rfl⟩
    go_wp2
    go_ret
    exact ⟨rfl, rfl⟩

theorem monthOf_any (w : World) (y m : Int) :
    Calls Tryz.prog 165 #[.int .i64 y, .int .i64 m] w fun e w' => e = .returned (.tuple #[.int .i64 (if 1 ≤ y ∧ y ≤ 9999 ∧ 1 ≤ m ∧ m ≤ 12 then 12 * (y - 1) + m - 1 else 0), .bool (decide (1 ≤ y ∧ y ≤ 9999 ∧ 1 ≤ m ∧ m ≤ 12))]) ∧ w' = w := by
  by_cases h : 1 ≤ y ∧ y ≤ 9999 ∧ 1 ≤ m ∧ m ≤ 12
  · rw [if_pos h, decide_eq_true h]
    obtain ⟨h1, h2, h3, h4⟩ := h
    have t1 : decide (y < 1) = false := by simp; omega
    have t2 : decide (9999 < y) = false := by simp; omega
    have t3 : decide (m < 1) = false := by simp; omega
    have t4 : decide (12 < m) = false := by simp; omega
    go_enter Tryz.func165, Tryz.ntmps165
    go_wp2
    go_ret2
    exact ⟨rfl, rfl⟩
  · rw [if_neg h, decide_eq_false h]
    by_cases h1 : y < 1
    · clear h
      have t1 : decide (y < 1) = true := by simp; omega
      go_enter Tryz.func165, Tryz.ntmps165
      go_wp2
      go_ret2
      exact ⟨rfl, rfl⟩
    · have t1 : decide (y < 1) = false := by simp; omega
      by_cases h2 : 9999 < y
      · clear h
        have t2 : decide (9999 < y) = true := by simp; omega
        go_enter Tryz.func165, Tryz.ntmps165
        go_wp2
        go_ret2
        exact ⟨rfl, rfl⟩
      · have t2 : decide (9999 < y) = false := by simp; omega
        by_cases h3 : m < 1
        · clear h
          have t3 : decide (m < 1) = true := by simp; omega
          go_enter Tryz.func165, Tryz.ntmps165
          go_wp2
          go_ret2
          exact ⟨rfl, rfl⟩
        · have t3 : decide (m < 1) = false := by simp; omega
          have t4 : decide (12 < m) = true := by simp; omega
          clear h
          go_enter Tryz.func165, Tryz.ntmps165
          go_wp2
          go_ret2
          exact ⟨rfl, rfl⟩

end Go.Proofs.YtdklikicngmkbaaGreatDoor
