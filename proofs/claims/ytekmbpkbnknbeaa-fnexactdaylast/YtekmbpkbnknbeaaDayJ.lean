/- The program's days: month.day, monthOf, monthAt, DayOf, DayLast, DayParts, DayWeek, each by its contract. -/
import Derived.Test.YtekmbpkbnknbeaaDayI
namespace Go.Proofs.Ytekmbpkbnknbeaa
open Go.RowKit

/-- The number of a day of a month, or of its last one. -/
def dayIn (k : Nat) (d : Int) : Int := ahead k + min d (lastM k)

theorem ahead_big {k : Nat} (hk : k ≤ 119988) : 0 ≤ ahead k ∧ ahead k ≤ 3652059 := by
  have := ahead_le hk; rw [ahead_end] at this; exact ⟨ahead_nonneg k, this⟩

theorem day_any (w : World) (k : Nat) (d : Int) (hk : k ≤ 119988) (_h0 : 0 ≤ d) (_h1 : d ≤ 31) :
    Calls Try.prog 46 #[.int .i64 k, .int .i64 d] w fun e w' => e = .returned (.int .i64 (dayIn k d)) ∧ w' = w := by
  have C1 := ahead_any w k (by omega)
  have C2 := last_any w k (by omega)
  have hz := lastM_bounds k
  have ha := ahead_big hk
  unfold dayIn
  generalize lastM k = z at *
  generalize ahead k = a at *
  obtain ⟨hz1, hz2⟩ := hz
  obtain ⟨ha1, ha2⟩ := ha
  by_cases hd : d ≤ z
  · rw [Int.min_eq_left hd]
    go_enter Try.func46, Try.ntmps46
    go_wp2_with fail
    refine C1.mono ?_
    rintro e w1 ⟨rfl, rfl⟩
    go_wp2_with fail
    refine C2.mono ?_
    rintro e w2 ⟨rfl, rfl⟩
    go_wp2
    go_ret
    exact ⟨rfl, rfl⟩
  · rw [Int.min_eq_right (by omega)]
    go_enter Try.func46, Try.ntmps46
    go_wp2_with fail
    refine C1.mono ?_
    rintro e w1 ⟨rfl, rfl⟩
    go_wp2_with fail
    refine C2.mono ?_
    rintro e w2 ⟨rfl, rfl⟩
    go_wp2
    go_ret
    exact ⟨rfl, rfl⟩

theorem monthOf_any (w : World) (y m : Int) :
    Calls Try.prog 45 #[.int .i64 y, .int .i64 m] w fun e w' => e = .returned (.tuple #[.int .i64 (if 1 ≤ y ∧ y ≤ 9999 ∧ 1 ≤ m ∧ m ≤ 12 then 12 * (y - 1) + m - 1 else 0), .bool (decide (1 ≤ y ∧ y ≤ 9999 ∧ 1 ≤ m ∧ m ≤ 12))]) ∧ w' = w := by
  by_cases h : 1 ≤ y ∧ y ≤ 9999 ∧ 1 ≤ m ∧ m ≤ 12
  · rw [if_pos h, decide_eq_true h]
    obtain ⟨h1, h2, h3, h4⟩ := h
    have t1 : decide (y < 1) = false := by simp; omega
    have t2 : decide (9999 < y) = false := by simp; omega
    have t3 : decide (m < 1) = false := by simp; omega
    have t4 : decide (12 < m) = false := by simp; omega
    go_enter Try.func45, Try.ntmps45
    go_wp2
    go_ret2
    exact ⟨rfl, rfl⟩
  · rw [if_neg h, decide_eq_false h]
    by_cases h1 : y < 1
    · clear h
      have t1 : decide (y < 1) = true := by simp; omega
      go_enter Try.func45, Try.ntmps45
      go_wp2
      go_ret2
      exact ⟨rfl, rfl⟩
    · have t1 : decide (y < 1) = false := by simp; omega
      by_cases h2 : 9999 < y
      · clear h
        have t2 : decide (9999 < y) = true := by simp; omega
        go_enter Try.func45, Try.ntmps45
        go_wp2
        go_ret2
        exact ⟨rfl, rfl⟩
      · have t2 : decide (9999 < y) = false := by simp; omega
        by_cases h3 : m < 1
        · clear h
          have t3 : decide (m < 1) = true := by simp; omega
          go_enter Try.func45, Try.ntmps45
          go_wp2
          go_ret2
          exact ⟨rfl, rfl⟩
        · have t3 : decide (m < 1) = false := by simp; omega
          have t4 : decide (12 < m) = true := by simp; omega
          clear h
          go_enter Try.func45, Try.ntmps45
          go_wp2
          go_ret2
          exact ⟨rfl, rfl⟩

theorem monthAt_any (w : World) (n : Int) (h1 : 1 ≤ n) (h2 : n ≤ 3652059) :
    Calls Try.prog 52 #[.int .i64 n] w fun e w' => e = .returned (.int .i64 (moN n)) ∧ w' = w := by
  go_enter Try.func52, Try.ntmps52
  go_wp2
  go_loop [3] (fun i => ∃ m : Nat, m ≤ 119987 ∧ i = .int .i64 m) (fun i => (intOf i).toNat)
  case atStart => exact ⟨((n - 1) * 4800 / 146097).toNat, by omega, by go_num⟩
  case round =>
    obtain ⟨m, hm, rfl⟩ := hrel
    have C := ahead_any w m (by omega)
    by_cases hge : n ≤ ahead m
    · have h0 : 0 < m := by
        rcases Nat.eq_zero_or_pos m with e | e
        · rw [e, ahead_zero] at hge; omega
        · exact e
      go_wp2_with fail
      refine C.mono ?_
      rintro e w2 ⟨rfl, rfl⟩
      go_wp2
      go_round
      case rel => exact ⟨m - 1, by omega, by go_num⟩
      case measure => simp [intOf]; omega
    · have hge' : decide (n ≤ ahead m) = false := by simp; omega
      go_wp2_with fail
      refine C.mono ?_
      rintro e w2 ⟨rfl, rfl⟩
      go_wp2
      go_loop [3] (fun i => ∃ j : Nat, j ≤ 119987 ∧ ahead j < n ∧ i = .int .i64 j) (fun i => 119988 - (intOf i).toNat)
      case atStart => exact ⟨m, hm, by omega, rfl⟩
      case round =>
        obtain ⟨j, hj, haj, rfl⟩ := hrel
        have C2 := ahead_any w2 (j + 1) (by omega)
        rw [Int.natCast_add, Int.natCast_one] at C2
        clear hge hge' C hm
        by_cases hlt : ahead (j + 1) < n
        · have h0 : j < 119987 := by
            rcases Nat.lt_or_ge j 119987 with e | e
            · exact e
            · obtain rfl : j = 119987 := by omega
              rw [show (119987 + 1 : Nat) = 119988 by rfl, ahead_end] at hlt; omega
          go_wp2_with fail
          refine C2.mono ?_
          rintro e w3 ⟨rfl, rfl⟩
          go_wp2
          go_round
          case rel => exact ⟨j + 1, by omega, hlt, by go_num⟩
          case measure => simp [intOf]; omega
        · have hm : moN n = j := moN_of ⟨haj, by omega⟩
          have hlt' : decide (ahead (j + 1) < n) = false := by simp; omega
          have HM := hid hm
          clear hm
          go_wp2_with fail
          refine C2.mono ?_
          rintro e w3 ⟨rfl, rfl⟩
          go_wp2
          go_ret
          exact ⟨by rw [unhid HM]; rfl, rfl⟩

end Go.Proofs.Ytekmbpkbnknbeaa
