/- Plain mathematics of the calendar: leap years, months counted from January of the year 1, how many days are ahead of each, and the month of a day. The program's months and days: isLeap, month.last, month.ahead, month.day, monthOf, monthAt, each by its contract. The month of a day. -/
import Derived.Test.YtdklikicngmkbaaGreatDoorProg
import Derived.WalkKit
import Derived.WalkSmall
import Derived.WalkLawsBesides
namespace Go.Proofs.YtdklikicngmkbaaGreatDoor

/-- A year has a February 29. -/
def leapB (y : Int) : Bool := (y % 4 == 0 && y % 100 != 0) || y % 400 == 0
/-- The last day of a month of a year. -/
def lastD (y m : Int) : Int := if m = 2 then (if leapB y then 29 else 28) else if m = 4 ∨ m = 6 ∨ m = 9 ∨ m = 11 then 30 else 31
/-- The days of so many years. -/
def before (n : Int) : Int := 365 * n + n / 4 - n / 100 + n / 400
/-- The days of the first months of a year. -/
def daysIn (y : Int) : Nat → Int
  | 0 => 0
  | k + 1 => daysIn y k + lastD y (k + 1)
/-- The days ahead of a month. -/
def ahead (m : Nat) : Int := before (m / 12 : Nat) + daysIn ((m / 12 : Nat) + 1) (m % 12)
/-- The last day of a month. -/
def lastM (m : Nat) : Int := lastD ((m / 12 : Nat) + 1) ((m % 12 : Nat) + 1)

theorem lastD_bounds (y m : Int) : 28 ≤ lastD y m ∧ lastD y m ≤ 31 := by
  unfold lastD
  split
  · split <;> omega
  · split <;> omega
theorem lastM_bounds (m : Nat) : 28 ≤ lastM m ∧ lastM m ≤ 31 := lastD_bounds _ _

theorem daysIn_year (y : Int) : daysIn y 12 = 365 + (if leapB y then 1 else 0) := by
  simp only [daysIn, lastD]
  cases leapB y <;> simp

theorem leapB_iff (y : Int) : leapB y = true ↔ (y % 4 = 0 ∧ y % 100 ≠ 0) ∨ y % 400 = 0 := by
  simp [leapB]

theorem before_succ (n : Nat) : before ((n + 1 : Nat) : Int) = before n + 365 + (if leapB ((n : Int) + 1) then 1 else 0) := by
  have h := leapB_iff ((n : Int) + 1)
  unfold before
  by_cases k : leapB ((n : Int) + 1) = true
  · rw [if_pos k]
    have := h.1 k
    omega
  · rw [if_neg k]
    have : ¬ (((n : Int) + 1) % 4 = 0 ∧ ((n : Int) + 1) % 100 ≠ 0 ∨ ((n : Int) + 1) % 400 = 0) := fun e => k (h.2 e)
    omega

theorem ahead_succ (m : Nat) : ahead (m + 1) = ahead m + lastM m := by
  unfold ahead lastM
  by_cases h : m % 12 = 11
  · have e1 : (m + 1) / 12 = m / 12 + 1 := by omega
    have e2 : (m + 1) % 12 = 0 := by omega
    rw [e1, e2, h, before_succ, Int.natCast_add, Int.natCast_one]
    have this : daysIn ((m / 12 : Nat) + 1) 11 + lastD ((m / 12 : Nat) + 1) (((11 : Nat) : Int) + 1) = _ := daysIn_year ((m / 12 : Nat) + 1)
    have e0 : daysIn ((m / 12 : Nat) + 1 + 1) 0 = 0 := rfl
    rw [e0]
    have e3 : (((11 : Nat) : Int) + 1) = 12 := by omega
    rw [e3] at this ⊢
    generalize (if leapB (((m / 12 : Nat) : Int) + 1) = true then (1 : Int) else 0) = z at *
    omega
  · have e1 : (m + 1) / 12 = m / 12 := by omega
    have e2 : (m + 1) % 12 = m % 12 + 1 := by omega
    rw [e1, e2, daysIn]
    omega

theorem ahead_lt {a b : Nat} (h : a < b) : ahead a < ahead b := by
  induction b with
  | zero => omega
  | succ b ih =>
    have := ahead_succ b
    have := lastM_bounds b
    by_cases k : a = b
    · subst k; omega
    · have := ih (by omega); omega
theorem ahead_le {a b : Nat} (h : a ≤ b) : ahead a ≤ ahead b := by
  by_cases k : a = b
  · subst k; exact Int.le_refl _
  · exact Int.le_of_lt (ahead_lt (by omega))
theorem ahead_zero : ahead 0 = 0 := by decide
theorem ahead_end : ahead 119988 = 3652059 := by decide
theorem ahead_last : ahead 119987 = 3652028 := by decide
theorem ahead_nonneg (m : Nat) : 0 ≤ ahead m := by
  have := ahead_le (Nat.zero_le m); rw [ahead_zero] at this; exact this
theorem ahead_year (n : Nat) : ahead (12 * n) = before n := by
  unfold ahead
  rw [show 12 * n / 12 = n by omega, show 12 * n % 12 = 0 by omega]
  simp [daysIn]

/-- The day n is of the month m. -/
def OfMonth (n : Int) (m : Nat) : Prop := ahead m < n ∧ n ≤ ahead (m + 1)

theorem ofMonth_one {n : Int} {a b : Nat} (ha : OfMonth n a) (hb : OfMonth n b) : a = b := by
  obtain ⟨a1, a2⟩ := ha
  obtain ⟨b1, b2⟩ := hb
  by_cases h : a < b
  · have := ahead_le (show a + 1 ≤ b by omega); omega
  · by_cases k : b < a
    · have := ahead_le (show b + 1 ≤ a by omega); omega
    · omega

theorem ofMonth_is {n : Int} (h1 : 1 ≤ n) (k : Nat) (hk : n ≤ ahead k) : ∃ m, m < k ∧ OfMonth n m := by
  induction k with
  | zero => rw [ahead_zero] at hk; omega
  | succ k ih =>
    by_cases h : n ≤ ahead k
    · obtain ⟨m, h1, h2⟩ := ih h
      exact ⟨m, by omega, h2⟩
    · exact ⟨k, by omega, by omega, hk⟩

/-- The month of a day, of the first ones. -/
def moTo (n : Int) : Nat → Nat
  | 0 => 0
  | k + 1 => if n ≤ ahead k then moTo n k else k
/-- The month of a day. -/
def moN (n : Int) : Nat := moTo n n.toNat

theorem moTo_of {n : Int} {m : Nat} (h : OfMonth n m) : ∀ k, m < k → moTo n k = m
  | 0, hk => by omega
  | k + 1, hk => by
    unfold moTo
    by_cases e : n ≤ ahead k
    · rw [if_pos e]
      refine moTo_of h k ?_
      by_cases c : m = k
      · subst c
        have := h.1
        omega
      · omega
    · rw [if_neg e]
      by_cases c : m = k
      · exact c.symm
      · have := ahead_le (show m + 1 ≤ k by omega)
        have := h.2
        omega
theorem ahead_self (m : Nat) : (m : Int) ≤ ahead m := by
  induction m with
  | zero => rw [ahead_zero]; exact Int.le_refl _
  | succ m ih =>
    have := ahead_succ m
    have := lastM_bounds m
    omega
theorem moN_of {n : Int} {m : Nat} (h : OfMonth n m) : moN n = m := by
  refine moTo_of h _ ?_
  have := ahead_self m
  have := h.1
  omega
theorem moN_is {n : Int} (h1 : 1 ≤ n) (h2 : n ≤ 3652059) : OfMonth n (moN n) ∧ moN n < 119988 := by
  obtain ⟨m, hm, h⟩ := ofMonth_is h1 119988 (by rw [ahead_end]; exact h2)
  rw [moN_of h]
  exact ⟨h, hm⟩
theorem moN_ahead {n : Int} (h1 : 1 ≤ n) (h2 : n ≤ 3652059) : ahead (moN n) < n := (moN_is h1 h2).1.1
theorem moN_next {n : Int} (h1 : 1 ≤ n) (h2 : n ≤ 3652059) : n ≤ ahead (moN n + 1) := (moN_is h1 h2).1.2
theorem moN_lt {n : Int} (h1 : 1 ≤ n) (h2 : n ≤ 3652059) : moN n < 119988 := (moN_is h1 h2).2

/-- The day of the month of a day. -/
def dyN (n : Int) : Int := n - ahead (moN n)
theorem dyN_bounds {n : Int} (h1 : 1 ≤ n) (h2 : n ≤ 3652059) : 1 ≤ dyN n ∧ dyN n ≤ lastM (moN n) := by
  have a := moN_ahead h1 h2
  have b := moN_next h1 h2
  have c := ahead_succ (moN n)
  unfold dyN
  omega

end Go.Proofs.YtdklikicngmkbaaGreatDoor

namespace Go.Proofs.YtdklikicngmkbaaGreatDoor
open Go.RowKit

/-- A fact that the walk is not to see. -/
def DHid (p : Prop) : Prop := p
theorem hid {p : Prop} (h : p) : DHid p := h
theorem unhid {p : Prop} (h : DHid p) : p := h

theorem isLeap_any (w : World) (y : Int) (h0 : 0 ≤ y) : Calls Tryz.prog 219 #[.int .i64 y] w fun e w' => e = .returned (.bool (leapB y)) ∧ w' = w := by
  rcases Bool.eq_false_or_eq_true (y % 4 == 0) with h4 | h4 <;> rcases Bool.eq_false_or_eq_true (y % 100 != 0) with h100 | h100 <;> rcases Bool.eq_false_or_eq_true (y % 400 == 0) with h400 | h400
  all_goals
    rw [show leapB y = _ by unfold leapB; rw [h4, h100, h400]]
    go_enter Tryz.func219, Tryz.ntmps219
    go_wp2
    go_ret
    exact ⟨rfl, rfl⟩

theorem month_cases (k : Nat) : (k : Int) % 12 = 0 ∨ (k : Int) % 12 = 1 ∨ (k : Int) % 12 = 2 ∨ (k : Int) % 12 = 3 ∨ (k : Int) % 12 = 4 ∨ (k : Int) % 12 = 5 ∨ (k : Int) % 12 = 6 ∨ (k : Int) % 12 = 7 ∨ (k : Int) % 12 = 8 ∨ (k : Int) % 12 = 9 ∨ (k : Int) % 12 = 10 ∨ (k : Int) % 12 = 11 := by omega

theorem lastM_at (k : Nat) {j : Int} (h : (k : Int) % 12 = j) : lastM k = lastD ((k : Int) / 12 + 1) (j + 1) := by
  unfold lastM
  rw [show ((k % 12 : Nat) : Int) = j by omega, show ((k / 12 : Nat) : Int) = (k : Int) / 12 by omega]

theorem year_any (w : World) (k : Nat) (hk : k ≤ 200000) : Calls Tryz.prog 202 #[.int .i64 k] w fun e w' => e = .returned (.int .i64 ((k : Int) / 12 + 1)) ∧ w' = w := by
  go_enter Tryz.func202, Tryz.ntmps202
  go_wp2
  go_ret
  exact ⟨rfl, rfl⟩

theorem inYear_any (w : World) (k : Nat) (hk : k ≤ 200000) : Calls Tryz.prog 203 #[.int .i64 k] w fun e w' => e = .returned (.int .i64 ((k : Int) % 12 + 1)) ∧ w' = w := by
  go_enter Tryz.func203, Tryz.ntmps203
  go_wp2
  go_ret
  exact ⟨rfl, rfl⟩

theorem last_any (w : World) (k : Nat) (hk : k ≤ 200000) : Calls Tryz.prog 196 #[.int .i64 k] w fun e w' => e = .returned (.int .i64 (lastM k)) ∧ w' = w := by
  have hy : 0 ≤ (k : Int) / 12 + 1 := by omega
  have C0 := inYear_any w k hk
  have C1 := year_any w k hk
  rcases month_cases k with h | h | h | h | h | h | h | h | h | h | h | h
  case inr.inl =>
    rw [lastM_at k h]
    rw [h] at C0
    have C2 := isLeap_any w _ hy
    rw [show lastD ((k : Int) / 12 + 1) (1 + 1) = if leapB ((k : Int) / 12 + 1) then 29 else 28 by rfl]
    generalize leapB ((k : Int) / 12 + 1) = lp at *
    clear h
    go_enter Tryz.func196, Tryz.ntmps196
    go_wp2_with fail
    refine C0.mono ?_
    rintro e w1 ⟨rfl, rfl⟩
    go_wp2_with fail
    refine C1.mono ?_
    rintro e w2 ⟨rfl, rfl⟩
    go_wp2_with fail
    refine C2.mono ?_
    rintro e w2 ⟨rfl, rfl⟩
    cases lp
    · go_wp2
      go_ret
      exact ⟨rfl, rfl⟩
    · go_wp2
      go_ret
      exact ⟨rfl, rfl⟩
  all_goals
    rw [lastM_at k h]
    rw [h] at C0
    clear h
    go_enter Tryz.func196, Tryz.ntmps196
    go_wp2_with fail
    refine C0.mono ?_
    rintro e w1 ⟨rfl, rfl⟩
    go_wp2
    go_ret
    exact ⟨rfl, rfl⟩

theorem daysIn_step (y : Int) (j : Nat) : daysIn y (j + 1) = daysIn y j + lastD y ((j : Int) + 1) := rfl

theorem ahead_at (k : Nat) : ahead k = before ((k : Int) / 12) + daysIn ((k : Int) / 12 + 1) (k % 12) := by
  unfold ahead
  rw [show ((k / 12 : Nat) : Int) = (k : Int) / 12 by omega]

theorem lastM_in (k j : Nat) (h : j < 12) : lastM (12 * (k / 12) + j) = lastD ((k : Int) / 12 + 1) ((j : Int) + 1) := by
  unfold lastM
  rw [show (12 * (k / 12) + j) / 12 = k / 12 by omega, show (12 * (k / 12) + j) % 12 = j by omega, show ((k / 12 : Nat) : Int) = (k : Int) / 12 by omega]

theorem daysIn_bounds (y : Int) (j : Nat) : 0 ≤ daysIn y j ∧ daysIn y j ≤ 31 * j := by
  induction j with
  | zero => simp [daysIn]
  | succ j ih =>
    rw [daysIn_step]
    have := lastD_bounds y ((j : Int) + 1)
    omega

theorem ahead_any (w : World) (k : Nat) (hk : k ≤ 200000) : Calls Tryz.prog 197 #[.int .i64 k] w fun e w' => e = .returned (.int .i64 (ahead k)) ∧ w' = w := by
  have C1 := year_any w k hk
  have hb : 0 ≤ before ((k : Int) / 12) ∧ before ((k : Int) / 12) ≤ 7000000 := by unfold before; omega
  obtain ⟨hb1, hb2⟩ := hb
  have eb : 365 * ((k : Int) / 12) + (k : Int) / 12 / 4 - (k : Int) / 12 / 100 + (k : Int) / 12 / 400 = before ((k : Int) / 12) := rfl
  go_enter Tryz.func197, Tryz.ntmps197
  go_wp2_with fail
  refine C1.mono ?_
  rintro e w1 ⟨rfl, rfl⟩
  go_wp2
  clear eb C1
  go_loop [4, 5] (fun t i => ∃ j : Nat, j ≤ k % 12 ∧ t = .int .i64 (before ((k : Int) / 12) + daysIn ((k : Int) / 12 + 1) j) ∧ i = .int .i64 (12 * (k / 12) + j : Nat))
    (fun _ i => k - (intOf i).toNat)
  case atStart => exact ⟨0, Nat.zero_le _, by simp [daysIn], by go_num⟩
  case round =>
    obtain ⟨j, hj, rfl, rfl⟩ := hrel
    have hd := daysIn_bounds ((k : Int) / 12 + 1) j
    obtain ⟨hd1, hd2⟩ := hd
    have CL := last_any w1 (12 * (k / 12) + j) (by omega)
    by_cases hlt : j < k % 12
    · have hl := lastM_in k j (by omega)
      have hs := daysIn_step ((k : Int) / 12 + 1) j
      have hB := hid hs
      have hz := lastM_bounds (12 * (k / 12) + j)
      obtain ⟨hz1, hz2⟩ := hz
      have HL := hid hl
      clear hs hl
      generalize lastM (12 * (k / 12) + j) = z at *
      generalize daysIn ((k : Int) / 12 + 1) j = y at *
      go_wp2_with fail
      refine CL.mono ?_
      rintro e w2 ⟨rfl, rfl⟩
      go_wp2
      go_round
      case rel => exact ⟨j + 1, by omega, by rw [unhid hB, ← unhid HL]; go_num, by go_num⟩
      case measure => simp [intOf]; omega
    · have e : ahead k = before ((k : Int) / 12) + daysIn ((k : Int) / 12 + 1) j := by
        rw [ahead_at, show k % 12 = j by omega]
      have E := hid e
      clear e
      generalize daysIn ((k : Int) / 12 + 1) j = y at *
      go_wp2
      go_ret
      exact ⟨by rw [unhid E]; rfl, rfl⟩

end Go.Proofs.YtdklikicngmkbaaGreatDoor

namespace Go.Proofs.YtdklikicngmkbaaGreatDoor
open Go.RowKit


/-- The number of a day of a month, or of its last one. -/
def dayIn (k : Nat) (d : Int) : Int := ahead k + min d (lastM k)

theorem ahead_big {k : Nat} (hk : k ≤ 119988) : 0 ≤ ahead k ∧ ahead k ≤ 3652059 := by
  have := ahead_le hk; rw [ahead_end] at this; exact ⟨ahead_nonneg k, this⟩

theorem monthAt_any (w : World) (n : Int) (h1 : 1 ≤ n) (h2 : n ≤ 3652059) :
    Calls Tryz.prog 201 #[.int .i64 n] w fun e w' => e = .returned (.int .i64 (moN n)) ∧ w' = w := by
  go_enter Tryz.func201, Tryz.ntmps201
  go_wp2
  go_loop [3] (fun i => ∃ m : Nat, m ≤ 119987 ∧ i = .int .i64 m) (fun i => (intOf i).toNat)
  case atStart => exact ⟨((n - 1) * 4800 / 146097).toNat, by omega, by go_num⟩
  case round =>
    obtain ⟨m, hm, rfl⟩ := hrel
    have C := ahead_any w m (by omega)
    by_cases hge : n ≤ ahead m
    · have h0 : 0 < m := by
        rcases Nat.eq_zero_or_pos m with e | e
        · rw [e, ahead_zero] at hge; omega
        · exact e
      go_wp2_with fail
      refine C.mono ?_
      rintro e w2 ⟨rfl, rfl⟩
      go_wp2
      go_round
      case rel => exact ⟨m - 1, by omega, by go_num⟩
      case measure => simp [intOf]; omega
    · have hge' : decide (n ≤ ahead m) = false := by simp; omega
      go_wp2_with fail
      refine C.mono ?_
      rintro e w2 ⟨rfl, rfl⟩
      go_wp2
      go_loop [3] (fun i => ∃ j : Nat, j ≤ 119987 ∧ ahead j < n ∧ i = .int .i64 j) (fun i => 119988 - (intOf i).toNat)
      case atStart => exact ⟨m, hm, by omega, rfl⟩
      case round =>
        obtain ⟨j, hj, haj, rfl⟩ := hrel
        have C2 := ahead_any w2 (j + 1) (by omega)
        rw [Int.natCast_add, Int.natCast_one] at C2
        clear hge hge' C hm
        by_cases hlt : ahead (j + 1) < n
        · have h0 : j < 119987 := by
            rcases Nat.lt_or_ge j 119987 with e | e
            · exact e
            · obtain rfl : j = 119987 := by omega
              rw [show (119987 + 1 : Nat) = 119988 by rfl, ahead_end] at hlt; omega
          go_wp2_with fail
          refine C2.mono ?_
          rintro e w3 ⟨rfl, rfl⟩
          go_wp2
          go_round
          case rel => exact ⟨j + 1, by omega, hlt, by go_num⟩
          case measure => simp [intOf]; omega
        · have hm : moN n = j := moN_of ⟨haj, by omega⟩
          have hlt' : decide (ahead (j + 1) < n) = false := by simp; omega
          have HM := hid hm
          clear hm
          go_wp2_with fail
          refine C2.mono ?_
          rintro e w3 ⟨rfl, rfl⟩
          go_wp2
          go_ret
          exact ⟨by rw [unhid HM]; rfl, rfl⟩

end Go.Proofs.YtdklikicngmkbaaGreatDoor
