/- Plain mathematics of the calendar: leap years, months counted from January of the year 1, how many days are ahead of each, and the month of a day. -/
namespace Go.Proofs.YtnfalniijmccjaaDoor

/-- A year has a February 29. -/
def leapB (y : Int) : Bool := (y % 4 == 0 && y % 100 != 0) || y % 400 == 0
/-- The last day of a month of a year. -/
def lastD (y m : Int) : Int := if m = 2 then (if leapB y then 29 else 28) else if m = 4 ∨ m = 6 ∨ m = 9 ∨ m = 11 then 30 else 31
/-- The days of so many years. -/
def before (n : Int) : Int := 365 * n + n / 4 - n / 100 + n / 400
/-- The days of the first months of a year. -/
def daysIn (y : Int) : Nat → Int
  | 0 => 0
  | k + 1 => daysIn y k + lastD y (k + 1)
/-- The days ahead of a month. -/
def ahead (m : Nat) : Int := before (m / 12 : Nat) + daysIn ((m / 12 : Nat) + 1) (m % 12)
/-- The last day of a month. -/
def lastM (m : Nat) : Int := lastD ((m / 12 : Nat) + 1) ((m % 12 : Nat) + 1)

theorem lastD_bounds (y m : Int) : 28 ≤ lastD y m ∧ lastD y m ≤ 31 := by
  unfold lastD
  split
  · split <;> omega
  · split <;> omega
theorem lastM_bounds (m : Nat) : 28 ≤ lastM m ∧ lastM m ≤ 31 := lastD_bounds _ _

theorem daysIn_year (y : Int) : daysIn y 12 = 365 + (if leapB y then 1 else 0) := by
  simp only [daysIn, lastD]
  cases leapB y <;> simp

theorem leapB_iff (y : Int) : leapB y = true ↔ (y % 4 = 0 ∧ y % 100 ≠ 0) ∨ y % 400 = 0 := by
  simp [leapB]

theorem before_succ (n : Nat) : before ((n + 1 : Nat) : Int) = before n + 365 + (if leapB ((n : Int) + 1) then 1 else 0) := by
  have h := leapB_iff ((n : Int) + 1)
  unfold before
  by_cases k : leapB ((n : Int) + 1) = true
  · rw [if_pos k]
    have := h.1 k
    omega
  · rw [if_neg k]
    have : ¬ (((n : Int) + 1) % 4 = 0 ∧ ((n : Int) + 1) % 100 ≠ 0 ∨ ((n : Int) + 1) % 400 = 0) := fun e => k (h.2 e)
    omega

theorem ahead_succ (m : Nat) : ahead (m + 1) = ahead m + lastM m := by
  unfold ahead lastM
  by_cases h : m % 12 = 11
  · have e1 : (m + 1) / 12 = m / 12 + 1 := by omega
    have e2 : (m + 1) % 12 = 0 := by omega
    rw [e1, e2, h, before_succ, Int.natCast_add, Int.natCast_one]
    have this : daysIn ((m / 12 : Nat) + 1) 11 + lastD ((m / 12 : Nat) + 1) (((11 : Nat) : Int) + 1) = _ := daysIn_year ((m / 12 : Nat) + 1)
    have e0 : daysIn ((m / 12 : Nat) + 1 + 1) 0 = 0 := rfl
    rw [e0]
    have e3 : (((11 : Nat) : Int) + 1) = 12 := by omega
    rw [e3] at this ⊢
    generalize (if leapB (((m / 12 : Nat) : Int) + 1) = true then (1 : Int) else 0) = z at *
    omega
  · have e1 : (m + 1) / 12 = m / 12 := by omega
    have e2 : (m + 1) % 12 = m % 12 + 1 := by omega
    rw [e1, e2, daysIn]
    omega

theorem ahead_lt {a b : Nat} (h : a < b) : ahead a < ahead b := by
  induction b with
  | zero => omega
  | succ b ih =>
    have := ahead_succ b
    have := lastM_bounds b
    by_cases k : a = b
    · subst k; omega
    · have := ih (by omega); omega
theorem ahead_le {a b : Nat} (h : a ≤ b) : ahead a ≤ ahead b := by
  by_cases k : a = b
  · subst k; exact Int.le_refl _
  · exact Int.le_of_lt (ahead_lt (by omega))
theorem ahead_zero : ahead 0 = 0 := by decide
theorem ahead_end : ahead 119988 = 3652059 := by decide
theorem ahead_last : ahead 119987 = 3652028 := by decide
theorem ahead_nonneg (m : Nat) : 0 ≤ ahead m := by
  have := ahead_le (Nat.zero_le m); rw [ahead_zero] at this; exact this
theorem ahead_year (n : Nat) : ahead (12 * n) = before n := by
  unfold ahead
  rw [show 12 * n / 12 = n by omega, show 12 * n % 12 = 0 by omega]
  simp [daysIn]

/-- The day n is of the month m. -/
def OfMonth (n : Int) (m : Nat) : Prop := ahead m < n ∧ n ≤ ahead (m + 1)

theorem ofMonth_one {n : Int} {a b : Nat} (ha : OfMonth n a) (hb : OfMonth n b) : a = b := by
  obtain ⟨a1, a2⟩ := ha
  obtain ⟨b1, b2⟩ := hb
  by_cases h : a < b
  · have := ahead_le (show a + 1 ≤ b by omega); omega
  · by_cases k : b < a
    · have := ahead_le (show b + 1 ≤ a by omega); omega
    · omega

theorem ofMonth_is {n : Int} (h1 : 1 ≤ n) (k : Nat) (hk : n ≤ ahead k) : ∃ m, m < k ∧ OfMonth n m := by
  induction k with
  | zero => rw [ahead_zero] at hk; omega
  | succ k ih =>
    by_cases h : n ≤ ahead k
    · obtain ⟨m, h1, h2⟩ := ih h
      exact ⟨m, by omega, h2⟩
    · exact ⟨k, by omega, by omega, hk⟩

/-- The month of a day, of the first ones. -/
def moTo (n : Int) : Nat → Nat
  | 0 => 0
  | k + 1 => if n ≤ ahead k then moTo n k else k
/-- The month of a day. -/
def moN (n : Int) : Nat := moTo n n.toNat

theorem moTo_of {n : Int} {m : Nat} (h : OfMonth n m) : ∀ k, m < k → moTo n k = m
  | 0, hk => by omega
  | k + 1, hk => by
    unfold moTo
    by_cases e : n ≤ ahead k
    · rw [if_pos e]
      refine moTo_of h k ?_
      by_cases c : m = k
      · subst c
        have := h.1
        omega
      · omega
    · rw [if_neg e]
      by_cases c : m = k
      · exact c.symm
      · have := ahead_le (show m + 1 ≤ k by omega)
        have := h.2
        omega
theorem ahead_self (m : Nat) : (m : Int) ≤ ahead m := by
  induction m with
  | zero => rw [ahead_zero]; exact Int.le_refl _
  | succ m ih =>
    have := ahead_succ m
    have := lastM_bounds m
    omega
theorem moN_of {n : Int} {m : Nat} (h : OfMonth n m) : moN n = m := by
  refine moTo_of h _ ?_
  have := ahead_self m
  have := h.1
  omega
theorem moN_is {n : Int} (h1 : 1 ≤ n) (h2 : n ≤ 3652059) : OfMonth n (moN n) ∧ moN n < 119988 := by
  obtain ⟨m, hm, h⟩ := ofMonth_is h1 119988 (by rw [ahead_end]; exact h2)
  rw [moN_of h]
  exact ⟨h, hm⟩
theorem moN_ahead {n : Int} (h1 : 1 ≤ n) (h2 : n ≤ 3652059) : ahead (moN n) < n := (moN_is h1 h2).1.1
theorem moN_next {n : Int} (h1 : 1 ≤ n) (h2 : n ≤ 3652059) : n ≤ ahead (moN n + 1) := (moN_is h1 h2).1.2
theorem moN_lt {n : Int} (h1 : 1 ≤ n) (h2 : n ≤ 3652059) : moN n < 119988 := (moN_is h1 h2).2

/-- The day of the month of a day. -/
def dyN (n : Int) : Int := n - ahead (moN n)
theorem dyN_bounds {n : Int} (h1 : 1 ≤ n) (h2 : n ≤ 3652059) : 1 ≤ dyN n ∧ dyN n ≤ lastM (moN n) := by
  have a := moN_ahead h1 h2
  have b := moN_next h1 h2
  have c := ahead_succ (moN n)
  unfold dyN
  omega

end Go.Proofs.YtnfalniijmccjaaDoor
