/- The specification's days: l1In, l3Leap, l3Last, l3Before, l3Of, l3Is, l3Year, l3Month, l3Day, each by its contract. What days answer; dayOk. DayParts of the program. -/
import Derived.Test.YtdklikicngmkbaaGreatDoorG11
namespace Go.Proofs.YtdklikicngmkbaaGreatDoor
open Go.RowKit

theorem in_any (w : World) (n a b : Int) : Calls Tryz.prog 62 #[.int .i64 n, .int .i64 a, .int .i64 b] w fun e w' => e = .returned (.bool (decide (a ≤ n ∧ n ≤ b))) ∧ w' = w := by
  by_cases h : a ≤ n
  · have h' : decide (a ≤ n) = true := by simpa using h
    by_cases k : n ≤ b
    · rw [show decide (a ≤ n ∧ n ≤ b) = true by simp [h, k]]
      go_enter Tryz.func62, Tryz.ntmps62
      go_wp2
      go_ret
      exact ⟨rfl, rfl⟩
    · rw [show decide (a ≤ n ∧ n ≤ b) = false by simp; omega]
      have k' : decide (n ≤ b) = false := by simp; omega
      go_enter Tryz.func62, Tryz.ntmps62
      go_wp2
      go_ret
      exact ⟨rfl, rfl⟩
  · have h' : decide (a ≤ n) = false := by simpa using h
    rw [show decide (a ≤ n ∧ n ≤ b) = false by simp; omega]
    go_enter Tryz.func62, Tryz.ntmps62
    go_wp2
    go_ret
    exact ⟨rfl, rfl⟩

theorem specLeap_any (w : World) (y : Int) (h0 : 0 ≤ y) : Calls Tryz.prog 195 #[.int .i64 y] w fun e w' => e = .returned (.bool (leapB y)) ∧ w' = w := by
  rcases Bool.eq_false_or_eq_true (y % 4 == 0) with h4 | h4 <;> rcases Bool.eq_false_or_eq_true (y % 100 != 0) with h100 | h100 <;> rcases Bool.eq_false_or_eq_true (y % 400 == 0) with h400 | h400
  all_goals
    rw [show leapB y = _ by unfold leapB; rw [h4, h100, h400]]
    go_enter Tryz.func195, Tryz.ntmps195
    go_wp2
    go_ret
    exact ⟨rfl, rfl⟩

theorem months12 {m : Int} (h1 : 1 ≤ m) (h2 : m ≤ 12) : m = 1 ∨ m = 2 ∨ m = 3 ∨ m = 4 ∨ m = 5 ∨ m = 6 ∨ m = 7 ∨ m = 8 ∨ m = 9 ∨ m = 10 ∨ m = 11 ∨ m = 12 := by omega

theorem specLast_any (w : World) (y m : Int) (h0 : 0 ≤ y) (h1 : 1 ≤ m) (h2 : m ≤ 12) : Calls Tryz.prog 162 #[.int .i64 y, .int .i64 m] w fun e w' => e = .returned (.int .i64 (lastD y m)) ∧ w' = w := by
  have C := specLeap_any w y h0
  rcases months12 h1 h2 with rfl | rfl | rfl | rfl | rfl | rfl | rfl | rfl | rfl | rfl | rfl | rfl
  case inr.inl =>
    rw [show lastD y 2 = if leapB y then 29 else 28 by rfl]
    generalize leapB y = lp at *
    go_enter Tryz.func162, Tryz.ntmps162
    go_wp2_with fail
    refine C.mono ?_
    rintro e w1 ⟨rfl, rfl⟩
    cases lp
    · go_wp2
      go_ret
      exact ⟨rfl, rfl⟩
    · go_wp2
      go_ret
      exact ⟨rfl, rfl⟩
  all_goals
    go_enter Tryz.func162, Tryz.ntmps162
    go_wp2
    go_ret
    exact ⟨rfl, rfl⟩

theorem specBefore_any (w : World) (y : Int) (h0 : 1 ≤ y) (h1 : y ≤ 20000) : Calls Tryz.prog 161 #[.int .i64 y] w fun e w' => e = .returned (.int .i64 (before (y - 1))) ∧ w' = w := by
  unfold before
  go_enter Tryz.func161, Tryz.ntmps161
  go_wp2
  go_ret
  exact ⟨rfl, rfl⟩

theorem before_bounds {y : Int} (h0 : 0 ≤ y) (h1 : y ≤ 20000) : 0 ≤ before y ∧ before y ≤ 8000000 := by unfold before; omega

theorem specOf_any (w : World) (k : Nat) (y m d : Int) (hk : k ≤ 200000) (hy : y = (k : Int) / 12 + 1) (hm : m = (k : Int) % 12 + 1) (hd0 : -10000000 ≤ d) (hd1 : d ≤ 10000000) :
    Calls Tryz.prog 153 #[.int .i64 y, .int .i64 m, .int .i64 d] w fun e w' => e = .returned (.int .i64 (ahead k + d)) ∧ w' = w := by
  have hy1 : 1 ≤ y := by omega
  have hy2 : y ≤ 20000 := by omega
  have hm1 : 1 ≤ m := by omega
  have hm2 : m ≤ 12 := by omega
  have C1 := specBefore_any w y hy1 hy2
  have hb := before_bounds (show 0 ≤ y - 1 by omega) (by omega)
  have e : ahead k = before (y - 1) + daysIn y (m - 1).toNat := by
    rw [ahead_at, show (k : Int) / 12 = y - 1 by omega, show y - 1 + 1 = y by omega, show k % 12 = (m - 1).toNat by omega]
  have EQ := hid e
  clear e hy hm hk
  generalize ahead k = A at *
  generalize before (y - 1) = B at *
  obtain ⟨hb1, hb2⟩ := hb
  go_enter Tryz.func153, Tryz.ntmps153
  go_wp2_with fail
  refine C1.mono ?_
  rintro e w1 ⟨rfl, rfl⟩
  go_wp2
  clear C1
  go_loop [7, 8] (fun t i => ∃ j : Nat, (j : Int) ≤ m - 1 ∧ t = .int .i64 (B + d + daysIn y j) ∧ i = .int .i64 ((j : Int) + 1))
    (fun _ i => (m - intOf i).toNat)
  case atStart => exact ⟨0, by omega, by simp [daysIn], by go_num⟩
  case round =>
    obtain ⟨j, hj, rfl, rfl⟩ := hrel
    have hd := daysIn_bounds y j
    obtain ⟨hd1, hd2⟩ := hd
    have CL := specLast_any w1 y ((j : Int) + 1) (by omega) (by omega) (by omega)
    by_cases hlt : (j : Int) + 1 < m
    · have hs := daysIn_step y j
      have HB := hid hs
      have hz := lastD_bounds y ((j : Int) + 1)
      obtain ⟨hz1, hz2⟩ := hz
      clear hs
      generalize lastD y ((j : Int) + 1) = z at *
      generalize daysIn y j = q at *
      go_wp2_with fail
      refine CL.mono ?_
      rintro e w2 ⟨rfl, rfl⟩
      go_wp2
      go_round
      case rel => exact ⟨j + 1, by omega, by rw [unhid HB]; go_num, by go_num⟩
      case measure => simp [intOf]; omega
    · have e : A + d = B + d + daysIn y j := by
        rw [unhid EQ, show (m - 1).toNat = j by omega]; omega
      have E := hid e
      clear e
      generalize daysIn y j = q at *
      go_wp2
      go_ret
      exact ⟨by rw [unhid E]; rfl, rfl⟩

theorem specIs_any (w : World) (n : Int) : Calls Tryz.prog 65 #[.int .i64 n] w fun e w' => e = .returned (.bool (decide (1 ≤ n ∧ n ≤ 3652059))) ∧ w' = w := by
  have C := in_any w n 1 3652059
  generalize decide (1 ≤ n ∧ n ≤ 3652059) = b at *
  go_enter Tryz.func65, Tryz.ntmps65
  go_wp2_with fail
  refine C.mono ?_
  rintro e w1 ⟨rfl, rfl⟩
  go_wp2
  go_ret
  exact ⟨rfl, rfl⟩

theorem year_of {n : Int} (h1 : 1 ≤ n) (h2 : n ≤ 3652059) {Y : Nat} (hl : before Y < n) (hh : n ≤ before ((Y : Int) + 1)) : moN n / 12 = Y := by
  have a := moN_ahead h1 h2
  have b := moN_next h1 h2
  have x := ahead_year Y
  have y := ahead_year (Y + 1)
  rw [Int.natCast_add, Int.natCast_one] at y
  have c1 : 12 * Y ≤ moN n := by
    apply Classical.byContradiction; intro h
    have := ahead_le (show moN n + 1 ≤ 12 * Y by omega); omega
  have c2 : moN n < 12 * (Y + 1) := by
    apply Classical.byContradiction; intro h
    have := ahead_le (show 12 * (Y + 1) ≤ moN n by omega); omega
  omega

theorem before_9999 : before 9999 = 3652059 := by decide
theorem before_0 : before 0 = 0 := by decide

theorem specYear_any (w : World) (n : Int) (h1 : 1 ≤ n) (h2 : n ≤ 3652059) : Calls Tryz.prog 108 #[.int .i64 n] w fun e w' => e = .returned (.int .i64 ((moN n : Int) / 12 + 1)) ∧ w' = w := by
  go_enter Tryz.func108, Tryz.ntmps108
  go_wp2
  go_loop [3, 4] (fun a b => ∃ x y : Nat, x < y ∧ y ≤ 9999 ∧ before x < n ∧ n ≤ before y ∧ a = .int .i64 ((x : Int) + 1) ∧ b = .int .i64 ((y : Int) + 1))
    (fun a b => (intOf b - intOf a).toNat)
  case atStart => exact ⟨0, 9999, by omega, by omega, by have := before_0; simp only [Int.natCast_zero]; omega, by have := before_9999; simp only [show ((9999 : Nat) : Int) = 9999 by rfl]; omega, by go_num, by go_num⟩
  case round =>
    obtain ⟨x, y, hxy, hy, hx1, hy1, rfl, rfl⟩ := hrel
    by_cases hlt : 1 < (y : Int) + 1 - ((x : Int) + 1)
    · have C1 := specBefore_any w (((x : Int) + 1 + ((y : Int) + 1)) / 2) (by omega) (by omega)
      obtain ⟨z, hz⟩ : ∃ z : Nat, z = (x + y) / 2 := ⟨_, rfl⟩
      rw [show ((x : Int) + 1 + ((y : Int) + 1)) / 2 - 1 = (z : Int) by omega] at C1
      have HX1 := hid hx1
      have HY1 := hid hy1
      have HZ := hid hz
      clear hx1 hy1 hz
      by_cases hb : before z < n
      · have hb' : decide (before z < n) = true := by simpa using hb
        go_wp2_with fail
        refine C1.mono ?_
        rintro e w1 ⟨rfl, rfl⟩
        have HB := hid hb
        clear hb
        go_wp2
        have hz := unhid HZ
        go_round
        case rel => exact ⟨z, y, by omega, hy, unhid HB, unhid HY1, by go_num, rfl⟩
        case measure => simp [intOf]; omega
      · have hb' : decide (before z < n) = false := by simpa using hb
        go_wp2_with fail
        refine C1.mono ?_
        rintro e w1 ⟨rfl, rfl⟩
        have HB := hid hb
        clear hb
        go_wp2
        have hz := unhid HZ
        go_round
        case rel => exact ⟨x, z, by omega, by omega, unhid HX1, by have := unhid HB; omega, rfl, by go_num⟩
        case measure => simp [intOf]; omega
    · have e : moN n / 12 = x := year_of h1 h2 hx1 (by rw [show (x : Int) + 1 = (y : Int) by omega]; exact hy1)
      have E := hid (show (moN n : Int) / 12 + 1 = (x : Int) + 1 by omega)
      clear e hx1 hy1
      go_wp2
      go_ret
      exact ⟨by rw [unhid E]; rfl, rfl⟩

theorem specMonth_any (w : World) (n : Int) (h1 : 1 ≤ n) (h2 : n ≤ 3652059) : Calls Tryz.prog 110 #[.int .i64 n, .int .i64 ((moN n : Int) / 12 + 1)] w fun e w' => e = .returned (.int .i64 ((moN n : Int) % 12 + 1)) ∧ w' = w := by
  have hlt := moN_lt h1 h2
  have hb := before_bounds (show (0 : Int) ≤ (moN n : Int) / 12 by omega) (by omega)
  have C1 := specBefore_any w ((moN n : Int) / 12 + 1) (by omega) (by omega)
  rw [show (moN n : Int) / 12 + 1 - 1 = (moN n : Int) / 12 by omega] at C1
  obtain ⟨hb1, hb2⟩ := hb
  go_enter Tryz.func110, Tryz.ntmps110
  go_wp2_with fail
  refine C1.mono ?_
  rintro e w1 ⟨rfl, rfl⟩
  go_wp2
  clear C1
  have ha := moN_ahead h1 h2
  have hn := moN_next h1 h2
  obtain ⟨Y, hY⟩ : ∃ Y : Nat, Y = moN n / 12 := ⟨_, rfl⟩
  have hS : ∀ j : Nat, j < 12 → ahead (12 * Y + j) = before ((moN n : Int) / 12) + daysIn ((moN n : Int) / 12 + 1) j := by
    intro j hj
    rw [ahead_at, show (((12 * Y + j : Nat) : Int)) / 12 = (moN n : Int) / 12 by omega, show (12 * Y + j) % 12 = j by omega]
  have HS := hid hS
  have HY := hid hY
  clear hS hY
  have HA := hid ha
  have HN := hid hn
  clear ha hn
  go_loop [5, 6] (fun m t => ∃ j : Nat, j ≤ moN n % 12 ∧ m = .int .i64 ((j : Int) + 1) ∧ t = .int .i64 (n - before ((moN n : Int) / 12) - daysIn ((moN n : Int) / 12 + 1) j))
    (fun m _ => 12 - (intOf m).toNat)
  case atStart => exact ⟨0, Nat.zero_le _, by go_num, by simp [daysIn]⟩
  case round =>
    obtain ⟨j, hj, rfl, rfl⟩ := hrel
    have CL := specLast_any w1 ((moN n : Int) / 12 + 1) ((j : Int) + 1) (by omega) (by omega) (by omega)
    have hd := daysIn_bounds ((moN n : Int) / 12 + 1) j
    obtain ⟨hd1, hd2⟩ := hd
    have hz := lastD_bounds ((moN n : Int) / 12 + 1) ((j : Int) + 1)
    obtain ⟨hz1, hz2⟩ := hz
    have hs := daysIn_step ((moN n : Int) / 12 + 1) j
    have e0 := unhid HS j (by omega)
    have key : decide (lastD ((moN n : Int) / 12 + 1) ((j : Int) + 1) < n - before ((moN n : Int) / 12) - daysIn ((moN n : Int) / 12 + 1) j) = decide (j < moN n % 12) := by
      have hY := unhid HY
      by_cases hlt : j < moN n % 12
      · rw [decide_eq_true hlt]
        have := ahead_le (show 12 * Y + (j + 1) ≤ moN n by omega)
        have e1 := ahead_succ (12 * Y + j)
        rw [show 12 * Y + j + 1 = 12 * Y + (j + 1) by omega] at e1
        have e2 := lastM_in (moN n) j (by omega)
        rw [← hY] at e2
        have := unhid HA
        simp only [decide_eq_true_eq]
        omega
      · rw [decide_eq_false hlt]
        have hje : moN n = 12 * Y + j := by omega
        have e1 := ahead_succ (12 * Y + j)
        have e2 := lastM_in (moN n) j (by omega)
        rw [← hY] at e2
        have := unhid HN
        rw [hje] at this
        rw [hje] at e0 e2 ⊢
        simp only [decide_eq_false_iff_not]
        omega
    have HB := hid hs
    clear hs e0
    generalize lastD ((moN n : Int) / 12 + 1) ((j : Int) + 1) = z at *
    generalize before ((moN n : Int) / 12) = B at *
    by_cases hlt : j < moN n % 12
    · rw [decide_eq_true hlt] at key
      go_wp2_with fail
      refine CL.mono ?_
      rintro e w2 ⟨rfl, rfl⟩
      go_wp2_with fail
      refine CL.mono ?_
      rintro e w2 ⟨rfl, rfl⟩
      go_wp2
      go_round
      case rel => exact ⟨j + 1, by omega, by go_num, by rw [unhid HB]; go_num⟩
      case measure => simp [intOf]; omega
    · rw [decide_eq_false hlt] at key
      have E := hid (show (moN n : Int) % 12 + 1 = (j : Int) + 1 by omega)
      go_wp2_with fail
      refine CL.mono ?_
      rintro e w2 ⟨rfl, rfl⟩
      go_wp2
      go_ret
      exact ⟨by rw [unhid E]; rfl, rfl⟩

theorem specDay_any (w : World) (n : Int) (h1 : 1 ≤ n) (h2 : n ≤ 3652059) : Calls Tryz.prog 111 #[.int .i64 n] w fun e w' => e = .returned (.int .i64 (dyN n)) ∧ w' = w := by
  have C1 := specYear_any w n h1 h2
  have C2 := specMonth_any w n h1 h2
  have hlt := moN_lt h1 h2
  have C3 := specOf_any w (moN n) _ _ 1 (by omega) rfl rfl (by omega) (by omega)
  have ha := moN_ahead h1 h2
  have h0 := ahead_nonneg (moN n)
  have E := hid (show dyN n = n - (ahead (moN n) + 1) + 1 by unfold dyN; omega)
  generalize dyN n = D at *
  generalize ahead (moN n) = A at *
  generalize (moN n : Int) / 12 + 1 = Y at *
  generalize (moN n : Int) % 12 + 1 = M at *
  go_enter Tryz.func111, Tryz.ntmps111
  go_wp2_with fail
  refine C1.mono ?_
  rintro e w1 ⟨rfl, rfl⟩
  go_wp2_with fail
  refine C2.mono ?_
  rintro e w1 ⟨rfl, rfl⟩
  go_wp2_with fail
  refine C3.mono ?_
  rintro e w1 ⟨rfl, rfl⟩
  go_wp2
  go_ret
  exact ⟨by rw [unhid E]; rfl, rfl⟩

end Go.Proofs.YtdklikicngmkbaaGreatDoor

namespace Go.Proofs.YtdklikicngmkbaaGreatDoor
open Go.RowKit


/-- A year and a month of the calendar. -/
@[reducible] def YM (y m : Int) : Prop := 1 ≤ y ∧ y ≤ 9999 ∧ 1 ≤ m ∧ m ≤ 12

/-- The month as a number. -/
def moOf (y m : Int) : Nat := (12 * (y - 1) + m - 1).toNat

def lastR (y m : Int) : Int := if YM y m then lastD y m else 0

def dayR (y m d : Int) : Int := if YM y m ∧ 1 ≤ d ∧ d ≤ lastD y m then ahead (moOf y m) + d else 0

def weekR (n : Int) : Int := if 1 ≤ n ∧ n ≤ 3652059 then (n - 1) % 7 + 1 else 0

@[reducible] def IsDay (n : Int) : Prop := 1 ≤ n ∧ n ≤ 3652059

def partY (n : Int) : Int := if IsDay n then (moN n : Int) / 12 + 1 else 0

def partM (n : Int) : Int := if IsDay n then (moN n : Int) % 12 + 1 else 0

def partD (n : Int) : Int := if IsDay n then dyN n else 0

theorem moOf_lt {y m : Int} (h : YM y m) : moOf y m < 119988 := by unfold moOf YM at *; omega

theorem moOf_cast {y m : Int} (h : YM y m) : (moOf y m : Int) = 12 * (y - 1) + m - 1 := by unfold moOf YM at *; omega

theorem moOf_last {y m : Int} (h : YM y m) : lastM (moOf y m) = lastD y m := by
  unfold lastM
  rw [show ((moOf y m / 12 : Nat) : Int) + 1 = y by unfold moOf YM at *; omega, show ((moOf y m % 12 : Nat) : Int) + 1 = m by unfold moOf YM at *; omega]

theorem dayOk_any (w : World) (n : Int) : Calls Tryz.prog 200 #[.int .i64 n] w fun e w' => e = .returned (.bool (decide (1 ≤ n ∧ n ≤ 3652059))) ∧ w' = w := by
  by_cases h : 1 ≤ n
  · by_cases k : n ≤ 3652059
    · rw [decide_eq_true ⟨h, k⟩]
      have h' : decide (1 ≤ n) = true := by simpa using h
      have k' : decide (n ≤ 3652059) = true := by simpa using k
      go_enter Tryz.func200, Tryz.ntmps200
      go_wp2
      go_ret
      exact ⟨rfl, rfl⟩
    · rw [decide_eq_false (fun e => k e.2)]
      have h' : decide (1 ≤ n) = true := by simpa using h
      have k' : decide (n ≤ 3652059) = false := by simpa using k
      go_enter Tryz.func200, Tryz.ntmps200
      go_wp2
      go_ret
      exact ⟨rfl, rfl⟩
  · rw [decide_eq_false (fun e => h e.1)]
    have h' : decide (1 ≤ n) = false := by simpa using h
    go_enter Tryz.func200, Tryz.ntmps200
    go_wp2
    go_ret
    exact ⟨rfl, rfl⟩

end Go.Proofs.YtdklikicngmkbaaGreatDoor

namespace Go.Proofs.YtdklikicngmkbaaGreatDoor
open Go.RowKit


theorem results_tmp4 {fn : Func} {t u v x : Tmp} (h : fn.results = #[.tmp t, .tmp u, .tmp v, .tmp x]) (tmps : Array Value) (P : Program) (w : World) :
    (results fn tmps).run P w = .ok (.tuple #[tmps.getD t undef, tmps.getD u undef, tmps.getD v undef, tmps.getD x undef]) w := by
  simp [results, h]

theorem implDayParts_any (w : World) (n : Int) : Calls Tryz.prog 168 #[.int .i64 n] w fun e w' => e = .returned (.tuple #[.int .i64 (partY n), .int .i64 (partM n), .int .i64 (partD n), .bool (decide (IsDay n))]) ∧ w' = w := by
  have C0 := dayOk_any w n
  by_cases h : IsDay n
  · rw [decide_eq_true (show 1 ≤ n ∧ n ≤ 3652059 from h)] at C0
    have hlt := moN_lt h.1 h.2
    have C1 := monthAt_any w n h.1 h.2
    have C2 := year_any w (moN n) (by omega)
    have C3 := inYear_any w (moN n) (by omega)
    have C4 := ahead_any w (moN n) (by omega)
    rw [decide_eq_true h, show partY n = (moN n : Int) / 12 + 1 from if_pos h, show partM n = (moN n : Int) % 12 + 1 from if_pos h, show partD n = n - ahead (moN n) from if_pos h]
    have ha := moN_ahead h.1 h.2
    have h0 := ahead_nonneg (moN n)
    have hn := h.2
    generalize (moN n : Int) / 12 + 1 = y at *
    generalize (moN n : Int) % 12 + 1 = z at *
    generalize ahead (moN n) = a at *
    generalize moN n = k at *
    clear h
    go_enter Tryz.func168, Tryz.ntmps168
    go_wp2_with fail
    refine C0.mono ?_
    rintro e w1 ⟨rfl, rfl⟩
    go_wp2_with fail
    refine C1.mono ?_
    rintro e w1 ⟨rfl, rfl⟩
    go_wp2_with fail
    refine C2.mono ?_
    rintro e w1 ⟨rfl, rfl⟩
    go_wp2_with fail
    refine C3.mono ?_
    rintro e w1 ⟨rfl, rfl⟩
    go_wp2_with fail
    refine C4.mono ?_
    rintro e w1 ⟨rfl, rfl⟩
    go_wp2
    (try simp only [Exit.inBlock, Exit.then])
    refine bodyPost_ret (results_tmp4 rfl _ _ _) rfl ?_
    exact ⟨rfl, rfl⟩
  · rw [decide_eq_false (show ¬ (1 ≤ n ∧ n ≤ 3652059) from h)] at C0
    rw [decide_eq_false h, show partY n = 0 from if_neg h, show partM n = 0 from if_neg h, show partD n = 0 from if_neg h]
    clear h
    go_enter Tryz.func168, Tryz.ntmps168
    go_wp2_with fail
    refine C0.mono ?_
    rintro e w1 ⟨rfl, rfl⟩
    go_wp2
    (try simp only [Exit.inBlock, Exit.then])
    refine bodyPost_ret (results_tmp4 rfl _ _ _) rfl ?_
    exact ⟨rfl, rfl⟩

end Go.Proofs.YtdklikicngmkbaaGreatDoor
