/- The law FnDayYear: its walk. -/
import Derived.Test.YtieinmfmkimjjaaDayQ
import Derived.Test.YtieinmfmkimjjaaDrDayB
import Derived.Test.YtieinmfmkimjjaaByt1
namespace Go.Proofs.Ytieinmfmkimjjaa
open Go.RowKit

theorem ahead_year_days (y : Int) (h1 : 1 ≤ y) (h2 : y ≤ 9999) : dayR y 12 31 - dayR y 1 1 + 1 = daysIn y 12 := by
  have a : YM y 12 := ⟨h1, h2, by omega, by omega⟩
  have b : YM y 1 := ⟨h1, h2, by omega, by omega⟩
  have l12 : lastD y 12 = 31 := rfl
  have l1 : lastD y 1 = 31 := rfl
  rw [show dayR y 12 31 = ahead (moOf y 12) + 31 from if_pos ⟨a, by omega, by omega⟩, show dayR y 1 1 = ahead (moOf y 1) + 1 from if_pos ⟨b, by omega, by omega⟩]
  have s := ahead_succ (moOf y 12)
  rw [moOf_last a, l12] at s
  obtain ⟨k, hk⟩ : ∃ k : Nat, (k : Int) = y - 1 := ⟨(y - 1).toNat, by omega⟩
  have e1 : moOf y 12 + 1 = 12 * (k + 1) := by unfold moOf; omega
  have e2 : moOf y 1 = 12 * k := by unfold moOf; omega
  rw [e1, ahead_year] at s
  rw [e2, ahead_year]
  have t := before_succ k
  have u := daysIn_year y
  rw [hk, show y - 1 + 1 = y by omega] at t
  rw [hk]
  generalize (if leapB y = true then (1 : Int) else 0) = z at *
  omega

theorem leapDay (y : Int) (h1 : 1 ≤ y) (h2 : y ≤ 9999) : decide (0 < dayR y 2 29) = leapB y := by
  have a : YM y 2 := ⟨h1, h2, by omega, by omega⟩
  have e : lastD y 2 = if leapB y then 29 else 28 := rfl
  cases h : leapB y with
  | true =>
    rw [h] at e
    have := ahead_nonneg (moOf y 2)
    rw [show dayR y 2 29 = ahead (moOf y 2) + 29 from if_pos ⟨a, by omega, by rw [e]; simp⟩]
    simp; omega
  | false =>
    rw [h] at e
    rw [show dayR y 2 29 = 0 from if_neg (fun k => by have := k.2.2; rw [e] at this; simp at this)]
    simp

/-- The last days of the first months of a year, together. -/
def sumL (y : Int) : Nat → Int
  | 0 => 0
  | k + 1 => sumL y k + lastR y (k + 1)
theorem sumL_in {y : Int} (h1 : 1 ≤ y) (h2 : y ≤ 9999) (k : Nat) (hk : k ≤ 12) : sumL y k = daysIn y k := by
  induction k with
  | zero => rfl
  | succ k ih =>
    rw [sumL, daysIn, ih (by omega), show lastR y (k + 1) = lastD y (k + 1) from if_pos ⟨h1, h2, by omega, by omega⟩]
theorem sumL_out {y : Int} (h : y < 1 ∨ 9999 < y) (k : Nat) : sumL y k = 0 := by
  induction k with
  | zero => rfl
  | succ k ih => rw [sumL, ih, show lastR y (k + 1) = 0 from if_neg (fun e => by have h1 := e.1; have h2 := e.2.1; omega)]; omega
theorem lastR_bounds (y m : Int) : 0 ≤ lastR y m ∧ lastR y m ≤ 31 := by
  unfold lastR
  have := lastD_bounds y m
  split <;> omega
theorem sumL_bounds (y : Int) (k : Nat) : 0 ≤ sumL y k ∧ sumL y k ≤ 31 * k := by
  induction k with
  | zero => simp [sumL]
  | succ k ih =>
    have := lastR_bounds y (k + 1)
    rw [sumL]; omega

theorem xDayYear_walk (w : World) (v : Value) (h : Byt w v) :
    Calls Try.prog 5 #[v] w fun e w' => e = .returned (.bool true) ∧ Below w.heap.size w w' := by
  have C0 := hide (drawDayLast_any w v h)
  obtain ⟨ao, n, cap, rfl, hn⟩ := byt_len h
  clear h
  by_cases hl : (1048576 : Int) < n
  · have t0 : decide ((1048576 : Int) < n) = true := by simpa using hl
    go_enter Try.func5, Try.ntmps5
    go_wp2
    go_ret
    exact ⟨rfl, Below.refl _ _⟩
  · have t0 : decide ((1048576 : Int) < n) = false := by simpa using hl
    go_enter Try.func5, Try.ntmps5
    go_wp2_with fail
    refine (unhide C0).mono ?_
    rintro e w1 ⟨y, m, rfl, b1⟩
    clear C0
    have B1 := hide b1
    clear b1
    have L1 := implDayLast_any w1 y m
    have L2 := specDayLast_any w1 y m
    generalize lastR y m = z at *
    have tz : (z != z) = false := by simp
    go_wp2_with fail
    refine (L1).mono ?_
    rintro e w2 ⟨rfl, rfl⟩
    go_wp2_with fail
    refine (L2).mono ?_
    rintro e w2 ⟨rfl, rfl⟩
    go_wp2
    clear L1 L2
    go_loop [5, 6] (fun t i => ∃ j : Nat, j ≤ 12 ∧ t = .int .i64 (sumL y j) ∧ i = .int .i64 ((j : Int) + 1))
      (fun _ i => 13 - (intOf i).toNat)
    case atStart => exact ⟨0, by omega, rfl, by go_num⟩
    case round =>
      obtain ⟨j, hj, rfl, rfl⟩ := hrel
      have hs := sumL_bounds y j
      obtain ⟨hs1, hs2⟩ := hs
      by_cases hlt : j < 12
      · have CL := implDayLast_any w2 y ((j : Int) + 1)
        have hl := lastR_bounds y ((j : Int) + 1)
        obtain ⟨hl1, hl2⟩ := hl
        have HS := hide (show sumL y (j + 1) = sumL y j + lastR y ((j : Int) + 1) from rfl)
        generalize lastR y ((j : Int) + 1) = r at *
        generalize sumL y j = q at *
        go_wp2_with fail
        refine CL.mono ?_
        rintro e w3 ⟨rfl, rfl⟩
        go_wp2
        go_round
        case rel => exact ⟨j + 1, by omega, by rw [unhide HS], by go_num⟩
        case measure => simp [intOf]; omega
      · obtain rfl : j = 12 := by omega
        by_cases hy : 1 ≤ y ∧ y ≤ 9999
        · have ty1 : decide (y < 1) = false := by have := hy.1; simp; omega
          have ty2 : decide (9999 < y) = false := by have := hy.2; simp; omega
          have D1 := implDayOf_any w2 y 2 29
          have D2 := implDayOf_any w2 y 12 31
          have D3 := implDayOf_any w2 y 1 1
          have e1 := leapDay y hy.1 hy.2
          have e2 := ahead_year_days y hy.1 hy.2
          have e3 := daysIn_year y
          have e4 := sumL_in hy.1 hy.2 12 (by omega)
          have hb : ∀ a b c : Int, dayR a b c = 0 ∨ (1 ≤ dayR a b c ∧ dayR a b c ≤ 3652059) := fun a b c => by
            by_cases hk : YM a b ∧ 1 ≤ c ∧ c ≤ lastD a b
            · right; have := (parts_of hk).1; exact ⟨this.1, this.2⟩
            · left; exact ofR_out hk
          have hb2 := hb y 12 31
          have hb3 := hb y 1 1
          have HQ := hide (show sumL y 12 = dayR y 12 31 - dayR y 1 1 + 1 by omega)
          have tq : (sumL y 12 == dayR y 12 31 - dayR y 1 1 + 1) = true := by simpa using unhide HQ
          have t366 : (sumL y 12 == 366) = leapB y := by rw [e4, e3]; cases leapB y <;> simp
          have t365 : leapB y = false → (sumL y 12 == 365) = true := by intro hf; rw [e4, e3, hf]; simp
          clear e2 e3 e4 hb hy HQ
          generalize dayR y 12 31 = o1 at *
          generalize dayR y 1 1 = o2 at *
          generalize dayR y 2 29 = o3 at *
          generalize sumL y 12 = s at *
          have hb4 : -3652060 ≤ o1 - o2 ∧ o1 - o2 ≤ 3652060 := by omega
          obtain ⟨hb5, hb6⟩ := hb4
          clear hb2 hb3
          cases hlp : leapB y with
          | true =>
            rw [hlp] at t366 e1
            clear t365
            go_wp2_with fail
            refine (D1).mono ?_
            rintro e w3 ⟨rfl, rfl⟩
            go_wp2_with fail
            refine (D2).mono ?_
            rintro e w3 ⟨rfl, rfl⟩
            go_wp2_with fail
            refine (D3).mono ?_
            rintro e w3 ⟨rfl, rfl⟩
            go_wp2
            go_ret
            exact ⟨rfl, unhide B1⟩
          | false =>
            rw [hlp] at t366 e1
            have t365' := t365 hlp
            clear t365
            go_wp2_with fail
            refine (D1).mono ?_
            rintro e w3 ⟨rfl, rfl⟩
            go_wp2_with fail
            refine (D2).mono ?_
            rintro e w3 ⟨rfl, rfl⟩
            go_wp2_with fail
            refine (D3).mono ?_
            rintro e w3 ⟨rfl, rfl⟩
            go_wp2
            go_ret
            exact ⟨rfl, unhide B1⟩
        · have e0 : sumL y 12 = 0 := sumL_out (by omega) 12
          have E0 : (sumL y 12 == 0) = true := by simpa using e0
          clear e0
          generalize sumL y 12 = s at *
          by_cases hy1 : y < 1
          · have ty1 : decide (y < 1) = true := by simpa using hy1
            clear hy
            go_wp2
            go_ret
            exact ⟨rfl, unhide B1⟩
          · have ty1 : decide (y < 1) = false := by simpa using hy1
            have ty2 : decide (9999 < y) = true := by simp; omega
            clear hy
            go_wp2
            go_ret
            exact ⟨rfl, unhide B1⟩

end Go.Proofs.Ytieinmfmkimjjaa
