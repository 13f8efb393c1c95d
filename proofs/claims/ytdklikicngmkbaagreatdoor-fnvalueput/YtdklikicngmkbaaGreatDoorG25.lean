/- A day of a month; a month of a year. DayOf of the program and of the specification, by contracts. DayGet of the program and of the specification, by contracts. -/
import Derived.Test.YtdklikicngmkbaaGreatDoorG11
import Derived.Test.YtdklikicngmkbaaGreatDoorG12
import Derived.Test.YtdklikicngmkbaaGreatDoorG14
import Derived.Deep.RegionHeld3
namespace Go.Proofs.YtdklikicngmkbaaGreatDoor
open Go.RowKit

theorem day_any (w : World) (k : Nat) (d : Int) (hk : k ≤ 119988) (_h0 : 0 ≤ d) (_h1 : d ≤ 31) :
    Calls Tryz.prog 166 #[.int .i64 k, .int .i64 d] w fun e w' => e = .returned (.int .i64 (dayIn k d)) ∧ w' = w := by
  have C1 := ahead_any w k (by omega)
  have C2 := last_any w k (by omega)
  have hz := lastM_bounds k
  have ha := ahead_big hk
  unfold dayIn
  generalize lastM k = z at *
  generalize ahead k = a at *
  obtain ⟨hz1, hz2⟩ := hz
  obtain ⟨ha1, ha2⟩ := ha
  by_cases hd : d ≤ z
  · rw [Int.min_eq_left hd]
    go_enter Tryz.func166, Tryz.ntmps166
    go_wp2_with fail
    refine C1.mono ?_
    rintro e w1 ⟨rfl, rfl⟩
    go_wp2_with fail
    refine C2.mono ?_
    rintro e w2 ⟨rfl, rfl⟩
    go_wp2
    go_ret
    first | exact ⟨rfl, rfl⟩ | (refine ⟨?_, rfl⟩; show Ending.returned (.int .i64 (_ + min d z)) = _; rw [Int.min_eq_left hd])
  · rw [Int.min_eq_right (by omega)]
    go_enter Tryz.func166, Tryz.ntmps166
    go_wp2_with fail
    refine C1.mono ?_
    rintro e w1 ⟨rfl, rfl⟩
    go_wp2_with fail
    refine C2.mono ?_
    rintro e w2 ⟨rfl, rfl⟩
    go_wp2
    go_ret
    first | exact ⟨rfl, rfl⟩ | (refine ⟨?_, rfl⟩; show Ending.returned (.int .i64 (_ + min d z)) = _; rw [Int.min_eq_right (by omega)])

theorem monthOf_any (w : World) (y m : Int) :
    Calls Tryz.prog 165 #[.int .i64 y, .int .i64 m] w fun e w' => e = .returned (.tuple #[.int .i64 (if 1 ≤ y ∧ y ≤ 9999 ∧ 1 ≤ m ∧ m ≤ 12 then 12 * (y - 1) + m - 1 else 0), .bool (decide (1 ≤ y ∧ y ≤ 9999 ∧ 1 ≤ m ∧ m ≤ 12))]) ∧ w' = w := by
  by_cases h : 1 ≤ y ∧ y ≤ 9999 ∧ 1 ≤ m ∧ m ≤ 12
  · rw [if_pos h, decide_eq_true h]
    obtain ⟨h1, h2, h3, h4⟩ := h
    have t1 : decide (y < 1) = false := by simp; omega
    have t2 : decide (9999 < y) = false := by simp; omega
    have t3 : decide (m < 1) = false := by simp; omega
    have t4 : decide (12 < m) = false := by simp; omega
    go_enter Tryz.func165, Tryz.ntmps165
    go_wp2
    go_ret2
    exact ⟨rfl, rfl⟩
  · rw [if_neg h, decide_eq_false h]
    by_cases h1 : y < 1
    · clear h
      have t1 : decide (y < 1) = true := by simp; omega
      go_enter Tryz.func165, Tryz.ntmps165
      go_wp2
      go_ret2
      exact ⟨rfl, rfl⟩
    · have t1 : decide (y < 1) = false := by simp; omega
      by_cases h2 : 9999 < y
      · clear h
        have t2 : decide (9999 < y) = true := by simp; omega
        go_enter Tryz.func165, Tryz.ntmps165
        go_wp2
        go_ret2
        exact ⟨rfl, rfl⟩
      · have t2 : decide (9999 < y) = false := by simp; omega
        by_cases h3 : m < 1
        · clear h
          have t3 : decide (m < 1) = true := by simp; omega
          go_enter Tryz.func165, Tryz.ntmps165
          go_wp2
          go_ret2
          exact ⟨rfl, rfl⟩
        · have t3 : decide (m < 1) = false := by simp; omega
          have t4 : decide (12 < m) = true := by simp; omega
          clear h
          go_enter Tryz.func165, Tryz.ntmps165
          go_wp2
          go_ret2
          exact ⟨rfl, rfl⟩

end Go.Proofs.YtdklikicngmkbaaGreatDoor

namespace Go.Proofs.YtdklikicngmkbaaGreatDoor
open Go.RowKit


theorem monthOf_in (w : World) {y m : Int} (h : YM y m) : Calls Tryz.prog 165 #[.int .i64 y, .int .i64 m] w fun e w' => e = .returned (.tuple #[.int .i64 (moOf y m : Nat), .bool true]) ∧ w' = w := by
  have C := monthOf_any w y m
  rw [if_pos (show 1 ≤ y ∧ y ≤ 9999 ∧ 1 ≤ m ∧ m ≤ 12 from h), decide_eq_true (show 1 ≤ y ∧ y ≤ 9999 ∧ 1 ≤ m ∧ m ≤ 12 from h), ← moOf_cast h] at C
  exact C

theorem monthOf_out (w : World) {y m : Int} (h : ¬ YM y m) : Calls Tryz.prog 165 #[.int .i64 y, .int .i64 m] w fun e w' => e = .returned (.tuple #[.int .i64 0, .bool false]) ∧ w' = w := by
  have C := monthOf_any w y m
  rw [if_neg (show ¬ (1 ≤ y ∧ y ≤ 9999 ∧ 1 ≤ m ∧ m ≤ 12) from h), decide_eq_false (show ¬ (1 ≤ y ∧ y ≤ 9999 ∧ 1 ≤ m ∧ m ≤ 12) from h)] at C
  exact C

theorem implDayLast_any (w : World) (y m : Int) : Calls Tryz.prog 164 #[.int .i64 y, .int .i64 m] w fun e w' => e = .returned (.int .i64 (lastR y m)) ∧ w' = w := by
  by_cases h : YM y m
  · rw [show lastR y m = lastD y m from if_pos h]
    have C1 := monthOf_in w h
    have C2 := last_any w (moOf y m) (by have := moOf_lt h; omega)
    rw [moOf_last h] at C2
    generalize moOf y m = k at *
    generalize lastD y m = z at *
    clear h
    go_enter Tryz.func164, Tryz.ntmps164
    go_wp2_with fail
    refine C1.mono ?_
    rintro e w1 ⟨rfl, rfl⟩
    go_wp2_with fail
    refine C2.mono ?_
    rintro e w1 ⟨rfl, rfl⟩
    go_wp2
    go_ret
    exact ⟨rfl, rfl⟩
  · rw [show lastR y m = 0 from if_neg h]
    have C1 := monthOf_out w h
    clear h
    go_enter Tryz.func164, Tryz.ntmps164
    go_wp2_with fail
    refine C1.mono ?_
    rintro e w1 ⟨rfl, rfl⟩
    go_wp2
    go_ret
    exact ⟨rfl, rfl⟩

theorem implDayOf_any (w : World) (y m d : Int) : Calls Tryz.prog 115 #[.int .i64 y, .int .i64 m, .int .i64 d] w fun e w' => e = .returned (.int .i64 (dayR y m d)) ∧ w' = w := by
  have C1 := implDayLast_any w y m
  by_cases h0 : d < 1
  · rw [show dayR y m d = 0 from if_neg (fun h => by have := h.2.1; omega)]
    have h0' : decide (d < 1) = true := by simpa using h0
    go_enter Tryz.func115, Tryz.ntmps115
    (try (go_wp2_with fail))
    (try (refine C1.mono ?_))
    (try (rintro e w1 ⟨rfl, rfl⟩))
    go_wp2
    go_ret
    exact ⟨rfl, rfl⟩
  · have h0' : decide (d < 1) = false := by simpa using h0
    by_cases h1 : lastR y m < d
    · rw [show dayR y m d = 0 from if_neg (fun h => by unfold lastR at h1; rw [if_pos h.1] at h1; have := h.2.2; omega)]
      have h1' : decide (lastR y m < d) = true := by simpa using h1
      generalize lastR y m = z at *
      go_enter Tryz.func115, Tryz.ntmps115
      go_wp2_with fail
      refine C1.mono ?_
      rintro e w1 ⟨rfl, rfl⟩
      go_wp2
      go_ret
      exact ⟨rfl, rfl⟩
    · have h1' : decide (lastR y m < d) = false := by simpa using h1
      have h : YM y m := Classical.byContradiction fun h => by unfold lastR at h1; rw [if_neg h] at h1; omega
      have hl : d ≤ lastD y m := by unfold lastR at h1; rw [if_pos h] at h1; omega
      rw [show dayR y m d = ahead (moOf y m) + d from if_pos ⟨h, by omega, hl⟩]
      have hb := lastD_bounds y m
      have C2 := monthOf_in w h
      have C3 := day_any w (moOf y m) d (by have := moOf_lt h; omega) (by omega) (by omega)
      unfold dayIn at C3
      rw [moOf_last h, Int.min_eq_left hl] at C3
      generalize lastR y m = z at *
      generalize ahead (moOf y m) + d = r at *
      generalize moOf y m = k at *
      clear h hl hb
      go_enter Tryz.func115, Tryz.ntmps115
      go_wp2_with fail
      refine C1.mono ?_
      rintro e w1 ⟨rfl, rfl⟩
      go_wp2_with fail
      refine C2.mono ?_
      rintro e w1 ⟨rfl, rfl⟩
      go_wp2_with fail
      refine C3.mono ?_
      rintro e w1 ⟨rfl, rfl⟩
      go_wp2
      go_ret
      exact ⟨rfl, rfl⟩

theorem specDayOf_any (w : World) (y m d : Int) : Calls Tryz.prog 129 #[.int .i64 y, .int .i64 m, .int .i64 d] w fun e w' => e = .returned (.int .i64 (dayR y m d)) ∧ w' = w := by
  have C1 := in_any w y 1 9999
  have C2 := in_any w m 1 12
  by_cases h1 : 1 ≤ y ∧ y ≤ 9999
  · rw [decide_eq_true h1] at C1
    by_cases h2 : 1 ≤ m ∧ m ≤ 12
    · rw [decide_eq_true h2] at C2
      have h : YM y m := ⟨h1.1, h1.2, h2.1, h2.2⟩
      have C3 := specLast_any w y m (by omega) h2.1 h2.2
      by_cases h3 : d < 1
      · rw [show dayR y m d = 0 from if_neg (fun h => by have := h.2.1; omega)]
        have h3' : decide (d < 1) = true := by simpa using h3
        clear h h1 h2
        go_enter Tryz.func129, Tryz.ntmps129
        go_wp2_with fail
        refine C1.mono ?_
        rintro e w1 ⟨rfl, rfl⟩
        go_wp2_with fail
        refine C2.mono ?_
        rintro e w1 ⟨rfl, rfl⟩
        go_wp2
        go_ret
        exact ⟨rfl, rfl⟩
      · have h3' : decide (d < 1) = false := by simpa using h3
        by_cases h4 : lastD y m < d
        · rw [show dayR y m d = 0 from if_neg (fun h => by have := h.2.2; omega)]
          have h4' : decide (lastD y m < d) = true := by simpa using h4
          generalize lastD y m = z at *
          clear h h1 h2
          go_enter Tryz.func129, Tryz.ntmps129
          go_wp2_with fail
          refine C1.mono ?_
          rintro e w1 ⟨rfl, rfl⟩
          go_wp2_with fail
          refine C2.mono ?_
          rintro e w1 ⟨rfl, rfl⟩
          go_wp2_with fail
          refine C3.mono ?_
          rintro e w1 ⟨rfl, rfl⟩
          go_wp2
          go_ret
          exact ⟨rfl, rfl⟩
        · have h4' : decide (lastD y m < d) = false := by simpa using h4
          rw [show dayR y m d = ahead (moOf y m) + d from if_pos ⟨h, by omega, by omega⟩]
          have hk := moOf_lt h
          have hc := moOf_cast h
          have hb := lastD_bounds y m
          have C4 := specOf_any w (moOf y m) y m d (by omega) (by omega) (by omega) (by omega) (by omega)
          generalize lastD y m = z at *
          generalize ahead (moOf y m) + d = r at *
          clear h h1 h2 hk hc hb
          go_enter Tryz.func129, Tryz.ntmps129
          go_wp2_with fail
          refine C1.mono ?_
          rintro e w1 ⟨rfl, rfl⟩
          go_wp2_with fail
          refine C2.mono ?_
          rintro e w1 ⟨rfl, rfl⟩
          go_wp2_with fail
          refine C3.mono ?_
          rintro e w1 ⟨rfl, rfl⟩
          go_wp2_with fail
          refine C4.mono ?_
          rintro e w1 ⟨rfl, rfl⟩
          go_wp2
          go_ret
          exact ⟨rfl, rfl⟩
    · rw [decide_eq_false h2] at C2
      rw [show dayR y m d = 0 from if_neg (fun h => h2 ⟨h.1.2.2.1, h.1.2.2.2⟩)]
      clear h1 h2
      go_enter Tryz.func129, Tryz.ntmps129
      go_wp2_with fail
      refine C1.mono ?_
      rintro e w1 ⟨rfl, rfl⟩
      go_wp2_with fail
      refine C2.mono ?_
      rintro e w1 ⟨rfl, rfl⟩
      go_wp2
      go_ret
      exact ⟨rfl, rfl⟩
  · rw [decide_eq_false h1] at C1
    rw [show dayR y m d = 0 from if_neg (fun h => h1 ⟨h.1.1, h.1.2.1⟩)]
    clear h1
    go_enter Tryz.func129, Tryz.ntmps129
    go_wp2_with fail
    refine C1.mono ?_
    rintro e w1 ⟨rfl, rfl⟩
    go_wp2
    go_ret
    exact ⟨rfl, rfl⟩

end Go.Proofs.YtdklikicngmkbaaGreatDoor

namespace Go.Proofs.YtdklikicngmkbaaGreatDoor
open Go.RowKit
set_option maxRecDepth 100000

/-- Whether figures stand from a place on. -/
def areFB (s : ByteArray) (f m : Nat) : Bool := (List.range m).all fun j => decide (48 ≤ bt s (f + j)) && decide (bt s (f + j) ≤ 57)

theorem areFB_iff {s : ByteArray} {f m : Nat} : areFB s f m = true ↔ AreF s f m := by
  unfold areFB AreF
  rw [List.all_eq_true]
  constructor
  · intro h j hj
    simpa using h j (List.mem_range.2 hj)
  · intro h j hj
    simpa using h j (List.mem_range.1 hj)

/-- What l3Figs answers. -/
def figR (s : ByteArray) (f m : Nat) : Int := if areFB s f m = true then figV s f m else -1

theorem l3Figs_any (w : World) (s : ByteArray) (f m : Nat) (hs : s.size ≤ maxLen) (hm : m ≤ 4) (hf : f + m ≤ s.size) :
    Calls Tryz.prog 130 #[.string s, .int .i64 f, .int .i64 m] w fun e w' => e = .returned (.int .i64 (figR s f m)) ∧ w' = w := by
  unfold figR
  by_cases h : areFB s f m = true
  · rw [if_pos h]; exact l3Figs_yes w s f m hs hm hf (areFB_iff.1 h)
  · rw [if_neg h]; exact l3Figs_no w s f m hs hm hf (fun k => h (areFB_iff.2 k))

/-- Whether a text has the form of a day's. -/
def dayFB (s : ByteArray) : Bool := decide (s.size = 10) && decide (bt s 4 = 45) && decide (bt s 7 = 45) && areFB s 0 4 && areFB s 5 2 && areFB s 8 2

theorem dayFB_iff {s : ByteArray} : dayFB s = true ↔ DayForm s := by
  unfold dayFB
  simp only [Bool.and_eq_true, decide_eq_true_eq, areFB_iff]
  exact ⟨fun ⟨⟨⟨⟨⟨a, b⟩, c⟩, d⟩, e⟩, f⟩ => ⟨a, b, c, d, e, f⟩, fun ⟨a, b, c, d, e, f⟩ => ⟨⟨⟨⟨⟨a, b⟩, c⟩, d⟩, e⟩, f⟩⟩

/-- The day that a text is; 0, if it is none. -/
def dayG (s : ByteArray) : Int := if dayFB s = true then dayF s else 0

theorem figR_day {s : ByteArray} (h10 : s.size = 10) (h4 : bt s 4 = 45) (h7 : bt s 7 = 45) : dayR (figR s 0 4) (figR s 5 2) (figR s 8 2) = dayG s := by
  unfold dayG figR
  cases h1 : areFB s 0 4
  · have hk : dayFB s = false := by unfold dayFB; rw [h1]; simp
    rw [hk]
    simp only [Bool.false_eq_true, if_false]
    exact ofR_out (fun h => by have := h.1.1; omega)
  cases h2 : areFB s 5 2
  · have hk : dayFB s = false := by unfold dayFB; rw [h2]; simp
    rw [hk]
    simp only [Bool.false_eq_true, if_false]
    exact ofR_out (fun h => by have := h.1.2.2.1; omega)
  cases h3 : areFB s 8 2
  · have hk : dayFB s = false := by unfold dayFB; rw [h3]; simp
    rw [hk]
    simp only [Bool.false_eq_true, if_false]
    exact ofR_out (fun h => by have := h.2.1; omega)
  have hk : dayFB s = true := by unfold dayFB; rw [h1, h2, h3]; simp [h10, h4, h7]
  rw [hk]
  simp only [if_true]
  rfl

theorem dayG_is {s : ByteArray} (h : dayG s ≠ 0) : IsDayT s (dayG s) := by
  unfold dayG at *
  by_cases k : dayFB s = true
  · rw [if_pos k] at *
    exact form_day (dayFB_iff.1 k) h
  · rw [if_neg k] at h
    exact absurd rfl h

theorem dayG_of {s : ByteArray} {n : Int} (h : IsDayT s n) : dayG s = n := by
  obtain ⟨h1, rfl⟩ := h
  obtain ⟨f, e1, e2, e3⟩ := dayT_form h1
  unfold dayG
  rw [if_pos (dayFB_iff.2 f)]
  unfold dayF
  rw [e1, e2, e3]
  exact ofR_parts h1

theorem dayG_bounds (s : ByteArray) : 0 ≤ dayG s ∧ dayG s ≤ 3652059 := by
  by_cases h : dayG s = 0
  · omega
  · have := (dayG_is h).1
    unfold IsDay at this
    omega

theorem l3Get_any (w : World) (s : ByteArray) (hs : s.size ≤ maxLen) :
    Calls Tryz.prog 80 #[.string s] w fun e w' => e = .returned (.int .i64 (dayG s)) ∧ w' = w := by
  by_cases h10 : s.size = 10
  · have h4 : 4 < s.size := by omega
    have h7 : 7 < s.size := by omega
    have C1 := hide (l3Figs_any w s 0 4 hs (by omega) (by omega))
    have C2 := hide (l3Figs_any w s 5 2 hs (by omega) (by omega))
    have C3 := hide (l3Figs_any w s 8 2 hs (by omega) (by omega))
    have CD := hide (specDayOf_any w (figR s 0 4) (figR s 5 2) (figR s 8 2))
    have E := hide (fun a b => figR_day (s := s) h10 a b)
    have B4 := hide (bt_at h4)
    have B7 := hide (bt_at h7)
    have k10 : ((s.size : Int) != 10) = false := by simp [h10]
    have No4 := hide (show bt s 4 ≠ 45 → dayG s = 0 from fun k => if_neg (by unfold dayFB; simp [k]))
    have No7 := hide (show bt s 7 ≠ 45 → dayG s = 0 from fun k => if_neg (by unfold dayFB; simp [k]))
    obtain ⟨a, ha⟩ : ∃ a, s[4].toNat = a := ⟨_, rfl⟩
    obtain ⟨b, hb⟩ : ∃ b, s[7].toNat = b := ⟨_, rfl⟩
    clear h10
    by_cases ka : a = 45
    · have ka2 : ((a : Int) != 45) = false := by simp [ka]
      by_cases kb : b = 45
      · have kb2 : ((b : Int) != 45) = false := by simp [kb]
        have E2 := hide (unhide E (by rw [unhide B4, ha, ka]) (by rw [unhide B7, hb, kb]))
        clear E No4 No7 ka kb B4 B7
        go_enter Tryz.func80, Tryz.ntmps80
        go_wp2_with fail
        refine (unhide C1).mono ?_
        rintro e w1 ⟨rfl, rfl⟩
        go_wp2_with fail
        refine (unhide C2).mono ?_
        rintro e w2 ⟨rfl, rfl⟩
        go_wp2_with fail
        refine (unhide C3).mono ?_
        rintro e w3 ⟨rfl, rfl⟩
        go_wp2_with fail
        refine (unhide CD).mono ?_
        rintro e w4 ⟨rfl, rfl⟩
        go_wp2
        go_ret
        exact ⟨congrArg (fun k : Int => Ending.returned (.int .i64 k)) (unhide E2), rfl⟩
      · have kb2 : ((b : Int) != 45) = true := by simp; omega
        have E2 := hide (unhide No7 (by rw [unhide B7, hb]; exact kb))
        clear E No4 No7 ka kb B4 B7 C1 C2 C3 CD
        go_enter Tryz.func80, Tryz.ntmps80
        go_wp2
        go_ret
        exact ⟨congrArg (fun k : Int => Ending.returned (.int .i64 k)) (unhide E2).symm, rfl⟩
    · have ka2 : ((a : Int) != 45) = true := by simp; omega
      have E2 := hide (unhide No4 (by rw [unhide B4, ha]; exact ka))
      clear E No4 No7 ka B4 B7 C1 C2 C3 CD
      go_enter Tryz.func80, Tryz.ntmps80
      go_wp2
      go_ret
      exact ⟨congrArg (fun k : Int => Ending.returned (.int .i64 k)) (unhide E2).symm, rfl⟩
  · have k10 : ((s.size : Int) != 10) = true := by simp; omega
    have E2 := hide (show dayG s = 0 from if_neg (by unfold dayFB; simp [h10]))
    clear h10
    go_enter Tryz.func80, Tryz.ntmps80
    go_wp2
    go_ret
    exact ⟨congrArg (fun k : Int => Ending.returned (.int .i64 k)) (unhide E2).symm, rfl⟩

/-- What the program makes of the three parts of ten bytes. -/
def dayI (s : ByteArray) : Int := dayR (numB (s.data.toList.take 4)) (numB ((s.data.toList.drop 5).take 2)) (numB ((s.data.toList.drop 8).take 2))

theorem dayI_form {s : ByteArray} (h : DayForm s) : dayI s = dayF s := by
  obtain ⟨a, b, c, d, e, f, g, i, j, k, hs⟩ := list10 h.size
  unfold dayI dayF
  rw [hs]
  simp only [List.take_succ_cons, List.take_zero, List.drop_succ_cons, List.drop_zero]
  have y0 := h.y 0 (by omega)
  have y1 := h.y 1 (by omega)
  have y2 := h.y 2 (by omega)
  have y3 := h.y 3 (by omega)
  have m0 := h.m 0 (by omega)
  have m1 := h.m 1 (by omega)
  have d0 := h.d 0 (by omega)
  have d1 := h.d 1 (by omega)
  have b0 := bt_list hs 0 (by simp)
  have b1 := bt_list hs 1 (by simp)
  have b2 := bt_list hs 2 (by simp)
  have b3 := bt_list hs 3 (by simp)
  have b5 := bt_list hs 5 (by simp)
  have b6 := bt_list hs 6 (by simp)
  have b8 := bt_list hs 8 (by simp)
  have b9 := bt_list hs 9 (by simp)
  simp only [List.getElem_cons_zero, List.getElem_cons_succ] at b0 b1 b2 b3 b5 b6 b8 b9
  simp only [Nat.zero_add, Nat.add_zero, Nat.reduceAdd] at y0 y1 y2 y3 m0 m1 d0 d1
  simp only [figV, Nat.zero_add, Nat.add_zero, Nat.reduceAdd]
  rw [b0] at y0 ⊢
  rw [b1] at y1 ⊢
  rw [b2] at y2 ⊢
  rw [b3] at y3 ⊢
  rw [b5] at m0 ⊢
  rw [b6] at m1 ⊢
  rw [b8] at d0 ⊢
  rw [b9] at d1 ⊢
  rw [numB_4 y0.1 y0.2 y1.1 y1.2 y2.1 y2.2 y3.1 y3.2, numB_2 m0.1 m0.2 m1.1 m1.2, numB_2 d0.1 d0.2 d1.1 d1.2]
  simp only [Nat.zero_mul, Nat.zero_add]

theorem dayPutR_size (n : Int) (h : (dayPutR n).size = 10) : IsDay n ∧ dayPutR n = dayT n := by
  unfold dayPutR at *
  by_cases k : IsDay n
  · rw [if_pos k]; exact ⟨k, rfl⟩
  · rw [if_neg k] at h
    cases h

/-- The program's way: what it makes of the parts is held against the text. -/
theorem dayI_G {s : ByteArray} (h : s.size = 10) : (dayPutR (dayI s) = s → dayI s = dayG s ∧ 0 < dayG s) ∧ (dayPutR (dayI s) ≠ s → dayG s = 0) := by
  constructor
  · intro e
    obtain ⟨k1, k2⟩ := dayPutR_size (dayI s) (by rw [e]; exact h)
    have := dayG_of (s := s) (n := dayI s) ⟨k1, k2 ▸ e⟩
    unfold IsDay at k1
    exact ⟨this.symm, by omega⟩
  · intro e
    apply Classical.byContradiction
    intro k
    have hT := dayG_is k
    obtain ⟨f, -⟩ := dayT_form hT.1
    rw [hT.2] at f
    apply e
    have : dayG s = dayF s := if_pos (dayFB_iff.2 f)
    rw [dayI_form f, ← this]
    unfold dayPutR
    rw [if_pos hT.1]
    exact hT.2

theorem day_ret {z g : Int} (h : z = g ∧ 0 < g) : Ending.returned (.tuple #[.int .i64 z, .bool true]) = Ending.returned (.tuple #[.int .i64 g, .bool (decide (0 < g))]) := by
  obtain ⟨rfl, k⟩ := h
  rw [decide_eq_true k]

theorem day_ret0 {g : Int} (h : g = 0) : Ending.returned (.tuple #[.int .i64 0, .bool false]) = Ending.returned (.tuple #[.int .i64 g, .bool (decide (0 < g))]) := by
  subst h
  rfl

set_option maxHeartbeats 1000000 in
theorem implDayGet_any (w : World) (s : ByteArray) (tt : Tab w) (he : Er w) :
    Calls Tryz.prog 74 #[.string s] w fun e w' => e = .returned (.tuple #[.int .i64 (dayG s), .bool (decide (0 < dayG s))]) ∧ Below w.heap.size w w' := by
  by_cases h10 : s.size = 10
  · have CN := hide (fun W x (hx : x.size ≤ 281474976710656) (b : Below w.heap.size w W) => numberOf_any W x hx (he.later b))
    have CD := hide (fun W => implDayOf_any W)
    have CP := hide (fun W (b : Below w.heap.size w W) => implDayPut_any W (dayI s) (tt.later b))
    have HG := hide (dayI_G h10)
    have k10 : ((s.size : Int) != 10) = false := by simp [h10]
    unfold dayI at CP HG
    have l5 : 7 ≤ s.size := by omega
    have l8 : 8 ≤ s.size := by omega
    have h10' : s.size = 10 := h10
    clear h10
    go_enter Tryz.func74, Tryz.ntmps74
    go_wp2_with fail
    go_region_held3 (fun w' => Below w.heap.size w w')
      ((first | exact (Below.refl _ _).drew | assumption))
      (first
        | (go_at_call 116; refine (unhide CN _ _ ?_ ?_).mono ?_; (simp; omega); assumption; rintro e w1 ⟨rfl, b1⟩; have B1 : Below w.heap.size w w1 := (show Below w.heap.size w _ from by assumption).trans (b1.mono (Below.size (show Below w.heap.size w _ from by assumption))))
        | (go_at_call 115; refine (unhide CD _ _ _ _).mono ?_; rintro e w2 ⟨rfl, rfl⟩))
    have B3 := B1
    clear B1 b1
    go_wp2_with fail
    refine (unhide CP _ B3).mono ?_
    rintro e w5 ⟨rfl, b5⟩
    have B5 := B3.trans (b5.mono B3.size)
    clear CN CD CP b5 B3
    generalize dayR (numB (s.data.toList.take 4)) (numB ((s.data.toList.drop 5).take 2)) (numB ((s.data.toList.drop 8).take 2)) = z at *
    by_cases e : dayPutR z = s
    · have e2 : ((dayPutR z).toList != s.toList) = false := by simp [e]
      have e3 : ((dayPutR z).toList == s.toList) = true := by simp [e]
      have E := hide ((unhide HG).1 e)
      clear e HG
      go_wp2
      go_ret2
      exact ⟨day_ret (unhide E), B5⟩
    · have e2 : ((dayPutR z).toList != s.toList) = true := by
        rw [bne_iff_ne]
        intro k
        rw [ByteArray.toList_eq, ByteArray.toList_eq] at k
        exact e (ByteArray.ext (Array.toList_inj.1 k))
      have e3 : ((dayPutR z).toList == s.toList) = false := by simpa using e2
      have E := hide ((unhide HG).2 e)
      clear e HG
      go_wp2
      go_ret2
      exact ⟨day_ret0 (unhide E), B5⟩
  · have k10 : ((s.size : Int) != 10) = true := by simp; omega
    have E := hide (show dayG s = 0 from if_neg (by unfold dayFB; simp [h10]))
    clear h10
    go_enter Tryz.func74, Tryz.ntmps74
    go_wp2
    go_ret2
    exact ⟨day_ret0 (unhide E), Below.refl _ _⟩

end Go.Proofs.YtdklikicngmkbaaGreatDoor
