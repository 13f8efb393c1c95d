/- The program's months and days: isLeap, month.last, month.ahead, month.day, monthOf, monthAt, each by its contract. -/
import Derived.Test.YtnfalniijmccjaaDoorProg
import Derived.Test.YtnfalniijmccjaaDoorDayM
import Derived.WalkKit
import Derived.WalkSmall
import Derived.WalkLawsBesides
namespace Go.Proofs.YtnfalniijmccjaaDoor
open Go.RowKit

/-- A fact that the walk is not to see. -/
def DHid (p : Prop) : Prop := p
theorem hid {p : Prop} (h : p) : DHid p := h
theorem unhid {p : Prop} (h : DHid p) : p := h

theorem isLeap_any (w : World) (y : Int) (h0 : 0 ≤ y) : Calls Tryd.prog 104 #[.int .i64 y] w fun e w' => e = .returned (.bool (leapB y)) ∧ w' = w := by
  rcases Bool.eq_false_or_eq_true (y % 4 == 0) with h4 | h4 <;> rcases Bool.eq_false_or_eq_true (y % 100 != 0) with h100 | h100 <;> rcases Bool.eq_false_or_eq_true (y % 400 == 0) with h400 | h400
  all_goals
    rw [show leapB y = _ by unfold leapB; rw [h4, h100, h400]]
    go_enter Tryd.func104, Tryd.ntmps104
    go_wp2
    go_ret
    exact ⟨rfl, rfl⟩

theorem month_cases (k : Nat) : (k : Int) % 12 = 0 ∨ (k : Int) % 12 = 1 ∨ (k : Int) % 12 = 2 ∨ (k : Int) % 12 = 3 ∨ (k : Int) % 12 = 4 ∨ (k : Int) % 12 = 5 ∨ (k : Int) % 12 = 6 ∨ (k : Int) % 12 = 7 ∨ (k : Int) % 12 = 8 ∨ (k : Int) % 12 = 9 ∨ (k : Int) % 12 = 10 ∨ (k : Int) % 12 = 11 := by omega

theorem lastM_at (k : Nat) {j : Int} (h : (k : Int) % 12 = j) : lastM k = lastD ((k : Int) / 12 + 1) (j + 1) := by
  unfold lastM
  rw [show ((k % 12 : Nat) : Int) = j by omega, show ((k / 12 : Nat) : Int) = (k : Int) / 12 by omega]

theorem year_any (w : World) (k : Nat) (hk : k ≤ 200000) : Calls Tryd.prog 66 #[.int .i64 k] w fun e w' => e = .returned (.int .i64 ((k : Int) / 12 + 1)) ∧ w' = w := by
  go_enter Tryd.func66, Tryd.ntmps66
  go_wp2
  go_ret
  exact ⟨rfl, rfl⟩

theorem inYear_any (w : World) (k : Nat) (hk : k ≤ 200000) : Calls Tryd.prog 67 #[.int .i64 k] w fun e w' => e = .returned (.int .i64 ((k : Int) % 12 + 1)) ∧ w' = w := by
  go_enter Tryd.func67, Tryd.ntmps67
  go_wp2
  go_ret
  exact ⟨rfl, rfl⟩

theorem last_any (w : World) (k : Nat) (hk : k ≤ 200000) : Calls Tryd.prog 90 #[.int .i64 k] w fun e w' => e = .returned (.int .i64 (lastM k)) ∧ w' = w := by
  have hy : 0 ≤ (k : Int) / 12 + 1 := by omega
  have C0 := inYear_any w k hk
  have C1 := year_any w k hk
  rcases month_cases k with h | h | h | h | h | h | h | h | h | h | h | h
  case inr.inl =>
    rw [lastM_at k h]
    rw [h] at C0
    have C2 := isLeap_any w _ hy
    rw [show lastD ((k : Int) / 12 + 1) (1 + 1) = if leapB ((k : Int) / 12 + 1) then 29 else 28 by rfl]
    generalize leapB ((k : Int) / 12 + 1) = lp at *
    clear h
    go_enter Tryd.func90, Tryd.ntmps90
    go_wp2_with fail
    refine C0.mono ?_
    rintro e w1 ⟨rfl, rfl⟩
    go_wp2_with fail
    refine C1.mono ?_
    rintro e w2 ⟨rfl, rfl⟩
    go_wp2_with fail
    refine C2.mono ?_
    rintro e w2 ⟨rfl, rfl⟩
    cases lp
    · go_wp2
      go_ret
      exact ⟨rfl, rfl⟩
    · go_wp2
      go_ret
      exact ⟨rfl, rfl⟩
  all_goals
    rw [lastM_at k h]
    rw [h] at C0
    clear h
    go_enter Tryd.func90, Tryd.ntmps90
    go_wp2_with fail
    refine C0.mono ?_
    rintro e w1 ⟨rfl, rfl⟩
    go_wp2
    go_ret
    exact ⟨rfl, rfl⟩

theorem daysIn_step (y : Int) (j : Nat) : daysIn y (j + 1) = daysIn y j + lastD y ((j : Int) + 1) := rfl

theorem ahead_at (k : Nat) : ahead k = before ((k : Int) / 12) + daysIn ((k : Int) / 12 + 1) (k % 12) := by
  unfold ahead
  rw [show ((k / 12 : Nat) : Int) = (k : Int) / 12 by omega]

theorem lastM_in (k j : Nat) (h : j < 12) : lastM (12 * (k / 12) + j) = lastD ((k : Int) / 12 + 1) ((j : Int) + 1) := by
  unfold lastM
  rw [show (12 * (k / 12) + j) / 12 = k / 12 by omega, show (12 * (k / 12) + j) % 12 = j by omega, show ((k / 12 : Nat) : Int) = (k : Int) / 12 by omega]

theorem daysIn_bounds (y : Int) (j : Nat) : 0 ≤ daysIn y j ∧ daysIn y j ≤ 31 * j := by
  induction j with
  | zero => simp [daysIn]
  | succ j ih =>
    rw [daysIn_step]
    have := lastD_bounds y ((j : Int) + 1)
    omega

theorem ahead_any (w : World) (k : Nat) (hk : k ≤ 200000) : Calls Tryd.prog 68 #[.int .i64 k] w fun e w' => e = .returned (.int .i64 (ahead k)) ∧ w' = w := by
  have C1 := year_any w k hk
  have hb : 0 ≤ before ((k : Int) / 12) ∧ before ((k : Int) / 12) ≤ 7000000 := by unfold before; omega
  obtain ⟨hb1, hb2⟩ := hb
  have eb : 365 * ((k : Int) / 12) + (k : Int) / 12 / 4 - (k : Int) / 12 / 100 + (k : Int) / 12 / 400 = before ((k : Int) / 12) := rfl
  go_enter Tryd.func68, Tryd.ntmps68
  go_wp2_with fail
  refine C1.mono ?_
  rintro e w1 ⟨rfl, rfl⟩
  go_wp2
  clear eb C1
  go_loop [4, 5] (fun t i => ∃ j : Nat, j ≤ k % 12 ∧ t = .int .i64 (before ((k : Int) / 12) + daysIn ((k : Int) / 12 + 1) j) ∧ i = .int .i64 (12 * (k / 12) + j : Nat))
    (fun _ i => k - (intOf i).toNat)
  case atStart => exact ⟨0, Nat.zero_le _, by simp [daysIn], by go_num⟩
  case round =>
    obtain ⟨j, hj, rfl, rfl⟩ := hrel
    have hd := daysIn_bounds ((k : Int) / 12 + 1) j
    obtain ⟨hd1, hd2⟩ := hd
    have CL := last_any w1 (12 * (k / 12) + j) (by omega)
    by_cases hlt : j < k % 12
    · have hl := lastM_in k j (by omega)
      have hs := daysIn_step ((k : Int) / 12 + 1) j
      have hB := hid hs
      have hz := lastM_bounds (12 * (k / 12) + j)
      obtain ⟨hz1, hz2⟩ := hz
      have HL := hid hl
      clear hs hl
      generalize lastM (12 * (k / 12) + j) = z at *
      generalize daysIn ((k : Int) / 12 + 1) j = y at *
      go_wp2_with fail
      refine CL.mono ?_
      rintro e w2 ⟨rfl, rfl⟩
      go_wp2
      go_round
      case rel => exact ⟨j + 1, by omega, by rw [unhid hB, ← unhid HL]; go_num, by go_num⟩
      case measure => simp [intOf]; omega
    · have e : ahead k = before ((k : Int) / 12) + daysIn ((k : Int) / 12 + 1) j := by
        rw [ahead_at, show k % 12 = j by omega]
      have E := hid e
      clear e
      generalize daysIn ((k : Int) / 12 + 1) j = y at *
      go_wp2
      go_ret
      exact ⟨by rw [unhid E]; rfl, rfl⟩

end Go.Proofs.YtnfalniijmccjaaDoor
