/- DayAdd of the program and of the specification, by the same answers. -/
import Derived.Test.YtieinmfmkimjjaaSpanX
import Derived.Deep.QuietTactic
import Derived.BigQuiet
namespace Go.Proofs.Ytieinmfmkimjjaa
open Go.RowKit

/-- A month of the calendar. -/
@[reducible] def MoIs (k : Int) : Prop := 0 ≤ k ∧ k < 119988
/-- Months, then days later; 0, if there is no such day. -/
def addR (n m d : Int) : Int :=
  if MoIs ((moN n : Int) + m) then (if IsDay (dayIn ((moN n : Int) + m).toNat (dyN n) + d) then dayIn ((moN n : Int) + m).toNat (dyN n) + d else 0) else 0

/-- What DayAdd answers. -/
def sumR (n m d : Int) : Int := if IsDay n ∧ SpanIs m d then addR n m d else 0
/-- The blocks that a call of DayAdd lays. -/
def sumW (w : World) (n m d : Int) : World :=
  if IsDay n then (w.alloc (.cells #[.int .i64 m, .int .i64 d] 36)).alloc (.cells #[.int .i64 m, .int .i64 d] 36)
  else w.alloc (.cells #[.int .i64 m, .int .i64 d] 36)
theorem sumW_below (w : World) (n m d : Int) : Below w.heap.size w (sumW w n m d) := by
  unfold sumW
  split
  · exact ((Below.refl _ _).alloc (Nat.le_refl _) _).alloc (by simp only [World.size_alloc]; omega) _
  · exact (Below.refl _ _).alloc (Nat.le_refl _) _

theorem monthOk_any (w : World) (k : Int) : Calls Try.prog 59 #[.int .i64 k] w fun e w' => e = .returned (.bool (decide (MoIs k))) ∧ w' = w := by
  by_cases h : 0 ≤ k
  · have t1 : decide (0 ≤ k) = true := by simpa using h
    by_cases h2 : k < 119988
    · have t2 : decide (k < 119988) = true := by simpa using h2
      rw [decide_eq_true (show MoIs k from ⟨h, h2⟩)]
      go_enter Try.func59, Try.ntmps59
      go_wp2
      go_ret
      exact ⟨rfl, rfl⟩
    · have t2 : decide (k < 119988) = false := by simpa using h2
      rw [decide_eq_false (show ¬ MoIs k from fun e => h2 e.2)]
      go_enter Try.func59, Try.ntmps59
      go_wp2
      go_ret
      exact ⟨rfl, rfl⟩
  · have t1 : decide (0 ≤ k) = false := by simpa using h
    rw [decide_eq_false (show ¬ MoIs k from fun e => h e.1)]
    go_enter Try.func59, Try.ntmps59
    go_wp2
    go_ret
    exact ⟨rfl, rfl⟩

theorem dayIn_bounds {k : Nat} {d : Int} (hk : k ≤ 119987) (h0 : 1 ≤ d) (h1 : d ≤ 31) : 1 ≤ dayIn k d ∧ dayIn k d ≤ 3652059 := by
  unfold dayIn
  have a := ahead_nonneg k
  have b := ahead_le (show k + 1 ≤ 119988 by omega)
  rw [ahead_end, ahead_succ] at b
  have c := lastM_bounds k
  omega

theorem specAdd_any (w : World) (n m d : Int) (h1 : 1 ≤ n) (h2 : n ≤ 3652059) (hm1 : -120000 ≤ m) (hm2 : m ≤ 120000) (hd1 : -4000000 ≤ d) (hd2 : d ≤ 4000000) :
    Calls Try.prog 61 #[.int .i64 n, .int .i64 m, .int .i64 d] w fun e w' => e = .returned (.int .i64 (addR n m d)) ∧ w' = w := by
  have C1 := specYear_any w n h1 h2
  have C2 := specMonth_any w n h1 h2
  have C3 := specDay_any w n h1 h2
  have hlt := moN_lt h1 h2
  have hdy := dyN_bounds h1 h2
  have hlb := lastM_bounds (moN n)
  unfold addR
  have hY0 : 1 ≤ (moN n : Int) / 12 + 1 := by omega
  have hY1 : (moN n : Int) / 12 + 1 ≤ 9999 := by omega
  have hM0 : 1 ≤ (moN n : Int) % 12 + 1 := by omega
  have hM1 : (moN n : Int) % 12 + 1 ≤ 12 := by omega
  have hK := hid (show (moN n : Int) + m = ((moN n : Int) / 12 + 1) * 12 + ((moN n : Int) % 12 + 1) - 1 + m - 12 by omega)
  have hD1 : 1 ≤ dyN n := hdy.1
  have hD2 : dyN n ≤ 31 := by omega
  clear hdy hlb hlt
  generalize (moN n : Int) / 12 + 1 = Y at *
  generalize (moN n : Int) % 12 + 1 = M at *
  generalize (moN n : Int) + m = k at *
  generalize dyN n = D at *
  by_cases hlo : Y * 12 + M - 1 + m < 12
  · rw [if_neg (fun e : MoIs k => by have := unhid hK; have := e.1; omega)]
    have t1 : decide (Y * 12 + M - 1 + m < 12) = true := by simpa using hlo
    go_enter Try.func61, Try.ntmps61
    go_wp2_with fail
    refine (C1).mono ?_
    rintro e w1 ⟨rfl, rfl⟩
    go_wp2_with fail
    refine (C2).mono ?_
    rintro e w1 ⟨rfl, rfl⟩
    go_wp2
    go_ret
    exact ⟨rfl, rfl⟩
  · have t1 : decide (Y * 12 + M - 1 + m < 12) = false := by simpa using hlo
    by_cases hhi : 9999 < (Y * 12 + M - 1 + m) / 12
    · rw [if_neg (fun e : MoIs k => by have := unhid hK; have := e.2; omega)]
      have t2 : decide (9999 < (Y * 12 + M - 1 + m) / 12) = true := by simpa using hhi
      go_enter Try.func61, Try.ntmps61
      go_wp2_with fail
      refine (C1).mono ?_
      rintro e w1 ⟨rfl, rfl⟩
      go_wp2_with fail
      refine (C2).mono ?_
      rintro e w1 ⟨rfl, rfl⟩
      go_wp2
      go_ret
      exact ⟨rfl, rfl⟩
    · have t2 : decide (9999 < (Y * 12 + M - 1 + m) / 12) = false := by simpa using hhi
      rw [if_pos (show MoIs k from by have := unhid hK; exact ⟨by omega, by omega⟩)]
      obtain ⟨j, hj⟩ : ∃ j : Nat, j = k.toNat := ⟨_, rfl⟩
      have hjk : (j : Int) = Y * 12 + M - 1 + m - 12 := by have := unhid hK; omega
      have hj2 : j ≤ 119987 := by omega
      have C4 := specLast_any w ((Y * 12 + M - 1 + m) / 12) ((Y * 12 + M - 1 + m) % 12 + 1) (by omega) (by omega) (by omega)
      have e4 : lastD ((Y * 12 + M - 1 + m) / 12) ((Y * 12 + M - 1 + m) % 12 + 1) = lastM j := by
        unfold lastM
        rw [show ((j / 12 : Nat) : Int) + 1 = (Y * 12 + M - 1 + m) / 12 by omega, show ((j % 12 : Nat) : Int) + 1 = (Y * 12 + M - 1 + m) % 12 + 1 by omega]
      rw [e4] at C4
      have C5 := fun x hx0 hx1 => specOf_any w j ((Y * 12 + M - 1 + m) / 12) ((Y * 12 + M - 1 + m) % 12 + 1) x (by omega) (by omega) (by omega) hx0 hx1
      have hlb := lastM_bounds j
      have hb := dayIn_bounds hj2 hD1 hD2
      rw [← hj]
      have HX := hid (show dayIn j D = ahead j + min D (lastM j) from rfl)
      generalize dayIn j D = X at *
      have C6 := specIs_any w (X + d)
      have hX1 := hb.1
      have hX2 := hb.2
      clear e4 hj hjk hb
      by_cases hg : lastM j < D
      · have t3 : decide (lastM j < D) = true := by simpa using hg
        have C5' := C5 (lastM j) (by omega) (by omega)
        rw [show ahead j + lastM j = X by rw [unhid HX, Int.min_eq_right (by omega)]] at C5'
        clear C5
        generalize lastM j = z at *
        by_cases hin : IsDay (X + d)
        · rw [if_pos hin]
          rw [decide_eq_true (show 1 ≤ X + d ∧ X + d ≤ 3652059 from hin)] at C6
          clear hin
          go_enter Try.func61, Try.ntmps61
          go_wp2_with fail
          refine (C1).mono ?_
          rintro e w1 ⟨rfl, rfl⟩
          go_wp2_with fail
          refine (C2).mono ?_
          rintro e w1 ⟨rfl, rfl⟩
          go_wp2_with fail
          refine (C3).mono ?_
          rintro e w1 ⟨rfl, rfl⟩
          go_wp2_with fail
          refine (C4).mono ?_
          rintro e w1 ⟨rfl, rfl⟩
          go_wp2_with fail
          refine (C4).mono ?_
          rintro e w1 ⟨rfl, rfl⟩
          go_wp2_with fail
          refine (C5').mono ?_
          rintro e w1 ⟨rfl, rfl⟩
          go_wp2_with fail
          refine (C6).mono ?_
          rintro e w1 ⟨rfl, rfl⟩
          go_wp2
          go_ret
          exact ⟨rfl, rfl⟩
        · rw [if_neg hin]
          rw [decide_eq_false (show ¬ (1 ≤ X + d ∧ X + d ≤ 3652059) from hin)] at C6
          clear hin
          go_enter Try.func61, Try.ntmps61
          go_wp2_with fail
          refine (C1).mono ?_
          rintro e w1 ⟨rfl, rfl⟩
          go_wp2_with fail
          refine (C2).mono ?_
          rintro e w1 ⟨rfl, rfl⟩
          go_wp2_with fail
          refine (C3).mono ?_
          rintro e w1 ⟨rfl, rfl⟩
          go_wp2_with fail
          refine (C4).mono ?_
          rintro e w1 ⟨rfl, rfl⟩
          go_wp2_with fail
          refine (C4).mono ?_
          rintro e w1 ⟨rfl, rfl⟩
          go_wp2_with fail
          refine (C5').mono ?_
          rintro e w1 ⟨rfl, rfl⟩
          go_wp2_with fail
          refine (C6).mono ?_
          rintro e w1 ⟨rfl, rfl⟩
          go_wp2
          go_ret
          exact ⟨rfl, rfl⟩
      · have t3 : decide (lastM j < D) = false := by simpa using hg
        have C5' := C5 D (by omega) (by omega)
        rw [show ahead j + D = X by rw [unhid HX, Int.min_eq_left (by omega)]] at C5'
        clear C5
        generalize lastM j = z at *
        by_cases hin : IsDay (X + d)
        · rw [if_pos hin]
          rw [decide_eq_true (show 1 ≤ X + d ∧ X + d ≤ 3652059 from hin)] at C6
          clear hin
          go_enter Try.func61, Try.ntmps61
          go_wp2_with fail
          refine (C1).mono ?_
          rintro e w1 ⟨rfl, rfl⟩
          go_wp2_with fail
          refine (C2).mono ?_
          rintro e w1 ⟨rfl, rfl⟩
          go_wp2_with fail
          refine (C3).mono ?_
          rintro e w1 ⟨rfl, rfl⟩
          go_wp2_with fail
          refine (C4).mono ?_
          rintro e w1 ⟨rfl, rfl⟩
          go_wp2_with fail
          refine (C5').mono ?_
          rintro e w1 ⟨rfl, rfl⟩
          go_wp2_with fail
          refine (C6).mono ?_
          rintro e w1 ⟨rfl, rfl⟩
          go_wp2
          go_ret
          exact ⟨rfl, rfl⟩
        · rw [if_neg hin]
          rw [decide_eq_false (show ¬ (1 ≤ X + d ∧ X + d ≤ 3652059) from hin)] at C6
          clear hin
          go_enter Try.func61, Try.ntmps61
          go_wp2_with fail
          refine (C1).mono ?_
          rintro e w1 ⟨rfl, rfl⟩
          go_wp2_with fail
          refine (C2).mono ?_
          rintro e w1 ⟨rfl, rfl⟩
          go_wp2_with fail
          refine (C3).mono ?_
          rintro e w1 ⟨rfl, rfl⟩
          go_wp2_with fail
          refine (C4).mono ?_
          rintro e w1 ⟨rfl, rfl⟩
          go_wp2_with fail
          refine (C5').mono ?_
          rintro e w1 ⟨rfl, rfl⟩
          go_wp2_with fail
          refine (C6).mono ?_
          rintro e w1 ⟨rfl, rfl⟩
          go_wp2
          go_ret
          exact ⟨rfl, rfl⟩

set_option maxHeartbeats 2000000 in
theorem implDayAdd_any (w : World) (n m d : Int) : Calls Try.prog 24 #[.int .i64 n, .agg #[.int .i64 m, .int .i64 d]] w fun e w' => e = .returned (.tuple #[.int .i64 (sumR n m d), .bool (decide (0 < sumR n m d))]) ∧ Below w.heap.size w w' := by
  have C0 := fun W => dayOk_any W n
  have C1 := fun W => implSpanOk_any W m d
  by_cases h : IsDay n
  · rw [decide_eq_true (show 1 ≤ n ∧ n ≤ 3652059 from h)] at C0
    by_cases hs : SpanIs m d
    · rw [decide_eq_true hs] at C1
      rw [show sumR n m d = addR n m d from if_pos ⟨h, hs⟩]
      have hlt := moN_lt h.1 h.2
      have hdy := dyN_bounds h.1 h.2
      have hlb := lastM_bounds (moN n)
      have C2 := fun W => monthAt_any W n h.1 h.2
      have C3 := fun W => monthOk_any W ((moN n : Int) + m)
      have C4 := fun W => ahead_any W (moN n) (by omega)
      have ha := moN_ahead h.1 h.2
      have h0 := ahead_nonneg (moN n)
      have hn2 := h.2
      obtain ⟨⟨hm1, hm2⟩, hd1, hd2⟩ := hs
      unfold addR dyN
      unfold dyN at hdy
      by_cases hk : MoIs ((moN n : Int) + m)
      · rw [decide_eq_true hk] at C3
        rw [if_pos hk]
        obtain ⟨j, hj⟩ : ∃ j : Nat, j = ((moN n : Int) + m).toNat := ⟨_, rfl⟩
        have hjk : (moN n : Int) + m = (j : Int) := by have := hk.1; omega
        have hj2 : j ≤ 119987 := by have := hk.2; omega
        rw [← hj]
        rw [hjk] at C3
        have C5 := fun W => day_any W j (n - ahead (moN n)) (by omega) (by omega) (by omega)
        have hb := dayIn_bounds hj2 hdy.1 (by omega)
        have hX1 := hb.1
        have hX2 := hb.2
        generalize dayIn j (n - ahead (moN n)) = X at *
        have C6 := fun W => dayOk_any W (X + d)
        clear hk hj hdy hlb hb
        generalize moN n = k at *
        generalize ahead k = A at *
        by_cases hin : IsDay (X + d)
        · rw [if_pos hin, decide_eq_true (show 0 < X + d from by have := hin.1; omega)]
          rw [decide_eq_true (show 1 ≤ X + d ∧ X + d ≤ 3652059 from hin)] at C6
          clear hin h
          go_enter Try.func24, Try.ntmps24
          go_wp2_with fail
          refine (C0 _).mono ?_
          rintro e w1 ⟨rfl, rfl⟩
          go_wp2_with fail
          refine (C1 _).mono ?_
          rintro e w1 ⟨rfl, rfl⟩
          go_wp2_with fail
          refine (C2 _).mono ?_
          rintro e w1 ⟨rfl, rfl⟩
          go_wp2_with fail
          refine (C3 _).mono ?_
          rintro e w1 ⟨rfl, rfl⟩
          go_wp2_with fail
          go_quiet (first | (go_at_call 44; refine Calls.quiet_of_same (C4 _)) | (go_at_call 50; refine Calls.quiet_of_same (C5 _)))
          go_wp2_with fail
          refine (C6 _).mono ?_
          rintro e w1 ⟨rfl, rfl⟩
          go_wp2
          go_ret2
          refine ⟨rfl, ?_⟩
          repeat (first | exact Below.refl _ _ | refine below_drewN ?_ _ | refine Below.drew ?_ | refine Below.alloc ?_ (by first | exact Nat.le_refl _ | (simp only [World.size_alloc]; omega)) _)
        · rw [if_neg hin, decide_eq_false (show ¬ (0 : Int) < 0 by omega)]
          rw [decide_eq_false (show ¬ (1 ≤ X + d ∧ X + d ≤ 3652059) from hin)] at C6
          clear hin h
          go_enter Try.func24, Try.ntmps24
          go_wp2_with fail
          refine (C0 _).mono ?_
          rintro e w1 ⟨rfl, rfl⟩
          go_wp2_with fail
          refine (C1 _).mono ?_
          rintro e w1 ⟨rfl, rfl⟩
          go_wp2_with fail
          refine (C2 _).mono ?_
          rintro e w1 ⟨rfl, rfl⟩
          go_wp2_with fail
          refine (C3 _).mono ?_
          rintro e w1 ⟨rfl, rfl⟩
          go_wp2_with fail
          go_quiet (first | (go_at_call 44; refine Calls.quiet_of_same (C4 _)) | (go_at_call 50; refine Calls.quiet_of_same (C5 _)))
          go_wp2_with fail
          refine (C6 _).mono ?_
          rintro e w1 ⟨rfl, rfl⟩
          go_wp2
          go_ret2
          refine ⟨rfl, ?_⟩
          repeat (first | exact Below.refl _ _ | refine below_drewN ?_ _ | refine Below.drew ?_ | refine Below.alloc ?_ (by first | exact Nat.le_refl _ | (simp only [World.size_alloc]; omega)) _)
      · rw [decide_eq_false hk] at C3
        rw [if_neg hk, decide_eq_false (show ¬ (0 : Int) < 0 by omega)]
        clear h hk
        generalize moN n = k at *
        go_enter Try.func24, Try.ntmps24
        go_wp2_with fail
        refine (C0 _).mono ?_
        rintro e w1 ⟨rfl, rfl⟩
        go_wp2_with fail
        refine (C1 _).mono ?_
        rintro e w1 ⟨rfl, rfl⟩
        go_wp2_with fail
        refine (C2 _).mono ?_
        rintro e w1 ⟨rfl, rfl⟩
        go_wp2_with fail
        refine (C3 _).mono ?_
        rintro e w1 ⟨rfl, rfl⟩
        go_wp2
        go_ret2
        refine ⟨rfl, ?_⟩
        repeat (first | exact Below.refl _ _ | refine below_drewN ?_ _ | refine Below.drew ?_ | refine Below.alloc ?_ (by first | exact Nat.le_refl _ | (simp only [World.size_alloc]; omega)) _)
    · rw [decide_eq_false hs] at C1
      rw [show sumR n m d = 0 from if_neg (fun e => hs e.2), decide_eq_false (show ¬ (0 : Int) < 0 by omega)]
      clear h hs
      go_enter Try.func24, Try.ntmps24
      go_wp2_with fail
      refine (C0 _).mono ?_
      rintro e w1 ⟨rfl, rfl⟩
      go_wp2_with fail
      refine (C1 _).mono ?_
      rintro e w1 ⟨rfl, rfl⟩
      go_wp2
      go_ret2
      refine ⟨rfl, ?_⟩
      repeat (first | exact Below.refl _ _ | refine below_drewN ?_ _ | refine Below.drew ?_ | refine Below.alloc ?_ (by first | exact Nat.le_refl _ | (simp only [World.size_alloc]; omega)) _)
  · rw [decide_eq_false (show ¬ (1 ≤ n ∧ n ≤ 3652059) from h)] at C0
    rw [show sumR n m d = 0 from if_neg (fun e => h e.1), decide_eq_false (show ¬ (0 : Int) < 0 by omega)]
    clear h
    go_enter Try.func24, Try.ntmps24
    go_wp2_with fail
    refine (C0 _).mono ?_
    rintro e w1 ⟨rfl, rfl⟩
    go_wp2
    go_ret2
    refine ⟨rfl, ?_⟩
    repeat (first | exact Below.refl _ _ | refine below_drewN ?_ _ | refine Below.drew ?_ | refine Below.alloc ?_ (by first | exact Nat.le_refl _ | (simp only [World.size_alloc]; omega)) _)

theorem addR_nonneg (n m d : Int) : 0 ≤ addR n m d := by
  unfold addR
  split
  · split
    · rename_i h; have := h.1; omega
    · omega
  · omega

theorem specDayAdd_any (w : World) (n m d : Int) : Calls Try.prog 25 #[.int .i64 n, .agg #[.int .i64 m, .int .i64 d]] w fun e w' => e = .returned (.tuple #[.int .i64 (sumR n m d), .bool (decide (0 < sumR n m d))]) ∧ w' = sumW w n m d := by
  unfold sumW
  have C0 := fun W => specIs_any W n
  have C1 := fun W => specL3SpanOk_any W m d
  by_cases h : IsDay n
  · rw [if_pos h]
    rw [decide_eq_true (show 1 ≤ n ∧ n ≤ 3652059 from h)] at C0
    by_cases hs : SpanIs m d
    · rw [decide_eq_true hs] at C1
      rw [show sumR n m d = addR n m d from if_pos ⟨h, hs⟩]
      have C2 := fun W => specAdd_any W n m d h.1 h.2 hs.1.1 hs.1.2 hs.2.1 hs.2.2
      generalize addR n m d = r at *
      clear h hs
      go_enter Try.func25, Try.ntmps25
      go_wp2_with fail
      refine (C0 _).mono ?_
      rintro e w1 ⟨rfl, rfl⟩
      go_wp2_with fail
      refine (C1 _).mono ?_
      rintro e w1 ⟨rfl, rfl⟩
      go_wp2_with fail
      refine (C2 _).mono ?_
      rintro e w1 ⟨rfl, rfl⟩
      go_wp2
      go_ret2
      exact ⟨rfl, rfl⟩
    · rw [decide_eq_false hs] at C1
      rw [show sumR n m d = 0 from if_neg (fun e => hs e.2), decide_eq_false (show ¬ (0 : Int) < 0 by omega)]
      clear h hs
      go_enter Try.func25, Try.ntmps25
      go_wp2_with fail
      refine (C0 _).mono ?_
      rintro e w1 ⟨rfl, rfl⟩
      go_wp2_with fail
      refine (C1 _).mono ?_
      rintro e w1 ⟨rfl, rfl⟩
      go_wp2
      go_ret2
      exact ⟨rfl, rfl⟩
  · rw [if_neg h]
    rw [decide_eq_false (show ¬ (1 ≤ n ∧ n ≤ 3652059) from h)] at C0
    rw [show sumR n m d = 0 from if_neg (fun e => h e.1), decide_eq_false (show ¬ (0 : Int) < 0 by omega)]
    clear h
    go_enter Try.func25, Try.ntmps25
    go_wp2_with fail
    refine (C0 _).mono ?_
    rintro e w1 ⟨rfl, rfl⟩
    go_wp2
    go_ret2
    exact ⟨rfl, rfl⟩

end Go.Proofs.Ytieinmfmkimjjaa
