/- The month of a day. -/
import Derived.Test.YtnfalniijmccjaaDoorDayI
namespace Go.Proofs.YtnfalniijmccjaaDoor
open Go.RowKit


/-- The number of a day of a month, or of its last one. -/
def dayIn (k : Nat) (d : Int) : Int := ahead k + min d (lastM k)

theorem ahead_big {k : Nat} (hk : k ≤ 119988) : 0 ≤ ahead k ∧ ahead k ≤ 3652059 := by
  have := ahead_le hk; rw [ahead_end] at this; exact ⟨ahead_nonneg k, this⟩

theorem monthAt_any (w : World) (n : Int) (h1 : 1 ≤ n) (h2 : n ≤ 3652059) :
    Calls Tryd.prog 65 #[.int .i64 n] w fun e w' => e = .returned (.int .i64 (moN n)) ∧ w' = w := by
  go_enter Tryd.func65, Tryd.ntmps65
  go_wp2
  go_loop [3] (fun i => ∃ m : Nat, m ≤ 119987 ∧ i = .int .i64 m) (fun i => (intOf i).toNat)
  case atStart => exact ⟨((n - 1) * 4800 / 146097).toNat, by omega, by go_num⟩
  case round =>
    obtain ⟨m, hm, rfl⟩ := hrel
    have C := ahead_any w m (by omega)
    by_cases hge : n ≤ ahead m
    · have h0 : 0 < m := by
        rcases Nat.eq_zero_or_pos m with e | e
        · rw [e, ahead_zero] at hge; omega
        · exact e
      go_wp2_with fail
      refine C.mono ?_
      rintro e w2 ⟨rfl, rfl⟩
      go_wp2
      go_round
      case rel => exact ⟨m - 1, by omega, by go_num⟩
      case measure => simp [intOf]; omega
    · have hge' : decide (n ≤ ahead m) = false := by simp; omega
      go_wp2_with fail
      refine C.mono ?_
      rintro e w2 ⟨rfl, rfl⟩
      go_wp2
      go_loop [3] (fun i => ∃ j : Nat, j ≤ 119987 ∧ ahead j < n ∧ i = .int .i64 j) (fun i => 119988 - (intOf i).toNat)
      case atStart => exact ⟨m, hm, by omega, rfl⟩
      case round =>
        obtain ⟨j, hj, haj, rfl⟩ := hrel
        have C2 := ahead_any w2 (j + 1) (by omega)
        rw [Int.natCast_add, Int.natCast_one] at C2
        clear hge hge' C hm
        by_cases hlt : ahead (j + 1) < n
        · have h0 : j < 119987 := by
            rcases Nat.lt_or_ge j 119987 with e | e
            · exact e
            · obtain rfl : j = 119987 := by omega
              rw [show (119987 + 1 : Nat) = 119988 by rfl, ahead_end] at hlt; omega
          go_wp2_with fail
          refine C2.mono ?_
          rintro e w3 ⟨rfl, rfl⟩
          go_wp2
          go_round
          case rel => exact ⟨j + 1, by omega, hlt, by go_num⟩
          case measure => simp [intOf]; omega
        · have hm : moN n = j := moN_of ⟨haj, by omega⟩
          have hlt' : decide (ahead (j + 1) < n) = false := by simp; omega
          have HM := hid hm
          clear hm
          go_wp2_with fail
          refine C2.mono ?_
          rintro e w3 ⟨rfl, rfl⟩
          go_wp2
          go_ret
          exact ⟨by rw [unhid HM]; rfl, rfl⟩

end Go.Proofs.YtnfalniijmccjaaDoor
