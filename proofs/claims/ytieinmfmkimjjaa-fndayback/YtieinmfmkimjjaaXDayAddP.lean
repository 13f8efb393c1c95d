/- The law FnDayAdd: its walk. -/
import Derived.Test.YtieinmfmkimjjaaDayR
import Derived.Test.YtieinmfmkimjjaaDrSpan
import Derived.Test.YtieinmfmkimjjaaByt1
import Derived.Deep.QuietTactic
import Derived.BigQuiet
namespace Go.Proofs.Ytieinmfmkimjjaa
open Go.RowKit

theorem specDayAdd_below (w : World) (n m d : Int) : Calls Try.prog 25 #[.int .i64 n, .agg #[.int .i64 m, .int .i64 d]] w fun e w' => e = .returned (.tuple #[.int .i64 (sumR n m d), .bool (decide (0 < sumR n m d))]) ∧ Below w.heap.size w w' :=
  (specDayAdd_any w n m d).mono fun _ _ ⟨he, hw⟩ => ⟨he, by rw [hw]; exact sumW_below w n m d⟩

set_option maxHeartbeats 1000000 in
theorem xDayAddP_walk (w : World) (v : Value) (h : Byt w v) :
    Calls Try.prog 6 #[v] w fun e w' => e = .returned (.bool true) ∧ Below w.heap.size w w' := by
  have C0 := hide (drawDayAdd_any w v h)
  obtain ⟨ao, n, cap, rfl, hn⟩ := byt_len h
  clear h
  by_cases hl : (1048576 : Int) < n
  · have t0 : decide ((1048576 : Int) < n) = true := by simpa using hl
    go_enter Try.func6, Try.ntmps6
    go_wp2
    go_ret
    exact ⟨rfl, Below.refl _ _⟩
  · have t0 : decide ((1048576 : Int) < n) = false := by simpa using hl
    go_enter Try.func6, Try.ntmps6
    go_wp2_with fail
    refine (unhide C0).mono ?_
    rintro e w1 ⟨n, m, d, rfl, b1⟩
    clear C0
    have A1 := fun W => implDayAdd_any W n m d
    have A2 := fun W => specDayAdd_below W n m d
    have q1 : (sumR n m d != sumR n m d) = false := by simp
    have q2 : (sumR n m d == sumR n m d) = true := by simp
    by_cases hp : 0 < sumR n m d
    · rw [decide_eq_true hp] at A1 A2
      obtain ⟨hn, hs, hm, e, hx⟩ := sum_pos hp
      obtain ⟨j, hj, hk, hj2⟩ := k_of hm
      have P1 := fun W => implDayParts_any W n
      rw [decide_eq_true hn, partY_in hn, partM_in hn, partD_in hn] at P1
      have L1 := fun W => implDayLast_any W (((j : Int) + 12) / 12) ((j : Int) % 12 + 1)
      rw [k_last j hj2] at L1
      have hd := dyN_bounds hn.1 hn.2
      have O1 := fun W => implDayOf_any W (((j : Int) + 12) / 12) ((j : Int) % 12 + 1) (min (dyN n) (lastM j))
      rw [k_day j hj2 (dyN n) hd.1] at O1
      have Z1 := fun W => implDayAdd_any W n 0 0
      rw [sum_zero hn, decide_eq_true (show 0 < n by have := hn.1; omega)] at Z1
      have hb := dayIn_bounds (k := j) (d := dyN n) (by omega) hd.1 (by have := lastM_bounds (moN n); omega)
      obtain ⟨hb1, hb2⟩ := hb
      have hs1 := hs.2.1
      have hs2 := hs.2.2
      have hm1 := hs.1.1
      have hm2 := hs.1.2
      have HE := hide (show sumR n m d = dayIn j (dyN n) + d by rw [hj]; exact e)
      have hY1 : 1 ≤ (moN n : Int) / 12 + 1 := by omega
      have hY2 : (moN n : Int) / 12 + 1 ≤ 10000 := by have := moN_lt hn.1 hn.2; omega
      have hM1 : 1 ≤ (moN n : Int) % 12 + 1 := by omega
      have hM2 : (moN n : Int) % 12 + 1 ≤ 12 := by omega
      clear hp e hx hj hm hs hn
      generalize (moN n : Int) / 12 + 1 = Y at *
      generalize (moN n : Int) % 12 + 1 = M at *
      generalize dyN n = D at *
      generalize lastM j = L at *
      generalize dayIn j D = X at *
      generalize sumR n m d = S at *
      have qn : (n == n) = true := by simp
      have qs : (S == X + d) = true := by simpa using unhide HE
      clear HE hd
      go_wp2_with fail
      refine (A1 _).mono ?_
      rintro e w2 ⟨rfl, b2⟩
      have P0 : w2.cell? ⟨w1.heap.size, 0, none⟩ = some (.int .i64 m) := by rw [b2.cell (by simp)]; simp
      have P00 : w2.cell? ⟨w1.heap.size, 1, none⟩ = some (.int .i64 d) := by rw [b2.cell (by simp)]; simp
      have B2 : Below w.heap.size w w2 := (b1.alloc b1.size _).trans (b2.mono (by have := b1.size; simp; omega))
      clear b1 b2
      have HB2 := hide B2
      clear B2
      go_wp2_with fail
      refine (A2 _).mono ?_
      rintro e w3 ⟨rfl, b3⟩
      have P2 := cell_later b3 P0
      have P3 := cell_later b3 P00
      have B3 : Below w.heap.size w w3 := (unhide HB2).trans (b3.mono (unhide HB2).size)
      clear P0 P00 b3 HB2
      have HB3 := hide B3
      clear B3
      go_wp2_with fail
      refine (P1 _).mono ?_
      rintro e w4 ⟨rfl, rfl⟩
      go_wp2_with fail
      refine (L1 _).mono ?_
      rintro e w4 ⟨rfl, rfl⟩
      by_cases hDL : L < D
      · have tl : decide (L < D) = true := by simpa using hDL
        rw [Int.min_eq_right (by omega)] at O1
        clear hDL
        go_wp2_with fail
        refine (Z1 _).mono ?_
        rintro e w5 ⟨rfl, b5⟩
        have P4 := cell_later b5 P2
        have P5 := cell_later b5 P3
        have B5 := hide ((unhide HB3).trans (b5.mono (unhide HB3).size))
        clear P2 P3 b5 HB3
        go_wp2_with fail
        go_quiet (first | (go_at_call 14; refine Calls.quiet_of_same (O1 _)))
        go_wp2
        go_ret
        exact ⟨rfl, below_drewN (unhide B5) _⟩
      · have tl : decide (L < D) = false := by simpa using hDL
        rw [Int.min_eq_left (by omega)] at O1
        clear hDL
        go_wp2_with fail
        refine (Z1 _).mono ?_
        rintro e w5 ⟨rfl, b5⟩
        have P4 := cell_later b5 P2
        have P5 := cell_later b5 P3
        have B5 := hide ((unhide HB3).trans (b5.mono (unhide HB3).size))
        clear P2 P3 b5 HB3
        go_wp2_with fail
        go_quiet (first | (go_at_call 14; refine Calls.quiet_of_same (O1 _)))
        go_wp2
        go_ret
        exact ⟨rfl, below_drewN (unhide B5) _⟩
    · rw [decide_eq_false hp] at A1 A2
      clear hp
      generalize sumR n m d = S at *
      go_wp2_with fail
      refine (A1 _).mono ?_
      rintro e w2 ⟨rfl, b2⟩
      have P0 : w2.cell? ⟨w1.heap.size, 0, none⟩ = some (.int .i64 m) := by rw [b2.cell (by simp)]; simp
      have P00 : w2.cell? ⟨w1.heap.size, 1, none⟩ = some (.int .i64 d) := by rw [b2.cell (by simp)]; simp
      have B2 : Below w.heap.size w w2 := (b1.alloc b1.size _).trans (b2.mono (by have := b1.size; simp; omega))
      clear b1 b2
      have HB2 := hide B2
      clear B2
      go_wp2_with fail
      refine (A2 _).mono ?_
      rintro e w3 ⟨rfl, b3⟩
      have B3 := hide ((unhide HB2).trans (b3.mono (unhide HB2).size))
      clear P0 P00 b3 HB2
      go_wp2
      go_ret
      exact ⟨rfl, unhide B3⟩

end Go.Proofs.Ytieinmfmkimjjaa
