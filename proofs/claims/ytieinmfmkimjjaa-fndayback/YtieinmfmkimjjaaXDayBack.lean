/- The law FnDayBack: its walk. -/
import Derived.Test.YtieinmfmkimjjaaDayR
import Derived.Test.YtieinmfmkimjjaaXDayAddP
import Derived.Test.YtieinmfmkimjjaaByt1
import Derived.Deep.QuietTactic
import Derived.BigQuiet
namespace Go.Proofs.Ytieinmfmkimjjaa
open Go.RowKit

set_option maxHeartbeats 1000000 in
theorem xDayBack_walk (w : World) (v : Value) (h : Byt w v) :
    Calls Try.prog 7 #[v] w fun e w' => e = .returned (.bool true) ∧ Below w.heap.size w w' := by
  have C0 := hide (drawDayAdd_any w v h)
  obtain ⟨ao, n, cap, rfl, hn⟩ := byt_len h
  clear h
  by_cases hl : (1048576 : Int) < n
  · have t0 : decide ((1048576 : Int) < n) = true := by simpa using hl
    go_enter Try.func7, Try.ntmps7
    go_wp2
    go_ret
    exact ⟨rfl, Below.refl _ _⟩
  · have t0 : decide ((1048576 : Int) < n) = false := by simpa using hl
    go_enter Try.func7, Try.ntmps7
    go_wp2_with fail
    refine (unhide C0).mono ?_
    rintro e w1 ⟨n, m, d, rfl, b1⟩
    clear C0
    have A1 := fun W => implDayAdd_any W n m 0
    have A2 := fun W => specDayAdd_below W n m 0
    have q1 : (sumR n m 0 != sumR n m 0) = false := by simp
    have q2 : (sumR n m 0 == sumR n m 0) = true := by simp
    by_cases hp : 0 < sumR n m 0
    · rw [decide_eq_true hp] at A1 A2
      obtain ⟨hn, hs, hm, e, hx⟩ := sum_pos hp
      obtain ⟨-, -, k2, k3, k4, k5⟩ := back_sum hp
      have A3 := fun W => implDayAdd_any W (sumR n m 0) (-m) 0
      rw [decide_eq_true k5, k2] at A3
      have P1 := fun W => implDayParts_any W n
      have P2 := fun W => implDayParts_any W (sumR n m 0)
      rw [decide_eq_true hn, partD_in hn] at P1
      rw [decide_eq_true hx, partD_in hx] at P2
      have hm1 := hs.1.1
      have hm2 := hs.1.2
      have hdn := (dyN_bounds hn.1 hn.2)
      have hdx := (dyN_bounds hx.1 hx.2)
      have hl1 := lastM_bounds (moN n)
      have hl2 := lastM_bounds (moN (sumR n m 0))
      have hn1 := hn.1
      have hn2 := hn.2
      have hD1 : 1 ≤ dyN n := by omega
      have hD2 : dyN n ≤ 31 := by omega
      have hE1 : 1 ≤ dyN (sumR n m 0) := by omega
      have hE2 : dyN (sumR n m 0) ≤ 31 := by omega
      have t1 : decide (dyN (sumR n m 0) ≤ dyN n) = true := by simpa using k3
      have t2 : decide (dyN n - dyN (sumR n m 0) ≤ 3) = true := by simpa using k4
      clear hp e hm hs k2 k5 hdn hdx hl1 hl2
      generalize dyN (sumR n m 0) = E1 at *
      generalize dyN n = D at *
      generalize partY n = y1 at *
      generalize partM n = y2 at *
      generalize partY (sumR n m 0) = y3 at *
      generalize partM (sumR n m 0) = y4 at *
      clear hx hn
      generalize sumR n m 0 = S at *
      have qs : (n - (D - E1) == n - (D - E1)) = true := by simp
      go_wp2_with fail
      refine (A1 _).mono ?_
      rintro e w2 ⟨rfl, b2⟩
      have P0 : w2.cell? ⟨w1.heap.size, 0, none⟩ = some (.int .i64 m) := by rw [b2.cell (by simp)]; simp
      have P00 : w2.cell? ⟨w1.heap.size, 1, none⟩ = some (.int .i64 d) := by rw [b2.cell (by simp)]; simp
      have B2 : Below w.heap.size w w2 := (b1.alloc b1.size _).trans (b2.mono (by have := b1.size; simp; omega))
      clear b1 b2
      have HB2 := hide B2
      clear B2
      go_wp2_with fail
      refine (A2 _).mono ?_
      rintro e w3 ⟨rfl, b3⟩
      have P3 := cell_later b3 P0
      have P4 := cell_later b3 P00
      have B3 : Below w.heap.size w w3 := (unhide HB2).trans (b3.mono (unhide HB2).size)
      clear P0 P00 b3 HB2
      have HB3 := hide B3
      clear B3
      go_wp2_with fail
      refine (A3 _).mono ?_
      rintro e w4 ⟨rfl, b4⟩
      have B4 := hide ((unhide HB3).trans (b4.mono (unhide HB3).size))
      clear P3 P4 b4 HB3
      go_wp2_with fail
      refine (P1 _).mono ?_
      rintro e w5 ⟨rfl, rfl⟩
      go_wp2_with fail
      refine (P2 _).mono ?_
      rintro e w5 ⟨rfl, rfl⟩
      go_wp2
      go_ret
      exact ⟨rfl, unhide B4⟩
    · rw [decide_eq_false hp] at A1 A2
      clear hp
      generalize sumR n m 0 = S at *
      go_wp2_with fail
      refine (A1 _).mono ?_
      rintro e w2 ⟨rfl, b2⟩
      have P0 : w2.cell? ⟨w1.heap.size, 0, none⟩ = some (.int .i64 m) := by rw [b2.cell (by simp)]; simp
      have P00 : w2.cell? ⟨w1.heap.size, 1, none⟩ = some (.int .i64 d) := by rw [b2.cell (by simp)]; simp
      have B2 : Below w.heap.size w w2 := (b1.alloc b1.size _).trans (b2.mono (by have := b1.size; simp; omega))
      clear b1 b2
      have HB2 := hide B2
      clear B2
      go_wp2_with fail
      refine (A2 _).mono ?_
      rintro e w3 ⟨rfl, b3⟩
      have B3 := hide ((unhide HB2).trans (b3.mono (unhide HB2).size))
      clear P0 P00 b3 HB2
      go_wp2
      go_ret
      exact ⟨rfl, unhide B3⟩

end Go.Proofs.Ytieinmfmkimjjaa
