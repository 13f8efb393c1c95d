/- The law FnDayNext: its walk. -/
import Derived.Test.YtieinmfmkimjjaaDayQ
import Derived.Test.YtieinmfmkimjjaaDrDayB
import Derived.Test.YtieinmfmkimjjaaByt1
namespace Go.Proofs.Ytieinmfmkimjjaa
open Go.RowKit

theorem xDayNext_walk (w : World) (v : Value) (h : Byt w v) :
    Calls Try.prog 4 #[v] w fun e w' => e = .returned (.bool true) ∧ Below w.heap.size w w' := by
  have C0 := hide (drawDayWeek_any w v h)
  obtain ⟨ao, n, cap, rfl, hn⟩ := byt_len h
  clear h
  by_cases hl : (1048576 : Int) < n
  · have t0 : decide ((1048576 : Int) < n) = true := by simpa using hl
    go_enter Try.func4, Try.ntmps4
    go_wp2
    go_ret
    exact ⟨rfl, Below.refl _ _⟩
  · have t0 : decide ((1048576 : Int) < n) = false := by simpa using hl
    go_enter Try.func4, Try.ntmps4
    go_wp2_with fail
    refine (unhide C0).mono ?_
    rintro e w1 ⟨n, rfl, b1⟩
    clear C0
    have B1 := hide b1
    clear b1
    have W1 := implDayWeek_any w1 n
    have W2 := specDayWeek_any w1 n
    by_cases hd : IsDay n
    · have hw : weekR n = (n - 1) % 7 + 1 := if_pos hd
      have tw : (weekR n == 0) = false := by rw [hw]; have := hd.1; simp; omega
      have tw2 : (weekR n != weekR n) = false := by simp
      have tw3 : (weekR n == weekR n) = true := by simp
      have hwb : 0 ≤ weekR n ∧ weekR n ≤ 7 := by rw [hw]; have := hd.1; omega
      obtain ⟨hw0, hw1⟩ := hwb
      by_cases hm : n = 3652059
      · have tm : (n == 3652059) = true := by simpa using hm
        clear hm hw hd
        generalize weekR n = wk at *
        go_wp2_with fail
        refine (W1).mono ?_
        rintro e w2 ⟨rfl, rfl⟩
        go_wp2_with fail
        refine (W2).mono ?_
        rintro e w2 ⟨rfl, rfl⟩
        go_wp2_with fail
        refine (W2).mono ?_
        rintro e w2 ⟨rfl, rfl⟩
        go_wp2
        go_ret
        exact ⟨rfl, unhide B1⟩
      · have tm : (n == 3652059) = false := by simpa using hm
        have hd2 : IsDay (n + 1) := ⟨by have := hd.1; omega, by have := hd.2; omega⟩
        have P1 := implDayParts_any w1 n
        have P2 := implDayParts_any w1 (n + 1)
        have W3 := implDayWeek_any w1 (n + 1)
        have L1 := implDayLast_any w1 (partY n) (partM n)
        rw [week_next hd hd2] at W3
        rw [decide_eq_true hd] at P1
        rw [decide_eq_true hd2] at P2
        have tw4 : (weekR n % 7 + 1 != weekR n % 7 + 1) = false := by simp
        rw [partY_in hd, partM_in hd, lastR_mo hd] at L1
        have hn1 := hd.1
        have hn2 := hd.2
        by_cases hin : dyN n < lastM (moN n)
        · obtain ⟨e1, e2⟩ := next_in hd hin
          rw [partY_in hd, partM_in hd, partD_in hd] at P1
          rw [partY_in hd2, partM_in hd2, partD_in hd2, e1, e2] at P2
          have tl : decide (dyN n < lastM (moN n)) = true := by simpa using hin
          have hb1 := (dyN_bounds hd.1 hd.2).1
          have hb2 : dyN n ≤ 31 := by have := (lastM_bounds (moN n)).2; omega
          clear e1 e2 hw hd hd2 hin
          generalize weekR n = wk at *
          generalize lastM (moN n) = z at *
          generalize dyN n = d at *
          generalize (moN n : Int) / 12 + 1 = y at *
          generalize (moN n : Int) % 12 + 1 = m at *
          have q1 : (y == y) = true := by simp
          have q2 : (m == m) = true := by simp
          have q3 : (d + 1 == d + 1) = true := by simp
          go_wp2_with fail
          refine (W1).mono ?_
          rintro e w2 ⟨rfl, rfl⟩
          go_wp2_with fail
          refine (W2).mono ?_
          rintro e w2 ⟨rfl, rfl⟩
          go_wp2_with fail
          refine (P1).mono ?_
          rintro e w2 ⟨rfl, rfl⟩
          go_wp2_with fail
          refine (P2).mono ?_
          rintro e w2 ⟨rfl, rfl⟩
          go_wp2_with fail
          refine (W3).mono ?_
          rintro e w2 ⟨rfl, rfl⟩
          go_wp2_with fail
          refine (L1).mono ?_
          rintro e w2 ⟨rfl, rfl⟩
          go_wp2
          go_ret
          exact ⟨rfl, unhide B1⟩
        · obtain ⟨e1, e2⟩ := next_over hd hin
          rw [partY_in hd, partM_in hd, partD_in hd] at P1
          rw [partY_in hd2, partM_in hd2, partD_in hd2, e1, e2] at P2
          have tl : decide (dyN n < lastM (moN n)) = false := by simpa using hin
          by_cases h12 : (moN n : Int) % 12 + 1 < 12
          · have t12 : decide ((moN n : Int) % 12 + 1 < 12) = true := by simpa using h12
            rw [show ((moN n + 1 : Nat) : Int) / 12 + 1 = (moN n : Int) / 12 + 1 by omega, show ((moN n + 1 : Nat) : Int) % 12 + 1 = (moN n : Int) % 12 + 1 + 1 by omega] at P2
            clear e1 e2 hw hd hd2 hin
            generalize weekR n = wk at *
            generalize lastM (moN n) = z at *
            generalize dyN n = d at *
            have hm0 : 0 ≤ (moN n : Int) % 12 + 1 := by omega
            generalize (moN n : Int) / 12 + 1 = y at *
            generalize (moN n : Int) % 12 + 1 = m at *
            have q1 : (y == y) = true := by simp
            have q2 : (m + 1 == m + 1) = true := by simp
            go_wp2_with fail
            refine (W1).mono ?_
            rintro e w2 ⟨rfl, rfl⟩
            go_wp2_with fail
            refine (W2).mono ?_
            rintro e w2 ⟨rfl, rfl⟩
            go_wp2_with fail
            refine (P1).mono ?_
            rintro e w2 ⟨rfl, rfl⟩
            go_wp2_with fail
            refine (P2).mono ?_
            rintro e w2 ⟨rfl, rfl⟩
            go_wp2_with fail
            refine (W3).mono ?_
            rintro e w2 ⟨rfl, rfl⟩
            go_wp2_with fail
            refine (L1).mono ?_
            rintro e w2 ⟨rfl, rfl⟩
            go_wp2
            go_ret
            exact ⟨rfl, unhide B1⟩
          · have t12 : decide ((moN n : Int) % 12 + 1 < 12) = false := by simpa using h12
            rw [show ((moN n + 1 : Nat) : Int) / 12 + 1 = (moN n : Int) / 12 + 1 + 1 by omega, show ((moN n + 1 : Nat) : Int) % 12 + 1 = 1 by omega] at P2
            have hy0 : 0 ≤ (moN n : Int) / 12 + 1 := by omega
            have hy1 : (moN n : Int) / 12 + 1 ≤ 10000 := by have := moN_lt hd.1 hd.2; omega
            clear e1 e2 hw hd hd2 hin
            generalize weekR n = wk at *
            generalize lastM (moN n) = z at *
            generalize dyN n = d at *
            generalize (moN n : Int) / 12 + 1 = y at *
            generalize (moN n : Int) % 12 + 1 = m at *
            have q1 : (y + 1 == y + 1) = true := by simp
            go_wp2_with fail
            refine (W1).mono ?_
            rintro e w2 ⟨rfl, rfl⟩
            go_wp2_with fail
            refine (W2).mono ?_
            rintro e w2 ⟨rfl, rfl⟩
            go_wp2_with fail
            refine (P1).mono ?_
            rintro e w2 ⟨rfl, rfl⟩
            go_wp2_with fail
            refine (P2).mono ?_
            rintro e w2 ⟨rfl, rfl⟩
            go_wp2_with fail
            refine (W3).mono ?_
            rintro e w2 ⟨rfl, rfl⟩
            go_wp2_with fail
            refine (L1).mono ?_
            rintro e w2 ⟨rfl, rfl⟩
            go_wp2
            go_ret
            exact ⟨rfl, unhide B1⟩
    · have hw : weekR n = 0 := if_neg hd
      rw [hw] at W1 W2
      clear hw hd
      go_wp2_with fail
      refine (W1).mono ?_
      rintro e w2 ⟨rfl, rfl⟩
      go_wp2_with fail
      refine (W2).mono ?_
      rintro e w2 ⟨rfl, rfl⟩
      go_wp2_with fail
      refine (W2).mono ?_
      rintro e w2 ⟨rfl, rfl⟩
      go_wp2
      go_ret
      exact ⟨rfl, unhide B1⟩

end Go.Proofs.Ytieinmfmkimjjaa
