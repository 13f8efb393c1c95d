/- The law FnDayParts: its walk. -/
import Derived.Test.YtieinmfmkimjjaaDayQ
import Derived.Test.YtieinmfmkimjjaaDrDayB
import Derived.Test.YtieinmfmkimjjaaByt1
namespace Go.Proofs.Ytieinmfmkimjjaa
open Go.RowKit

theorem xDayPar_walk (w : World) (v v' : Value) (h : Byt w v) (h' : Byt w v') :
    Calls Try.prog 3 #[v, v'] w fun e w' => e = .returned (.bool true) ∧ Below w.heap.size w w' := by
  have C0 := hide (drawDayParts_any w v h)
  obtain ⟨ao, n, cap, rfl, hn⟩ := byt_len h
  obtain ⟨ao', n', cap', rfl, hn'⟩ := byt_len h'
  clear h
  by_cases hl : (1048576 : Int) < n
  · have t0 : decide ((1048576 : Int) < n) = true := by simpa using hl
    clear h'
    go_enter Try.func3, Try.ntmps3
    go_wp2
    go_ret
    exact ⟨rfl, Below.refl _ _⟩
  have t0 : decide ((1048576 : Int) < n) = false := by simpa using hl
  by_cases hl' : (1048576 : Int) < n'
  · have t1 : decide ((1048576 : Int) < n') = true := by simpa using hl'
    clear h'
    go_enter Try.func3, Try.ntmps3
    go_wp2
    go_ret
    exact ⟨rfl, Below.refl _ _⟩
  have t1 : decide ((1048576 : Int) < n') = false := by simpa using hl'
  go_enter Try.func3, Try.ntmps3
  go_wp2_with fail
  refine (unhide C0).mono ?_
  rintro e w1 ⟨n, rfl, b1⟩
  clear C0
  have P1 := implDayParts_any w1 n
  have P2 := specDayParts_any w1 n
  have C1 := hide (drawDayOf_any w1 _ (h'.later b1))
  have D0 := implDayOf_any w1 (partY n) (partM n) (partD n)
  have tD : IsDay n → (dayR (partY n) (partM n) (partD n) != n) = false := fun hd => by rw [partY_in hd, partM_in hd, partD_in hd, ofR_parts hd]; simp
  have HD := hide tD
  clear h' tD
  have q1 : (partY n != partY n) = false := by simp
  have q2 : (partM n != partM n) = false := by simp
  have q3 : (partD n != partD n) = false := by simp
  by_cases hd : IsDay n
  · have tD := unhide HD hd
    rw [decide_eq_true hd] at P1 P2
    clear HD hd
    generalize dayR (partY n) (partM n) (partD n) = o at *
    generalize partY n = y at *
    generalize partM n = m at *
    generalize partD n = d at *
    go_wp2_with fail
    refine (P1).mono ?_
    rintro e w2 ⟨rfl, rfl⟩
    go_wp2_with fail
    refine (P2).mono ?_
    rintro e w2 ⟨rfl, rfl⟩
    go_wp2_with fail
    refine (D0).mono ?_
    rintro e w2 ⟨rfl, rfl⟩
    go_wp2_with fail
    refine (unhide C1).mono ?_
    rintro e w3 ⟨a, b, c, rfl, b3⟩
    have B3 := hide (b1.trans (b3.mono b1.size))
    clear C1 b1 b3
    have K1 := implDayOf_any w3 a b c
    have K2 := specDayOf_any w3 a b c
    have K3 := implDayParts_any w3 (dayR a b c)
    have K4 := implDayLast_any w3 a b
    have HI := hide (lastR_in (y := a) (m := b) (d := c))
    have qo : (dayR a b c == dayR a b c) = true := by simp
    by_cases hin : YM a b ∧ 1 ≤ c ∧ c ≤ lastD a b
    · obtain ⟨k1, k2, k3, k4⟩ := parts_of hin
      rw [decide_eq_true k1, partY_in k1, partM_in k1, partD_in k1, k2, k3, k4] at K3
      have hc := (unhide HI).1 hin
      have tk : decide (0 < dayR a b c) = true := by have := k1.1; simp; omega
      have tc1 : decide (1 ≤ c) = true := by simpa using hc.1
      have tc2 : decide (c ≤ lastR a b) = true := by simpa using hc.2
      have qa : (a == a) = true := by simp
      have qb : (b == b) = true := by simp
      have qc : (c == c) = true := by simp
      clear hin k1 k2 k3 k4 hc HI
      generalize dayR a b c = k at *
      generalize lastR a b = l at *
      go_wp2_with fail
      refine (K1).mono ?_
      rintro e w4 ⟨rfl, rfl⟩
      go_wp2_with fail
      refine (K3).mono ?_
      rintro e w4 ⟨rfl, rfl⟩
      go_wp2_with fail
      refine (K2).mono ?_
      rintro e w4 ⟨rfl, rfl⟩
      go_wp2_with fail
      refine (K4).mono ?_
      rintro e w4 ⟨rfl, rfl⟩
      go_wp2
      go_ret
      exact ⟨rfl, unhide B3⟩
    · have k0 := ofR_out hin
      have hc : ¬ (1 ≤ c ∧ c ≤ lastR a b) := fun e => hin ((unhide HI).2 e)
      rw [k0] at K1 K2 K3
      rw [decide_eq_false (show ¬ IsDay 0 from fun e => by have := e.1; omega), show partY 0 = 0 from if_neg (fun e => by have := e.1; omega), show partM 0 = 0 from if_neg (fun e => by have := e.1; omega), show partD 0 = 0 from if_neg (fun e => by have := e.1; omega)] at K3
      clear hin k0 HI qo
      by_cases hc1 : 1 ≤ c
      · have tc1 : decide (1 ≤ c) = true := by simpa using hc1
        have tc2 : decide (c ≤ lastR a b) = false := by simp; omega
        clear hc
        generalize lastR a b = l at *
        go_wp2_with fail
        refine (K1).mono ?_
        rintro e w4 ⟨rfl, rfl⟩
        go_wp2_with fail
        refine (K3).mono ?_
        rintro e w4 ⟨rfl, rfl⟩
        go_wp2_with fail
        refine (K2).mono ?_
        rintro e w4 ⟨rfl, rfl⟩
        go_wp2_with fail
        refine (K4).mono ?_
        rintro e w4 ⟨rfl, rfl⟩
        go_wp2
        go_ret
        exact ⟨rfl, unhide B3⟩
      · have tc1 : decide (1 ≤ c) = false := by simpa using hc1
        clear hc
        go_wp2_with fail
        refine (K1).mono ?_
        rintro e w4 ⟨rfl, rfl⟩
        go_wp2_with fail
        refine (K3).mono ?_
        rintro e w4 ⟨rfl, rfl⟩
        go_wp2_with fail
        refine (K2).mono ?_
        rintro e w4 ⟨rfl, rfl⟩
        go_wp2
        go_ret
        exact ⟨rfl, unhide B3⟩
  · rw [decide_eq_false hd] at P1 P2
    clear HD hd D0
    generalize partY n = y at *
    generalize partM n = m at *
    generalize partD n = d at *
    go_wp2_with fail
    refine (P1).mono ?_
    rintro e w2 ⟨rfl, rfl⟩
    go_wp2_with fail
    refine (P2).mono ?_
    rintro e w2 ⟨rfl, rfl⟩
    go_wp2_with fail
    refine (unhide C1).mono ?_
    rintro e w3 ⟨a, b, c, rfl, b3⟩
    have B3 := hide (b1.trans (b3.mono b1.size))
    clear C1 b1 b3
    have K1 := implDayOf_any w3 a b c
    have K2 := specDayOf_any w3 a b c
    have K3 := implDayParts_any w3 (dayR a b c)
    have K4 := implDayLast_any w3 a b
    have HI := hide (lastR_in (y := a) (m := b) (d := c))
    have qo : (dayR a b c == dayR a b c) = true := by simp
    by_cases hin : YM a b ∧ 1 ≤ c ∧ c ≤ lastD a b
    · obtain ⟨k1, k2, k3, k4⟩ := parts_of hin
      rw [decide_eq_true k1, partY_in k1, partM_in k1, partD_in k1, k2, k3, k4] at K3
      have hc := (unhide HI).1 hin
      have tk : decide (0 < dayR a b c) = true := by have := k1.1; simp; omega
      have tc1 : decide (1 ≤ c) = true := by simpa using hc.1
      have tc2 : decide (c ≤ lastR a b) = true := by simpa using hc.2
      have qa : (a == a) = true := by simp
      have qb : (b == b) = true := by simp
      have qc : (c == c) = true := by simp
      clear hin k1 k2 k3 k4 hc HI
      generalize dayR a b c = k at *
      generalize lastR a b = l at *
      go_wp2_with fail
      refine (K1).mono ?_
      rintro e w4 ⟨rfl, rfl⟩
      go_wp2_with fail
      refine (K3).mono ?_
      rintro e w4 ⟨rfl, rfl⟩
      go_wp2_with fail
      refine (K2).mono ?_
      rintro e w4 ⟨rfl, rfl⟩
      go_wp2_with fail
      refine (K4).mono ?_
      rintro e w4 ⟨rfl, rfl⟩
      go_wp2
      go_ret
      exact ⟨rfl, unhide B3⟩
    · have k0 := ofR_out hin
      have hc : ¬ (1 ≤ c ∧ c ≤ lastR a b) := fun e => hin ((unhide HI).2 e)
      rw [k0] at K1 K2 K3
      rw [decide_eq_false (show ¬ IsDay 0 from fun e => by have := e.1; omega), show partY 0 = 0 from if_neg (fun e => by have := e.1; omega), show partM 0 = 0 from if_neg (fun e => by have := e.1; omega), show partD 0 = 0 from if_neg (fun e => by have := e.1; omega)] at K3
      clear hin k0 HI qo
      by_cases hc1 : 1 ≤ c
      · have tc1 : decide (1 ≤ c) = true := by simpa using hc1
        have tc2 : decide (c ≤ lastR a b) = false := by simp; omega
        clear hc
        generalize lastR a b = l at *
        go_wp2_with fail
        refine (K1).mono ?_
        rintro e w4 ⟨rfl, rfl⟩
        go_wp2_with fail
        refine (K3).mono ?_
        rintro e w4 ⟨rfl, rfl⟩
        go_wp2_with fail
        refine (K2).mono ?_
        rintro e w4 ⟨rfl, rfl⟩
        go_wp2_with fail
        refine (K4).mono ?_
        rintro e w4 ⟨rfl, rfl⟩
        go_wp2
        go_ret
        exact ⟨rfl, unhide B3⟩
      · have tc1 : decide (1 ≤ c) = false := by simpa using hc1
        clear hc
        go_wp2_with fail
        refine (K1).mono ?_
        rintro e w4 ⟨rfl, rfl⟩
        go_wp2_with fail
        refine (K3).mono ?_
        rintro e w4 ⟨rfl, rfl⟩
        go_wp2_with fail
        refine (K2).mono ?_
        rintro e w4 ⟨rfl, rfl⟩
        go_wp2
        go_ret
        exact ⟨rfl, unhide B3⟩

end Go.Proofs.Ytieinmfmkimjjaa
