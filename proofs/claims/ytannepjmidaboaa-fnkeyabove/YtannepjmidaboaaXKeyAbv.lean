/- The law FnKeyAbove: its walk. -/
import Derived.Test.YtannepjmidaboaaKeyA
import Derived.Test.YtannepjmidaboaaDrKey
import Derived.Test.YtannepjmidaboaaLexN
import Derived.Test.YtannepjmidaboaaByt1
namespace Go.Proofs.Ytannepjmidaboaa
open Go.RowKit

set_option maxHeartbeats 1000000 in
theorem xKeyAbv_walk (w : World) (v v' : Value) (h : Byt w v) (h' : Byt w v') :
    Calls Try.prog 3 #[v, v'] w fun e w' => e = .returned (.bool true) ∧ Below w.heap.size w w' := by
  have C0 := hide (drawKeyAbove_any w v h)
  obtain ⟨ao, n, cap, rfl, hn⟩ := byt_len h
  obtain ⟨ao', n', cap', rfl, hn'⟩ := byt_len h'
  clear h
  by_cases hl : (1048576 : Int) < n
  · have t0 : decide ((1048576 : Int) < n) = true := by simpa using hl
    clear h'
    go_enter Try.func3, Try.ntmps3
    go_wp2
    go_ret
    exact ⟨rfl, Below.refl _ _⟩
  have t0 : decide ((1048576 : Int) < n) = false := by simpa using hl
  by_cases hl' : (1048576 : Int) < n'
  · have t1 : decide ((1048576 : Int) < n') = true := by simpa using hl'
    clear h'
    go_enter Try.func3, Try.ntmps3
    go_wp2
    go_ret
    exact ⟨rfl, Below.refl _ _⟩
  have t1 : decide ((1048576 : Int) < n') = false := by simpa using hl'
  go_enter Try.func3, Try.ntmps3
  go_wp2_with fail
  refine (unhide C0).mono ?_
  rintro e w1 ⟨s, rfl, hs, b1⟩
  clear C0
  have C1 := hide (drawKeyAbove_any w1 _ (h'.later b1))
  clear h'
  go_wp2_with fail
  refine (unhide C1).mono ?_
  rintro e w2 ⟨t, rfl, ht, b2⟩
  have B2 := hide (b1.trans (b2.mono b1.size))
  clear C1 b1 b2
  obtain ⟨k, hk⟩ := abN_is s
  have K1 := fun W => implKeyAbove_any W s (by omega) k hk
  have K2 := fun W => specKeyAbove_any W s (by omega) k hk
  by_cases h0 : k = 0
  · rw [show abv s k = ⟨#[]⟩ from dif_neg (by omega)] at K1 K2
    clear hk h0
    by_cases hz : s.size ≤ t.size
    · have tz : decide ((s.size : Int) ≤ t.size) = true := by simpa using hz
      by_cases hb : ((t.extract 0 s.size).toList == s.toList) = true
      · obtain ⟨u, hu⟩ := (begins_iff s t).1 hb
        have TS : Op.bytesLess t.toList s.toList = false := by rw [hu]; exact less_prefix _ _
        clear hu
        go_wp2_with fail
        refine (K1 _).mono ?_
        rintro e w3 ⟨rfl, b3⟩
        go_wp2_with fail
        refine (K2 _).mono ?_
        rintro e w4 ⟨rfl, b4⟩
        have B4 := hide (((unhide B2).trans (b3.mono (unhide B2).size)).trans (b4.mono (Nat.le_trans (unhide B2).size b3.size)))
        clear b3 b4 B2
        go_wp2
        go_ret
        exact ⟨rfl, unhide B4⟩
      · have hb' : ((t.extract 0 s.size).toList == s.toList) = false := by simpa using hb
        clear hb
        cases TS : Op.bytesLess t.toList s.toList with
        | true =>
          go_wp2_with fail
          refine (K1 _).mono ?_
          rintro e w3 ⟨rfl, b3⟩
          go_wp2_with fail
          refine (K2 _).mono ?_
          rintro e w4 ⟨rfl, b4⟩
          have B4 := hide (((unhide B2).trans (b3.mono (unhide B2).size)).trans (b4.mono (Nat.le_trans (unhide B2).size b3.size)))
          clear b3 b4 B2
          go_wp2
          go_ret
          exact ⟨rfl, unhide B4⟩
        | false =>
          go_wp2_with fail
          refine (K1 _).mono ?_
          rintro e w3 ⟨rfl, b3⟩
          go_wp2_with fail
          refine (K2 _).mono ?_
          rintro e w4 ⟨rfl, b4⟩
          have B4 := hide (((unhide B2).trans (b3.mono (unhide B2).size)).trans (b4.mono (Nat.le_trans (unhide B2).size b3.size)))
          clear b3 b4 B2
          go_wp2
          go_ret
          exact ⟨rfl, unhide B4⟩
    · have tz : decide ((s.size : Int) ≤ t.size) = false := by simpa using hz
      cases TS : Op.bytesLess t.toList s.toList with
      | true =>
        go_wp2_with fail
        refine (K1 _).mono ?_
        rintro e w3 ⟨rfl, b3⟩
        go_wp2_with fail
        refine (K2 _).mono ?_
        rintro e w4 ⟨rfl, b4⟩
        have B4 := hide (((unhide B2).trans (b3.mono (unhide B2).size)).trans (b4.mono (Nat.le_trans (unhide B2).size b3.size)))
        clear b3 b4 B2
        go_wp2
        go_ret
        exact ⟨rfl, unhide B4⟩
      | false =>
        go_wp2_with fail
        refine (K1 _).mono ?_
        rintro e w3 ⟨rfl, b3⟩
        go_wp2_with fail
        refine (K2 _).mono ?_
        rintro e w4 ⟨rfl, b4⟩
        have B4 := hide (((unhide B2).trans (b3.mono (unhide B2).size)).trans (b4.mono (Nat.le_trans (unhide B2).size b3.size)))
        clear b3 b4 B2
        go_wp2
        go_ret
        exact ⟨rfl, unhide B4⟩
  · obtain ⟨P, c, F, hS, hc, hF, hX⟩ := abv_parts hk h0
    generalize abv s k = x at *
    have xe : x.toList.isEmpty = false := by rw [hX]; simp
    have L1 : Op.bytesLess (s ++ t).toList x.toList = true := by rw [app_toList, hS, hX]; exact above_less P F t.toList c hc
    have L2 : Op.bytesLess s.toList x.toList = true := by
      have := above_less P F [] c hc
      rw [List.append_nil] at this
      rw [hS, hX]; exact this
    have HM := hide (fun (h1 : Op.bytesLess t.toList s.toList = false) (h2 : Op.bytesLess t.toList x.toList = true) => (by rw [hS] at h1 ⊢; rw [hX] at h2; exact between P F t.toList c hc hF h1 h2 : ∃ u, t.toList = s.toList ++ u))
    have HN := hide (fun (u : List UInt8) (hu : t.toList = s.toList ++ u) => (by rw [hu, hS, hX]; exact above_less P F u c hc : Op.bytesLess t.toList x.toList = true))
    clear hS hX hF hc hk h0
    by_cases hz : s.size ≤ t.size
    · have tz : decide ((s.size : Int) ≤ t.size) = true := by simpa using hz
      by_cases hb : ((t.extract 0 s.size).toList == s.toList) = true
      · obtain ⟨u, hu⟩ := (begins_iff s t).1 hb
        have TS : Op.bytesLess t.toList s.toList = false := by rw [hu]; exact less_prefix _ _
        have TX := unhide HN u hu
        clear hu HM HN
        go_wp2_with fail
        refine (K1 _).mono ?_
        rintro e w3 ⟨rfl, b3⟩
        go_wp2_with fail
        refine (K2 _).mono ?_
        rintro e w4 ⟨rfl, b4⟩
        have B4 := hide (((unhide B2).trans (b3.mono (unhide B2).size)).trans (b4.mono (Nat.le_trans (unhide B2).size b3.size)))
        clear b3 b4 B2
        go_wp2
        go_ret
        exact ⟨rfl, unhide B4⟩
      · have hb' : ((t.extract 0 s.size).toList == s.toList) = false := by simpa using hb
        cases TS : Op.bytesLess t.toList s.toList with
        | true =>
          clear hb HM HN
          go_wp2_with fail
          refine (K1 _).mono ?_
          rintro e w3 ⟨rfl, b3⟩
          go_wp2_with fail
          refine (K2 _).mono ?_
          rintro e w4 ⟨rfl, b4⟩
          have B4 := hide (((unhide B2).trans (b3.mono (unhide B2).size)).trans (b4.mono (Nat.le_trans (unhide B2).size b3.size)))
          clear b3 b4 B2
          go_wp2
          go_ret
          exact ⟨rfl, unhide B4⟩
        | false =>
          have TX : Op.bytesLess t.toList x.toList = false := by
            cases e : Op.bytesLess t.toList x.toList with
            | false => rfl
            | true => exact absurd ((begins_iff s t).2 (unhide HM TS e)) hb
          clear hb HM HN
          go_wp2_with fail
          refine (K1 _).mono ?_
          rintro e w3 ⟨rfl, b3⟩
          go_wp2_with fail
          refine (K2 _).mono ?_
          rintro e w4 ⟨rfl, b4⟩
          have B4 := hide (((unhide B2).trans (b3.mono (unhide B2).size)).trans (b4.mono (Nat.le_trans (unhide B2).size b3.size)))
          clear b3 b4 B2
          go_wp2
          go_ret
          exact ⟨rfl, unhide B4⟩
    · have tz : decide ((s.size : Int) ≤ t.size) = false := by simpa using hz
      cases TS : Op.bytesLess t.toList s.toList with
      | true =>
        clear HM HN
        go_wp2_with fail
        refine (K1 _).mono ?_
        rintro e w3 ⟨rfl, b3⟩
        go_wp2_with fail
        refine (K2 _).mono ?_
        rintro e w4 ⟨rfl, b4⟩
        have B4 := hide (((unhide B2).trans (b3.mono (unhide B2).size)).trans (b4.mono (Nat.le_trans (unhide B2).size b3.size)))
        clear b3 b4 B2
        go_wp2
        go_ret
        exact ⟨rfl, unhide B4⟩
      | false =>
        have TX : Op.bytesLess t.toList x.toList = false := by
          cases e : Op.bytesLess t.toList x.toList with
          | false => rfl
          | true =>
            obtain ⟨u, hu⟩ := unhide HM TS e
            have := congrArg List.length hu
            rw [Lib.toList_data, Lib.toList_data, List.length_append] at this
            simp at this
            omega
        clear HM HN
        go_wp2_with fail
        refine (K1 _).mono ?_
        rintro e w3 ⟨rfl, b3⟩
        go_wp2_with fail
        refine (K2 _).mono ?_
        rintro e w4 ⟨rfl, b4⟩
        have B4 := hide (((unhide B2).trans (b3.mono (unhide B2).size)).trans (b4.mono (Nat.le_trans (unhide B2).size b3.size)))
        clear b3 b4 B2
        go_wp2
        go_ret
        exact ⟨rfl, unhide B4⟩

end Go.Proofs.Ytannepjmidaboaa
