/- A decimal at its least scale: plain mathematics. DecTrim of the program and of the specification, by contracts. -/
import Derived.Test.YthnkmjkgcnhlfaaGreatDoorH13
import Derived.Test.YthnkmjkgcnhlfaaGreatDoorK05
import Derived.Test.YthnkmjkgcnhlfaaGreatDoorH17
import Derived.Test.YthnkmjkgcnhlfaaGreatDoorK04
import Derived.Test.YthnkmjkgcnhlfaaGreatDoorH03
import Derived.Test.YthnkmjkgcnhlfaaGreatDoorH04
import Derived.Deep.RegionHeld
import Derived.Deep.RegionHeld3
namespace Go.Proofs.YthnkmjkgcnhlfaaGreatDoor
open Go.RowKit

/-- A number at its least scale. -/
def trimN : Nat → Nat → Nat × Nat
  | a, 0 => (a, 0)
  | a, s + 1 => if a % 10 = 0 then trimN (a / 10) s else (a, s + 1)

theorem trimN_zero (a : Nat) : trimN a 0 = (a, 0) := by unfold trimN; rfl

theorem trimN_step {a s : Nat} (h : a % 10 = 0) : trimN a (s + 1) = trimN (a / 10) s := by rw [trimN, if_pos h]

theorem trimN_stop {a s : Nat} (h : a % 10 ≠ 0) : trimN a (s + 1) = (a, s + 1) := by rw [trimN, if_neg h]

theorem trimN_le : ∀ (s a : Nat), (trimN a s).1 ≤ a
  | 0, a => by rw [trimN_zero]; exact Nat.le_refl _
  | s + 1, a => by
    by_cases h : a % 10 = 0
    · rw [trimN_step h]
      exact Nat.le_trans (trimN_le s (a / 10)) (Nat.div_le_self _ _)
    · rw [trimN_stop h]
      exact Nat.le_refl _

/-- What DecTrim answers. -/
def dtrimR (p : Bool) (l : List Int) (s : Int) : Bool × List Int × Int :=
  if decB p l s = true then (p, L (trimN (val l).toNat s.toNat).1, ((trimN (val l).toNat s.toNat).2 : Int)) else (false, [], 0)

end Go.Proofs.YthnkmjkgcnhlfaaGreatDoor

namespace Go.Proofs.YthnkmjkgcnhlfaaGreatDoor
open Go.RowKit
set_option maxRecDepth 100000


theorem L10 : L 10 = [10] := by rw [L_pos (by decide)]; simp [L_zero]

theorem cell_set3 {w : World} {b o c : Nat} {x : Value} (h : w.cell? ⟨b, o, none⟩ = some x) (hne : b ≠ c) (u u' u'' : Value) : (((w.setCell ⟨c, 0, none⟩ u).setCell ⟨c, 1, none⟩ u').setCell ⟨c, 2, none⟩ u'').cell? ⟨b, o, none⟩ = some x := by
  have h2 := cell_set2 h hne u u'
  generalize (w.setCell ⟨c, 0, none⟩ u).setCell ⟨c, 1, none⟩ u' = w2 at *
  exact (World.cell?_of_block (a := ⟨b, o, none⟩) (Below.heap_setCell _ _ _ _ (by exact hne))).trans h2

set_option maxHeartbeats 2000000 in
theorem l2Trim_any (w : World) (p : Bool) (u : Value) (a s : Nat) (hu : Reads w u (L a)) (hs : s ≤ 12) (ha : a < 10000 ^ 16) :
    Calls Tryz.prog 80 #[.agg #[.bool p, u, .int .i64 s]] w (GivesDec w p (L (trimN a s).1) ((trimN a s).2 : Int)) := by
  have HR := hide hu
  obtain ⟨ao, b1, off, cap, rfl, hu0⟩ := id hu
  clear hu0 hu
  have K0 := DcBx.start w p (.slice ao (L a).length cap) s
  go_enter Tryz.func80, Tryz.ntmps80
  go_wp2
  have HA := hide ha
  clear ha
  go_loopw [3, 4, 5, 6] (fun vv kk _ _ wr => ∃ (n k : Nat) (ao2 : Option Addr) (cap2 : Nat), vv = .slice ao2 (L n).length cap2 ∧ kk = .int .i64 k ∧ k ≤ s ∧ n < 10000 ^ 16 ∧ trimN a s = trimN n k ∧ Reads wr (.slice ao2 (L n).length cap2) (L n) ∧ DcBx w wr p (.slice ao (L a).length cap) s) (fun _ kk _ _ _ => (intOf kk).toNat)
  case atStart => exact ⟨a, s, ao, cap, rfl, rfl, Nat.le_refl _, unhide HA, rfl, (unhide HR).later K0.below, K0⟩
  case round =>
    obtain ⟨n, k, ao2, cap2, rfl, rfl, hk, hn, hT, hrn, hbox⟩ := hrel
    clear K0
    have RN := hide hrn
    have HNN := hide hn
    have HT := hide hT
    obtain ⟨ao3, b3, off3, cap3, e3, hr3⟩ := hrn
    have hl1 := hr3.le
    have hl2 := hr3.big
    simp only [Value.slice.injEq] at e3
    obtain ⟨rfl, -, rfl⟩ := e3
    unfold maxLen at hl2
    clear hr3 hT hn
    by_cases hk0 : k = 0
    · subst hk0
      have HK := hide (show trimN a s = (n, 0) by rw [unhide HT, trimN_zero])
      have C1 := hide (fun W (h : Below wr.heap.size wr W) => l1Trim_any W _ (L n) ((unhide RN).later h) (by have := L_len_le (unhide HNN); omega))
      rw [trim_self (L_last n)] at C1
      obtain ⟨kb, ka0, ka1, ka2, kr0, kr1, kr2, kf0, kf1, kf2, klt⟩ := id hbox
      have stab : ∀ w' : World, Below wr.heap.size wr w' → w'.cell? ⟨w.heap.size, 0, none⟩ = some (.bool p) := fun w' h => cell_later h ka0
      have Stab := hide stab
      clear stab
      go_wp2
      go_region_held (fun w' => w'.cell? ⟨w.heap.size, 0, none⟩ = some (.bool p))
        (first | with_reducible exact unhide Stab _ (Below.refl _ _).drew | with_reducible exact unhide Stab _ BW1 | exact cell_set3 (unhide Stab _ BW1) (by omega) _ _ _)
        (first | (go_at_call 108; refine (unhide C1 _ (Below.refl _ _).drew).mono ?_; rintro e w1 ⟨a1, c1, rfl, o1, b1⟩; have BW1 : Below wr.heap.size wr w1 := (Below.refl _ _).drew.trans b1; have K1 := hbox.later BW1; obtain ⟨qb, qa0, qa1, qa2, qr0, qr1, qr2, qf0, qf1, qf2, qlt⟩ := id K1))
      all_goals
        go_wp2
        refine bodyPost_ret (v := .agg #[.bool p, .slice a1 (L n).length c1, .int .i64 ((n, 0) : Nat × Nat).2]) (by simp [results, Tryz.results80, go_sem, qr0, qr1, qr2]) rfl ?_
        rw [unhide HK]
        exact ⟨a1, c1, rfl, (((o1.setBelow (by exact klt) _).setBelow (by exact klt) _).setBelow (by exact klt) _).mono kb.size, ((qb.setCell (by simp) _).setCell (by simp) _).setCell (by simp) _⟩
    · have hkp : 0 < k := by omega
      have CD := hide (fun W v (h : Below wr.heap.size wr W) (hv : Reads W v (L 10)) => l1DivAbs_any W _ v n 10 ((unhide RN).later h) hv (by decide) (pow16 (unhide HNN) (by decide)) (by decide))
      go_wp2_with fail
      have bt : Below wr.heap.size wr (wr.alloc (.cells #[.int .i64 10] 3)) := (Below.refl _ _).alloc (Nat.le_refl _) _
      have rt : Reads (wr.alloc (.cells #[.int .i64 10] 3)) (.slice (some ⟨wr.heap.size, 0, none⟩) 1 1) (L 10) := by rw [L10]; exact (own_one wr 10 (Nat.le_refl _)).reads
      refine (unhide CD _ _ bt rt).mono ?_
      rintro e w1 ⟨qo, ro, qc, rc, B, rfl, hB, oq, or, hlt, b1⟩
      have bw1 : Below wr.heap.size wr w1 := bt.trans (b1.mono bt.size)
      have hbox1 := hbox.later bw1
      have RN1 := hide ((unhide RN).later bw1)
      have RQ := hide oq.reads
      clear or hlt b1 rt bt hB CD RN hbox oq
      have hlr := L_len_zero (n := n % 10)
      by_cases hm : n % 10 = 0
      · have e0 : (L (n % 10)).length = 0 := hlr.2 hm
        have HT2 := hide (show trimN a s = trimN (n / 10) (k - 1) by rw [unhide HT, show k = (k - 1) + 1 by omega, trimN_step hm]; rfl)
        have hkz : ((k - 1 : Nat) : Int) = (k : Int) - 1 := by omega
        have HKZ := hide hkz
        generalize (L (n % 10)).length = lr at *
        clear hlr hkz hm
        go_wp2
        go_roundw
        case rel => exact ⟨n / 10, k - 1, qo, qc, rfl, by rw [unhide HKZ], by omega, Nat.lt_of_le_of_lt (Nat.div_le_self _ _) (unhide HNN), unhide HT2, unhide RQ, hbox1⟩
        case measure => simp only [intOf]; omega
      · have e0 : 0 < (L (n % 10)).length := by rcases Nat.eq_zero_or_pos (L (n % 10)).length with k | k; exact absurd (hlr.1 k) hm; exact k
        have HK2 := hide (show trimN a s = (n, k) by rw [unhide HT]; obtain ⟨j, rfl⟩ : ∃ j, k = j + 1 := ⟨k - 1, by omega⟩; exact trimN_stop hm)
        generalize (L (n % 10)).length = lr at *
        clear hlr hm
        have C1 := hide (fun W (h : Below w1.heap.size w1 W) => l1Trim_any W _ (L n) ((unhide RN1).later h) (by have := L_len_le (unhide HNN); omega))
        rw [trim_self (L_last n)] at C1
        obtain ⟨kb, ka0, ka1, ka2, kr0, kr1, kr2, kf0, kf1, kf2, klt⟩ := id hbox1
        have stab : ∀ w' : World, Below w1.heap.size w1 w' → w'.cell? ⟨w.heap.size, 0, none⟩ = some (.bool p) := fun w' h => cell_later h ka0
        have Stab := hide stab
        clear stab
        go_wp2
        go_region_held (fun w' => w'.cell? ⟨w.heap.size, 0, none⟩ = some (.bool p))
          (first | with_reducible exact unhide Stab _ (Below.refl _ _).drew | with_reducible exact unhide Stab _ BW1 | exact cell_set3 (unhide Stab _ BW1) (by omega) _ _ _)
          (first | (go_at_call 108; refine (unhide C1 _ (Below.refl _ _).drew).mono ?_; rintro e w5 ⟨a5, c5, rfl, o5, b5⟩; have BW1 : Below w1.heap.size w1 w5 := (Below.refl _ _).drew.trans b5; have K1 := hbox1.later BW1; obtain ⟨qb, qa0, qa1, qa2, qr0, qr1, qr2, qf0, qf1, qf2, qlt⟩ := id K1))
        all_goals
          go_wp2
          refine bodyPost_ret (v := .agg #[.bool p, .slice a5 (L n).length c5, .int .i64 k]) (by simp [results, Tryz.results80, go_sem, qr0, qr1, qr2]) rfl ?_
          rw [unhide HK2]
          exact ⟨a5, c5, rfl, (((o5.setBelow (by exact klt) _).setBelow (by exact klt) _).setBelow (by exact klt) _).mono kb.size, ((qb.setCell (by simp) _).setCell (by simp) _).setCell (by simp) _⟩

set_option maxHeartbeats 1000000 in
theorem specDecTrim_any (w : World) (p : Bool) (u : Value) (l : List Int) (s : Int) (hu : Reads w u l) :
    Calls Tryz.prog 43 #[.agg #[.bool p, u, .int .i64 s]] w (GivesDec w (dtrimR p l s).1 (dtrimR p l s).2.1 (dtrimR p l s).2.2) := by
  have CA := hide (fun W (h : Below w.heap.size w W) => l2Ok_any W p u l s (hu.later h))
  obtain ⟨ao, b1, off, cap, rfl, hu0⟩ := id hu
  clear hu0
  have K0 := DcBx.start w p (.slice ao l.length cap) s
  by_cases ha : decB p l s = true
  · rw [ha] at CA
    obtain ⟨ha1, ha2, ha3, ha4⟩ := decB_iff.1 ha
    obtain ⟨ea, la⟩ := ok_limbs (okB_true ha1)
    have hsp := ok_sign (okB_true ha1)
    unfold zv at hsp
    have hua : Reads w (.slice ao l.length cap) (L (val l).toNat) := by rw [← ea]; exact hu
    obtain ⟨s, rfl⟩ := Int.eq_ofNat_of_zero_le ha3
    have Hfin := hide (by unfold dtrimR; rw [if_pos ha]; simp only [Int.toNat_natCast] : dtrimR p l s = (p, L (trimN (val l).toNat s).1, ((trimN (val l).toNat s).2 : Int)))
    generalize (val l).toNat = a at *
    clear ha1 ha2 ha hu ea
    have C := hide (fun W (h : Below w.heap.size w W) => l2Trim_any W p _ a s (hua.later h) (by omega) la)
    rw [unhide Hfin]
    generalize trimN a s = T at *
    obtain ⟨tn, ts⟩ := T
    clear hua hsp la Hfin
    go_enter Tryz.func43, Tryz.ntmps43
    go_wp2_with fail
    refine (unhide CA _ K0.below).mono ?_
    rintro e w1 ⟨rfl, b1⟩
    have K1 := K0.later b1
    obtain ⟨kb, ka0, ka1, ka2, kr0, kr1, kr2, kf0, kf1, kf2, klt⟩ := id K1
    clear b1
    go_wp2_with fail
    refine (unhide C w1 kb).mono ?_
    rintro e w2 ⟨a2, c2, rfl, o2, b2⟩
    have K2 := K1.later b2
    obtain ⟨qb, qa0, qa1, qa2, qr0, qr1, qr2, qf0, qf1, qf2, qlt⟩ := id K2
    clear b2 ka0 ka1 ka2 kr0 kr1 kr2 kf0 kf1 kf2
    go_wp2
    refine bodyPost_ret (v := .agg #[.bool p, .slice a2 (L tn).length c2, .int .i64 (ts : Int)]) (by simp [results, Tryz.results43, go_sem, qr0, qr1, qr2]) rfl ?_
    exact ⟨a2, c2, rfl, (((o2.setBelow (by exact klt) _).setBelow (by exact klt) _).setBelow (by exact klt) _).mono kb.size, ((qb.setCell (by simp) _).setCell (by simp) _).setCell (by simp) _⟩
  · have ha' : decB p l s = false := by simpa using ha
    rw [ha'] at CA
    have Hfin := hide (by unfold dtrimR; rw [if_neg ha] : dtrimR p l s = (false, [], 0))
    clear ha ha' hu
    go_enter Tryz.func43, Tryz.ntmps43
    go_wp2_with fail
    refine (unhide CA _ K0.below).mono ?_
    rintro e w1 ⟨rfl, b1⟩
    have K1 := K0.later b1
    obtain ⟨kb, ka0, ka1, ka2, kr0, kr1, kr2, kf0, kf1, kf2, klt⟩ := id K1
    clear b1
    go_wp2
    refine bodyPost_ret (v := .agg #[.bool false, .slice none 0 0, .int .i64 0]) (by simp [results, Tryz.results43, go_sem, kr0, kr1, kr2]) rfl ?_
    rw [unhide Hfin]
    exact ⟨none, 0, rfl, Own.nil _ _, ((kb.setCell (by simp) _).setCell (by simp) _).setCell (by simp) _⟩

set_option maxHeartbeats 4000000 in
theorem implDecTrim_any (w : World) (p : Bool) (u : Value) (l : List Int) (s : Int) (hu : Reads w u l) (tt : Tab w) :
    Calls Tryz.prog 41 #[.agg #[.bool p, u, .int .i64 s]] w (GivesDec w (dtrimR p l s).1 (dtrimR p l s).2.1 (dtrimR p l s).2.2) := by
  have CA := hide (fun W (h : Below w.heap.size w W) => implDecOk_any W p u l s (hu.later h) (tt.later h))
  obtain ⟨ao, b1, off, cap, rfl, hu0⟩ := id hu
  clear hu0
  have K0 := DcBx.start w p (.slice ao l.length cap) s
  by_cases ha : decB p l s = true
  · rw [ha] at CA
    obtain ⟨ha1, ha2, ha3, ha4⟩ := decB_iff.1 ha
    obtain ⟨ea, la⟩ := ok_limbs (okB_true ha1)
    have hsp := ok_sign (okB_true ha1)
    unfold zv at hsp
    have hua : Reads w (.slice ao l.length cap) (L (val l).toNat) := by rw [← ea]; exact hu
    obtain ⟨s, rfl⟩ := Int.eq_ofNat_of_zero_le ha3
    have Hfin := hide (by unfold dtrimR; rw [if_pos ha]; simp only [Int.toNat_natCast] : dtrimR p l s = (p, L (trimN (val l).toNat s).1, ((trimN (val l).toNat s).2 : Int)))
    generalize (val l).toNat = a at *
    clear ha1 ha2 ha hu ea
    rw [unhide Hfin]
    have HLA := hide la
    have HSP := hide hsp
    have CP := hide (fun W (h : Below w.heap.size w W) => plus_any W _ (.slice none 0 0) a 0 (hua.later h) (by rw [L_zero]; exact (Own.nil 0 _).reads) (pow16 la (by decide)) (by decide))
    rw [Nat.add_zero] at CP
    clear hua hsp la Hfin
    go_enter Tryz.func41, Tryz.ntmps41
    go_wp2_with fail
    refine (unhide CA _ K0.below).mono ?_
    rintro e w1 ⟨rfl, b1⟩
    have K1 := K0.later b1
    obtain ⟨kb, ka0, ka1, ka2, kr0, kr1, kr2, kf0, kf1, kf2, klt⟩ := id K1
    clear b1
    have stab : ∀ w' : World, Below w1.heap.size w1 w' → (w'.cell? ⟨w.heap.size, 1, none⟩ = some (.slice ao l.length cap) ∧ w'.cell? ⟨w.heap.size, 2, none⟩ = some (.int .i64 s)) := fun w' h => ⟨cell_later h ka1, cell_later h ka2⟩
    have Stab := hide stab
    clear stab
    go_wp2
    go_region_held (fun w' => w'.cell? ⟨w.heap.size, 1, none⟩ = some (.slice ao l.length cap) ∧ w'.cell? ⟨w.heap.size, 2, none⟩ = some (.int .i64 s))
      (first | with_reducible exact unhide Stab _ (Below.refl _ _).drew | with_reducible exact unhide Stab _ BW2)
      (first | (go_at_call 78; refine (unhide CP _ ?_).mono ?_; exact K1.below.drew; rintro e w2 ⟨a2, c2, rfl, o2, b2⟩; have BW2 : Below w1.heap.size w1 w2 := (Below.refl _ _).drew.trans b2; have K2 := K1.later BW2; have O2 : Own (w.heap.size + 2) w2 _ (L a) := o2.mono (by have := K1.lt; exact this)))
    all_goals
      clear Stab ka0 ka1 ka2 kr0 kr1 kr2 kf0 kf1 kf2 klt kb b2 o2 BW2 K1 K0 CA CP
      go_wp2
      go_loopw [3, 4, 5, 6] (fun vv kk _ _ wr => ∃ (n k : Nat) (ao2 : Option Addr) (cap2 : Nat), vv = .slice ao2 (L n).length cap2 ∧ kk = .int .i64 k ∧ k ≤ s ∧ n < 10000 ^ 16 ∧ (p = true → 0 < n) ∧ trimN a s = trimN n k ∧ Own (w.heap.size + 2) wr (.slice ao2 (L n).length cap2) (L n) ∧ DcBx w wr p (.slice ao l.length cap) s) (fun _ kk _ _ _ => (intOf kk).toNat)
      case atStart =>
        refine ⟨a, s, a2, c2, rfl, rfl, Nat.le_refl _, unhide HLA, fun hp => ?_, rfl, O2, K2⟩
        have := unhide HSP
        rw [hp] at this
        unfold sg zof at this
        simp at this
        exact this
      case round =>
        obtain ⟨n, k, ao2, cap2, rfl, rfl, hk, hn, hpn, hT, hon, hbox⟩ := hrel
        clear K2 O2
        have ON := hide hon
        have HNN := hide hn
        have HT := hide hT
        have HPN := hide hpn
        clear hn hT hpn
        have hsh := hon.split
        have hl1 : (L n).length ≤ cap2 := by rcases hsh with ⟨h1, h2⟩ | ⟨g, c, h1, _, _, h2, _⟩; (simp only [Value.slice.injEq] at h1; omega); (simp only [Value.slice.injEq] at h1; omega)
        have hl2 : cap2 ≤ 9223372036854775807 := by rcases hsh with ⟨h1, h2⟩ | ⟨g, c, h1, _, _, _, h2⟩; (simp only [Value.slice.injEq] at h1; omega); (simp only [Value.slice.injEq] at h1; omega)
        clear hsh hon
        by_cases hk0 : k = 0
        · subst hk0
          have HK := hide (show trimN a s = (n, 0) by rw [unhide HT, trimN_zero])
          obtain ⟨z, hz, hz1, hz2⟩ : ∃ z, z = zof p n ∧ sg z = p ∧ z.natAbs = n := by
            refine ⟨_, rfl, ?_, ?_⟩
            · have := unhide HPN
              unfold sg zof
              cases p
              · rw [if_neg (by simp), decide_eq_false_iff_not]; omega
              · have := this rfl
                rw [if_pos rfl, decide_eq_true_iff]; omega
            · unfold zof
              split
              · exact (Int.natAbs_neg _).trans (Int.natAbs_natCast _)
              · exact Int.natAbs_natCast _
          obtain ⟨kb, ka0, ka1, ka2, kr0, kr1, kr2, kf0, kf1, kf2, klt⟩ := id hbox
          have G := hide (fun w5 (b : Below wr.heap.size wr w5) => signed_gives (w := w) (unhide ON) kb b hz)
          rw [hz1, hz2] at G
          clear hz hz1 hz2 z
          have CS := hide (signed_any wr p ao2 (L n).length cap2)
          go_wp2_with fail
          refine (unhide CS).mono ?_
          rintro e w5 ⟨he, b5⟩
          obtain ⟨ao3, cap3, e3, o3, bb3⟩ := unhide G w5 b5
          rw [e3] at he
          subst he
          have K5 := hbox.later b5
          obtain ⟨qb, qa0, qa1, qa2, qr0, qr1, qr2, qf0, qf1, qf2, qlt⟩ := id K5
          clear b5 e3 ka0 ka1 ka2 kr0 kr1 kr2 kf0 kf1 kf2
          go_wp2
          refine bodyPost_ret (v := .agg #[.bool p, .slice ao3 (L n).length cap3, .int .i64 ((0 : Nat) : Int)]) (by simp [results, Tryz.results41, go_sem, qr0, qr1, qr2]) rfl ?_
          rw [unhide HK]
          exact ⟨ao3, cap3, rfl, (((o3.setBelow (by simp) _).setBelow (by simp) _).setBelow (by simp) _).mono (by omega), ((qb.setCell (by simp) _).setCell (by simp) _).setCell (by simp) _⟩
        · have hkp : 0 < k := by omega
          have CD := hide (fun W v (h : Below wr.heap.size wr W) (hv : Reads W v (L 10)) => through_any W _ v n 10 ((unhide ON).reads.later h) hv (by decide) (pow16 (unhide HNN) (by decide)) (by decide))
          go_wp2_with fail
          have bt : Below wr.heap.size wr (wr.alloc (.cells #[.int .i64 10] 3)) := (Below.refl _ _).alloc (Nat.le_refl _) _
          have rt : Reads (wr.alloc (.cells #[.int .i64 10] 3)) (.slice (some ⟨wr.heap.size, 0, none⟩) 1 1) (L 10) := by rw [L10]; exact (own_one wr 10 (Nat.le_refl _)).reads
          refine (unhide CD _ _ bt rt).mono ?_
          rintro e w6 ⟨qo, ro, qc, rc, rfl, oq, hq, or, hlt, b6⟩
          have bw6 : Below wr.heap.size wr w6 := bt.trans (b6.mono bt.size)
          have hbox6 := hbox.later bw6
          have ON6 := hide ((unhide ON).later bw6)
          have OQ := hide (oq.mono (B' := w.heap.size + 2) (by have := hbox.lt; simp; omega))
          clear or hlt b6 rt bt CD ON hbox oq hq bw6
          have hlr := L_len_zero (n := n % 10)
          by_cases hm : n % 10 = 0
          · have e0 : (L (n % 10)).length = 0 := hlr.2 hm
            have HT2 := hide (show trimN a s = trimN (n / 10) (k - 1) by rw [unhide HT, show k = (k - 1) + 1 by omega, trimN_step hm]; rfl)
            have hkz : ((k - 1 : Nat) : Int) = (k : Int) - 1 := by omega
            have HKZ := hide hkz
            have HP2 := hide (fun hp => (by have := unhide HPN hp; omega : 0 < n / 10))
            generalize (L (n % 10)).length = lr at *
            clear hlr hkz hm
            go_wp2
            go_roundw
            case rel => exact ⟨n / 10, k - 1, qo, qc, rfl, by rw [unhide HKZ], by omega, Nat.lt_of_le_of_lt (Nat.div_le_self _ _) (unhide HNN), unhide HP2, unhide HT2, unhide OQ, hbox6⟩
            case measure => simp only [intOf]; omega
          · have e0 : 0 < (L (n % 10)).length := by rcases Nat.eq_zero_or_pos (L (n % 10)).length with k | k; exact absurd (hlr.1 k) hm; exact k
            have HK2 := hide (show trimN a s = (n, k) by rw [unhide HT]; obtain ⟨j, rfl⟩ : ∃ j, k = j + 1 := ⟨k - 1, by omega⟩; exact trimN_stop hm)
            generalize (L (n % 10)).length = lr at *
            clear hlr hm
            obtain ⟨z, hz, hz1, hz2⟩ : ∃ z, z = zof p n ∧ sg z = p ∧ z.natAbs = n := by
              refine ⟨_, rfl, ?_, ?_⟩
              · have := unhide HPN
                unfold sg zof
                cases p
                · rw [if_neg (by simp), decide_eq_false_iff_not]; omega
                · have := this rfl
                  rw [if_pos rfl, decide_eq_true_iff]; omega
              · unfold zof
                split
                · exact (Int.natAbs_neg _).trans (Int.natAbs_natCast _)
                · exact Int.natAbs_natCast _
            obtain ⟨kb, ka0, ka1, ka2, kr0, kr1, kr2, kf0, kf1, kf2, klt⟩ := id hbox6
            have G := hide (fun w5 (b : Below w6.heap.size w6 w5) => signed_gives (w := w) (unhide ON6) kb b hz)
            rw [hz1, hz2] at G
            clear hz hz1 hz2 z
            have CS := hide (signed_any w6 p ao2 (L n).length cap2)
            go_wp2_with fail
            refine (unhide CS).mono ?_
            rintro e w5 ⟨he, b5⟩
            obtain ⟨ao3, cap3, e3, o3, bb3⟩ := unhide G w5 b5
            rw [e3] at he
            subst he
            have K5 := hbox6.later b5
            obtain ⟨qb, qa0, qa1, qa2, qr0, qr1, qr2, qf0, qf1, qf2, qlt⟩ := id K5
            clear b5 e3 ka0 ka1 ka2 kr0 kr1 kr2 kf0 kf1 kf2
            go_wp2
            refine bodyPost_ret (v := .agg #[.bool p, .slice ao3 (L n).length cap3, .int .i64 (k : Int)]) (by simp [results, Tryz.results41, go_sem, qr0, qr1, qr2]) rfl ?_
            rw [unhide HK2]
            exact ⟨ao3, cap3, rfl, (((o3.setBelow (by simp) _).setBelow (by simp) _).setBelow (by simp) _).mono (by omega), ((qb.setCell (by simp) _).setCell (by simp) _).setCell (by simp) _⟩
  · have ha' : decB p l s = false := by simpa using ha
    rw [ha'] at CA
    have Hfin := hide (by unfold dtrimR; rw [if_neg ha] : dtrimR p l s = (false, [], 0))
    clear ha ha' hu
    go_enter Tryz.func41, Tryz.ntmps41
    go_wp2_with fail
    refine (unhide CA _ K0.below).mono ?_
    rintro e w1 ⟨rfl, b1⟩
    have K1 := K0.later b1
    obtain ⟨kb, ka0, ka1, ka2, kr0, kr1, kr2, kf0, kf1, kf2, klt⟩ := id K1
    clear b1
    go_wp2
    refine bodyPost_ret (v := .agg #[.bool false, .slice none 0 0, .int .i64 0]) (by simp [results, Tryz.results41, go_sem, kr0, kr1, kr2]) rfl ?_
    rw [unhide Hfin]
    exact ⟨none, 0, rfl, Own.nil _ _, ((kb.setCell (by simp) _).setCell (by simp) _).setCell (by simp) _⟩

end Go.Proofs.YthnkmjkgcnhlfaaGreatDoor
