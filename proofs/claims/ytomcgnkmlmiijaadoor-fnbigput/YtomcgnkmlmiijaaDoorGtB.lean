/- BigGet of the program and of the specification, by contracts. -/
import Derived.Test.YtomcgnkmlmiijaaDoorGj
import Derived.Test.YtomcgnkmlmiijaaDoorGtA
namespace Go.Proofs.YtomcgnkmlmiijaaDoor
open Go.RowKit

/-- A text is a number's. -/
def getOk (s : ByteArray) : Bool := plainB (restB s) && decide ((restB s).size ≤ 64) && !(negB s && ((restB s).toList == [48]))

/-- The number that a text says. -/
def getZ (s : ByteArray) : Int := zof (negB s) (num (dg (restB s)))

/-- What BigGet answers. -/
def getR (s : ByteArray) : Bool × List Int × Bool := outR (getOk s) (getZ s)

theorem getR_no {s : ByteArray} (h : getOk s = false) : getR s = (false, [], false) := by unfold getR outR; rw [h, if_neg (by simp)]

theorem get_num {s : ByteArray} (h : getOk s = true) : num (dg (restB s)) < 10000 ^ 16 := by
  unfold getOk at h
  simp only [Bool.and_eq_true, decide_eq_true_eq] at h
  have hf := fig_dg (plain_fig h.1.1)
  have := num_lt hf.2
  rw [dg_len] at this
  have e : (10000 : Nat) ^ 16 = 10 ^ 64 := by decide
  rw [e]
  exact Nat.lt_of_lt_of_le this (Nat.pow_le_pow_right (by decide) h.1.2)

theorem getR_yes {s : ByteArray} (h : getOk s = true) : getR s = (sg (getZ s), L (getZ s).natAbs, true) := by
  unfold getR outR
  have e : (getZ s).natAbs = num (dg (restB s)) := by unfold getZ zof; split <;> simp
  rw [if_pos ⟨h, by rw [e]; exact L_len_le (get_num h)⟩]

set_option maxHeartbeats 1000000 in
theorem specBigGet_any (w : World) (s : ByteArray) (hs : s.size ≤ maxLen) :
    Calls Tryd.prog 14 #[.string s] w (GivesBig2 w (getR s)) := by
  have K0 : EBox' w (w.alloc (.cells #[.bool false, .slice none 0 0] 25)) := EBox'.start w
  have hr0 : (restB s).size ≤ maxLen := by unfold restB; split <;> (try rw [ByteArray.size_extract]) <;> omega
  have C1 := hide (fun W => l1IsFigures_any W (restB s) hr0)
  have hr1 : (restB s).size ≤ 9223372036854775807 := by unfold maxLen at hr0; omega
  unfold maxLen at hs
  clear hr0
  by_cases h0 : s.size = 0
  · have HN := hide (neg_no h0)
    have HR := hide (show restB s = s by unfold restB; rw [unhide HN, if_neg (by simp)])
    rw [unhide HR] at C1 hr1
    have E := hide (getR_no (s := s) (by unfold getOk; rw [unhide HN, unhide HR, plain_nil h0]; rfl))
    rw [plain_nil h0] at C1
    go_enter Tryd.func14, Tryd.ntmps14
    go_wp2_with fail
    refine (unhide C1 _).mono ?_
    rintro e w1 ⟨rfl, rfl⟩
    go_wp2
    refine bodyPost_ret (v := .tuple #[.agg #[.bool false, .slice none 0 0], .bool false]) (by simp [results, Tryd.results14, go_sem]) rfl ?_
    rw [unhide E]
    exact ⟨none, 0, rfl, Own.nil _ _, K0.below⟩
  · have hp0 : 0 < s.size := by omega
    have f : fstB s = s[0].toNat := by unfold fstB; rw [dif_pos hp0]
    by_cases h45 : s[0].toNat = 45
    · have HN := hide (show negB s = true by unfold negB; rw [f, h45]; rfl)
      have HR := hide (show restB s = s.extract 1 s.size by unfold restB; rw [unhide HN, if_pos rfl])
      rw [unhide HR] at C1 hr1
      clear f
      go_enter Tryd.func14, Tryd.ntmps14
      go_wp2_with fail
      generalize s.extract 1 s.size = r at *
      refine (unhide C1 _).mono ?_
      rintro e w1 ⟨rfl, rfl⟩
      cases hp : plainB r with
      | false =>
        have E := hide (getR_no (s := s) (by unfold getOk; rw [unhide HN, unhide HR]; rw [hp]; rfl))
        go_wp2
        refine bodyPost_ret (v := .tuple #[.agg #[.bool false, .slice none 0 0], .bool false]) (by simp [results, Tryd.results14, go_sem]) rfl ?_
        rw [unhide E]
        exact ⟨none, 0, rfl, Own.nil _ _, K0.below⟩
      | true =>
        by_cases h64 : r.size ≤ 64
        · have h65 : ¬ (64 : Int) < r.size := by omega
          cases hz : (r.toList == [48]) with
          | true =>
            have E := hide (getR_no (s := s) (by unfold getOk; rw [unhide HN, unhide HR]; simp only [hp, hz]; simp))
            go_wp2
            refine bodyPost_ret (v := .tuple #[.agg #[.bool false, .slice none 0 0], .bool false]) (by simp [results, Tryd.results14, go_sem]) rfl ?_
            rw [unhide E]
            exact ⟨none, 0, rfl, Own.nil _ _, K0.below⟩
          | false =>
            have EO : getOk s = true := by unfold getOk; rw [unhide HN, unhide HR]; simp only [hp, hz]; simp [h64]
            have E := hide (show getR s = outR true (zof true (num (dg r))) by unfold getR getZ; rw [EO, unhide HN, unhide HR])
            have C2 := hide (fun W => l1FromFigures_any W r (dg r) (fig_dg (plain_fig hp)) (by rw [dg_len]; omega))
            have C3 := hide (fun W v (hr : Reads W v (L (num (dg r)))) => l1Big_any W true v (zof true (num (dg r))) (fun h0 => by unfold sg zof at *; simp at *; (try omega)) (by unfold zof; simp; exact hr) (by have := get_num EO; rw [unhide HR] at this; unfold zof; simp; exact pow16 (k := 200) this (by decide)))
            clear EO
            generalize outR true (zof true (num (dg r))) = O at *
            obtain ⟨og, ol, ok⟩ := O
            go_wp2_with fail
            refine (unhide C2 _).mono ?_
            rintro e w2 ⟨ao2, cap2, rfl, o2, b2⟩
            have K2 := K0.later b2
            have o2' := o2.reads
            clear b2 K0 o2
            go_wp2_with fail
            refine (unhide C3 _ _ o2').mono ?_
            rintro e w3 ⟨ao3, cap3, rfl, o3, b3⟩
            have K3 := K2.later b3
            obtain ⟨kb, kr0, kr1, kf0, kf1, kl⟩ := id K3
            clear b3
            go_wp2
            refine bodyPost_ret (v := .tuple #[.agg #[.bool og, .slice ao3 ol.length cap3], .bool ok]) (by simp [results, Tryd.results14, go_sem, kr0, kr1]) rfl ?_
            rw [unhide E]
            exact ⟨ao3, cap3, rfl, ((o3.setBelow (by exact K2.lt) _).setBelow (by exact K2.lt) _).mono K2.below.size, (kb.setCell (by simp) _).setCell (by simp) _⟩
        · have h65 : (64 : Int) < r.size := by omega
          have E := hide (getR_no (s := s) (by unfold getOk; rw [unhide HN, unhide HR]; simp [h64]))
          go_wp2
          refine bodyPost_ret (v := .tuple #[.agg #[.bool false, .slice none 0 0], .bool false]) (by simp [results, Tryd.results14, go_sem]) rfl ?_
          rw [unhide E]
          exact ⟨none, 0, rfl, Own.nil _ _, K0.below⟩
    · have HN := hide (show negB s = false by unfold negB; rw [f]; simpa using h45)
      have HR := hide (show restB s = s by unfold restB; rw [unhide HN, if_neg (by simp)])
      rw [unhide HR] at C1 hr1
      have h46 : ((s[0].toNat : Int) == 45) = false := by rw [beq_eq_false_iff_ne]; omega
      clear f
      go_enter Tryd.func14, Tryd.ntmps14
      go_wp2_with fail
      refine (unhide C1 _).mono ?_
      rintro e w1 ⟨rfl, rfl⟩
      cases hp : plainB s with
      | false =>
        have E := hide (getR_no (s := s) (by unfold getOk; rw [unhide HN, unhide HR]; rw [hp]; rfl))
        go_wp2
        refine bodyPost_ret (v := .tuple #[.agg #[.bool false, .slice none 0 0], .bool false]) (by simp [results, Tryd.results14, go_sem]) rfl ?_
        rw [unhide E]
        exact ⟨none, 0, rfl, Own.nil _ _, K0.below⟩
      | true =>
        by_cases h64 : s.size ≤ 64
        · have h65 : ¬ (64 : Int) < s.size := by omega
          have EO : getOk s = true := by unfold getOk; rw [unhide HN, unhide HR]; simp [hp, h64]
          have E := hide (show getR s = outR true (zof false (num (dg s))) by unfold getR getZ; rw [EO, unhide HN, unhide HR])
          have C2 := hide (fun W => l1FromFigures_any W s (dg s) (fig_dg (plain_fig hp)) (by rw [dg_len]; omega))
          have C3 := hide (fun W v (hr : Reads W v (L (num (dg s)))) => l1Big_any W false v (zof false (num (dg s))) (fun h0 => by unfold sg zof at *; simp at *; (try omega)) (by unfold zof; simp; exact hr) (by have := get_num EO; rw [unhide HR] at this; unfold zof; simp; exact pow16 (k := 200) this (by decide)))
          clear EO
          generalize outR true (zof false (num (dg s))) = O at *
          obtain ⟨og, ol, ok⟩ := O
          go_wp2_with fail
          refine (unhide C2 _).mono ?_
          rintro e w2 ⟨ao2, cap2, rfl, o2, b2⟩
          have K2 := K0.later b2
          have o2' := o2.reads
          clear b2 K0 o2
          go_wp2_with fail
          refine (unhide C3 _ _ o2').mono ?_
          rintro e w3 ⟨ao3, cap3, rfl, o3, b3⟩
          have K3 := K2.later b3
          obtain ⟨kb, kr0, kr1, kf0, kf1, kl⟩ := id K3
          clear b3
          go_wp2
          refine bodyPost_ret (v := .tuple #[.agg #[.bool og, .slice ao3 ol.length cap3], .bool ok]) (by simp [results, Tryd.results14, go_sem, kr0, kr1]) rfl ?_
          rw [unhide E]
          exact ⟨ao3, cap3, rfl, ((o3.setBelow (by exact K2.lt) _).setBelow (by exact K2.lt) _).mono K2.below.size, (kb.setCell (by simp) _).setCell (by simp) _⟩
        · have h65 : (64 : Int) < s.size := by omega
          have E := hide (getR_no (s := s) (by unfold getOk; rw [unhide HN, unhide HR]; simp [h64]))
          go_wp2
          refine bodyPost_ret (v := .tuple #[.agg #[.bool false, .slice none 0 0], .bool false]) (by simp [results, Tryd.results14, go_sem]) rfl ?_
          rw [unhide E]
          exact ⟨none, 0, rfl, Own.nil _ _, K0.below⟩

set_option maxHeartbeats 1000000 in
theorem implBigGet_any (w : World) (s : ByteArray) (hs : s.size ≤ maxLen) :
    Calls Tryd.prog 10 #[.string s] w (GivesBig2 w (getR s)) := by
  have K0 : EBox' w (w.alloc (.cells #[.bool false, .slice none 0 0] 25)) := EBox'.start w
  have hr0 : (restB s).size ≤ maxLen := by unfold restB; split <;> (try rw [ByteArray.size_extract]) <;> omega
  have C1 := hide (fun W => arePlain_any W (restB s) hr0)
  have hr1 : (restB s).size ≤ 9223372036854775807 := by unfold maxLen at hr0; omega
  clear hr0
  obtain ⟨r, hr⟩ : ∃ r, restB s = r := ⟨_, rfl⟩
  have HR := hide hr
  have CC := hide (fun W => cutMinus_any W s hs)
  rw [hr] at C1 hr1 CC
  clear hr hs
  cases hn : negB s with
  | false =>
    rw [hn] at CC
    have HN := hide hn
    clear hn
    go_enter Tryd.func10, Tryd.ntmps10
    go_wp2_with fail
    refine (unhide CC _).mono ?_
    rintro e w1 ⟨rfl, rfl⟩
    by_cases h64 : r.size ≤ 64
    · have h65 : ¬ (64 : Int) < r.size := by omega
      go_wp2_with fail
      refine (unhide C1 _).mono ?_
      rintro e w1 ⟨rfl, rfl⟩
      cases hp : plainB r with
      | false =>
        have E := hide (getR_no (s := s) (by unfold getOk; rw [unhide HN, unhide HR]; rw [hp]; rfl))
        go_wp2
        refine bodyPost_ret (v := .tuple #[.agg #[.bool false, .slice none 0 0], .bool false]) (by simp [results, Tryd.results10, go_sem]) rfl ?_
        rw [unhide E]
        exact ⟨none, 0, rfl, Own.nil _ _, K0.below⟩
      | true =>
        have EO : getOk s = true := by unfold getOk; rw [unhide HN, unhide HR]; simp [hp, h64]
        have E := hide (show getR s = (sg (zof false (num (dg r))), L (zof false (num (dg r))).natAbs, true) by rw [getR_yes EO]; unfold getZ; rw [unhide HN, unhide HR])
        have C2 := hide (fun W => limbsOf_any W r (dg r) (fig_dg (plain_fig hp)) (by rw [dg_len]; omega))
        generalize hz : zof false (num (dg r)) = z at *
        have G := hide (fun w1 w2 (ao : Option Addr) (cap : Nat) (o : Own (w.heap.size + 1) w1 (.slice ao (L (num (dg r))).length cap) (L (num (dg r)))) (h1 : Below w.heap.size w w1) (b : Below w1.heap.size w1 w2) => signed_gives (w := w) o h1 b hz.symm)
        clear EO hz
        generalize L (num (dg r)) = ll at *
        go_wp2_with fail
        refine (unhide C2 _).mono ?_
        rintro e w2 ⟨ao2, cap2, rfl, o2, b2⟩
        have K2 := K0.later b2
        clear b2 K0
        go_wp2_with fail
        refine (signed_any _ false ao2 _ cap2).mono ?_
        rintro e w3 ⟨he, b3⟩
        obtain ⟨ao3, cap3, e3, o3, bb3⟩ := unhide G w2 w3 ao2 cap2 (o2.mono (by simp)) K2.below b3
        rw [e3] at he
        subst he
        have K3 := K2.later b3
        obtain ⟨kb, kr0, kr1, kf0, kf1, kl⟩ := id K3
        clear b3
        go_wp2
        refine bodyPost_ret (v := .tuple #[.agg #[.bool (sg z), .slice ao3 (L z.natAbs).length cap3], .bool true]) (by simp [results, Tryd.results10, go_sem, kr0, kr1]) rfl ?_
        rw [unhide E]
        exact ⟨ao3, cap3, rfl, ((o3.setBelow (by simp) _).setBelow (by simp) _).mono (by simp), (bb3.setCell (by simp) _).setCell (by simp) _⟩
    · have h65 : (64 : Int) < r.size := by omega
      have E := hide (getR_no (s := s) (by unfold getOk; rw [unhide HN, unhide HR]; simp [h64]))
      go_wp2
      refine bodyPost_ret (v := .tuple #[.agg #[.bool false, .slice none 0 0], .bool false]) (by simp [results, Tryd.results10, go_sem]) rfl ?_
      rw [unhide E]
      exact ⟨none, 0, rfl, Own.nil _ _, K0.below⟩
  | true =>
    rw [hn] at CC
    have HN := hide hn
    clear hn
    go_enter Tryd.func10, Tryd.ntmps10
    go_wp2_with fail
    refine (unhide CC _).mono ?_
    rintro e w1 ⟨rfl, rfl⟩
    by_cases h64 : r.size ≤ 64
    · have h65 : ¬ (64 : Int) < r.size := by omega
      go_wp2_with fail
      refine (unhide C1 _).mono ?_
      rintro e w1 ⟨rfl, rfl⟩
      cases hp : plainB r with
      | false =>
        have E := hide (getR_no (s := s) (by unfold getOk; rw [unhide HN, unhide HR]; rw [hp]; rfl))
        go_wp2
        refine bodyPost_ret (v := .tuple #[.agg #[.bool false, .slice none 0 0], .bool false]) (by simp [results, Tryd.results10, go_sem]) rfl ?_
        rw [unhide E]
        exact ⟨none, 0, rfl, Own.nil _ _, K0.below⟩
      | true =>
        cases hz : (r.toList == [48]) with
        | true =>
          have E := hide (getR_no (s := s) (by unfold getOk; rw [unhide HN, unhide HR]; simp only [hp, hz]; simp))
          go_wp2
          refine bodyPost_ret (v := .tuple #[.agg #[.bool false, .slice none 0 0], .bool false]) (by simp [results, Tryd.results10, go_sem]) rfl ?_
          rw [unhide E]
          exact ⟨none, 0, rfl, Own.nil _ _, K0.below⟩
        | false =>
          have EO : getOk s = true := by unfold getOk; rw [unhide HN, unhide HR]; simp only [hp, hz]; simp [h64]
          have E := hide (show getR s = (sg (zof true (num (dg r))), L (zof true (num (dg r))).natAbs, true) by rw [getR_yes EO]; unfold getZ; rw [unhide HN, unhide HR])
          have C2 := hide (fun W => limbsOf_any W r (dg r) (fig_dg (plain_fig hp)) (by rw [dg_len]; omega))
          generalize hz : zof true (num (dg r)) = z at *
          have G := hide (fun w1 w2 (ao : Option Addr) (cap : Nat) (o : Own (w.heap.size + 1) w1 (.slice ao (L (num (dg r))).length cap) (L (num (dg r)))) (h1 : Below w.heap.size w w1) (b : Below w1.heap.size w1 w2) => signed_gives (w := w) o h1 b hz.symm)
          clear EO hz
          generalize L (num (dg r)) = ll at *
          go_wp2_with fail
          refine (unhide C2 _).mono ?_
          rintro e w2 ⟨ao2, cap2, rfl, o2, b2⟩
          have K2 := K0.later b2
          clear b2 K0
          go_wp2_with fail
          refine (signed_any _ true ao2 _ cap2).mono ?_
          rintro e w3 ⟨he, b3⟩
          obtain ⟨ao3, cap3, e3, o3, bb3⟩ := unhide G w2 w3 ao2 cap2 (o2.mono (by simp)) K2.below b3
          rw [e3] at he
          subst he
          have K3 := K2.later b3
          obtain ⟨kb, kr0, kr1, kf0, kf1, kl⟩ := id K3
          clear b3
          go_wp2
          refine bodyPost_ret (v := .tuple #[.agg #[.bool (sg z), .slice ao3 (L z.natAbs).length cap3], .bool true]) (by simp [results, Tryd.results10, go_sem, kr0, kr1]) rfl ?_
          rw [unhide E]
          exact ⟨ao3, cap3, rfl, ((o3.setBelow (by simp) _).setBelow (by simp) _).mono (by simp), (bb3.setCell (by simp) _).setCell (by simp) _⟩
    · have h65 : (64 : Int) < r.size := by omega
      have E := hide (getR_no (s := s) (by unfold getOk; rw [unhide HN, unhide HR]; simp [h64]))
      go_wp2
      refine bodyPost_ret (v := .tuple #[.agg #[.bool false, .slice none 0 0], .bool false]) (by simp [results, Tryd.results10, go_sem]) rfl ?_
      rw [unhide E]
      exact ⟨none, 0, rfl, Own.nil _ _, K0.below⟩

end Go.Proofs.YtomcgnkmlmiijaaDoor
