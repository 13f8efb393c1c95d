/- A number as a big one: BigOf of the program and of the specification, by contracts. -/
import Derived.Test.YthnkmjkgcnhlfaaGreatDoorH06
import Derived.Test.YthnkmjkgcnhlfaaGreatDoorH04
import Derived.Test.YthnkmjkgcnhlfaaGreatDoorK06
namespace Go.Proofs.YthnkmjkgcnhlfaaGreatDoor
open Go.RowKit

theorem wf_range {n : Int} (h : (Lit.int .i64 n).wf = true) : -9223372036854775808 ≤ n ∧ n ≤ 9223372036854775807 := by
  simp only [Lit.wf, Bool.and_eq_true, decide_eq_true_eq] at h
  exact h

set_option maxRecDepth 100000 in
theorem implBigOf_any (w : World) (n : Int) (hw1 : -9223372036854775808 ≤ n) (hw2 : n ≤ 9223372036854775807) :
    Calls Tryz.prog 27 #[.int .i64 n] w (GivesBig w (ofR n).1 (ofR n).2) := by
  have K0 : EBox' w (w.alloc (.cells #[.bool false, .slice none 0 0] 25)) := EBox'.start w
  show Calls Tryz.prog _ _ _ (GivesBig w (sg n) (L n.natAbs))
  have hN : n.natAbs < 10000 ^ 5 := by
    have : (10000 : Nat) ^ 5 = 100000000000000000000 := by rfl
    omega
  have hlen := L_len_le hN
  go_enter Tryz.func27, Tryz.ntmps27
  go_wp2
  go_loopw [3, 4, 5] (fun s rr _ wr => ∃ (rest : Int) (out : List Int), rr = .int .i64 rest ∧ -9223372036854775808 ≤ rest ∧ rest ≤ 9223372036854775807 ∧ L n.natAbs = out ++ L rest.natAbs ∧ Own (w.heap.size + 1) wr s out ∧ EBox' w wr ∧ w.heap.size + 1 ≤ wr.heap.size)
    (fun _ rr _ _ => (intOf rr).natAbs)
  case atStart => exact ⟨n, [], rfl, hw1, hw2, rfl, Own.nil _ _, K0, by simp⟩
  case round =>
    obtain ⟨rest, out, rfl, hr1, hr2, hL, hown, hbox, hsz⟩ := hrel
    have HL := hide hL
    have hol : out.length ≤ 8000000 := by
      have := congrArg List.length hL
      rw [List.length_append] at this
      omega
    clear hL
    have HO := hide hown
    obtain ⟨ao, capo, rfl⟩ := hown.shape
    have shape := hown.split
    clear hown
    by_cases h0 : rest = 0
    · subst h0
      have e := unhide HL
      simp only [Int.natAbs_zero, L_zero, List.append_nil] at e
      rw [← e] at HO ⊢
      have hz : n = zof (decide (n < 0)) n.natAbs := by unfold zof; by_cases h : n < 0 <;> simp [h] <;> omega
      have C := hide (signed_any wr (decide (n < 0)) ao (L n.natAbs).length capo)
      have G := hide (fun w2 (b : Below wr.heap.size wr w2) => signed_gives (w := w) (unhide HO) hbox.below b hz)
      clear e HL shape hz
      obtain ⟨kb, kr0, kr1, kf0, kf1, kl⟩ := id hbox
      go_wp2_with fail
      refine (unhide C).mono ?_
      rintro e w2 ⟨he, b2⟩
      obtain ⟨ao3, cap3, e3, o3, bb3⟩ := unhide G w2 b2
      rw [e3] at he
      subst he
      have K2 := hbox.later b2
      obtain ⟨kb2, kr02, kr12, kf02, kf12, kl2⟩ := id K2
      clear b2 kr0 kr1 kf0 kf1 e3
      go_wp2
      refine bodyPost_ret (v := .agg #[.bool (sg n), .slice ao3 (L n.natAbs).length cap3]) (by simp [results, Tryz.results27, go_sem, kr02, kr12]) rfl ?_
      exact ⟨ao3, cap3, rfl, ((o3.setBelow (by simp) _).setBelow (by simp) _).mono (by simp), (kb2.setCell (by simp) _).setCell (by simp) _⟩
    · have h0' : (rest != 0) = true := by simpa using h0
      have hR := hide (of_step (unhide HL) h0)
      by_cases hp : 0 ≤ rest
      · rcases shape with ⟨e1, hz⟩ | ⟨g, capo', e1, hBg, hgs, hcapo, hmo⟩
        all_goals
          simp only [Value.slice.injEq] at e1
          obtain ⟨rfl, hz2, rfl⟩ := e1
          clear hz2
          (try (clear hz))
          go_wp2_with (at_builtin; refine wpList_push rfl _ _ 67 rfl Tryz.underlying67 (w.heap.size + 1) _ out _ (unhide HO) rfl rfl hol hsz ?_; intro g1 cap1 w1 hown1 hb1 hc1 hm1 hBg1 hgs1)
          go_roundw
          case rel => exact ⟨rest / 10000, _, rfl, by omega, by omega, by rw [show (rest / 10000).natAbs = rest.natAbs / 10000 by omega, unhide hR, show ((rest.natAbs % 10000 : Nat) : Int) = rest % 10000 by omega], hown1, hbox.later1 hb1, Nat.le_trans hsz hb1.size⟩
          case measure => simp only [intOf]; omega
      · have hneg : rest < 0 := by omega
        have et := tmod_neg' hneg
        have ed := tdiv_neg' hneg
        obtain ⟨r, hr⟩ : ∃ r, r = (-rest) % 10000 := ⟨_, rfl⟩
        obtain ⟨q, hq⟩ : ∃ q, q = (-rest) / 10000 := ⟨_, rfl⟩
        rw [← hr] at et
        rw [← hq] at ed
        have hr0 : 0 ≤ r := by omega
        have hr3 : r < 10000 := by omega
        have er : ((rest.natAbs % 10000 : Nat) : Int) = r := by omega
        have eq : (-q).natAbs = rest.natAbs / 10000 := by omega
        have hm : (-q).natAbs < rest.natAbs := by omega
        have hq1 : -9223372036854775808 ≤ -q := by omega
        have hq2 : -q ≤ 9223372036854775807 := by omega
        have ER := hide er
        have EQ := hide eq
        have HM := hide hm
        clear hr hq er eq hm
        rcases shape with ⟨e1, hz⟩ | ⟨g, capo', e1, hBg, hgs, hcapo, hmo⟩
        all_goals
          simp only [Value.slice.injEq] at e1
          obtain ⟨rfl, hz2, rfl⟩ := e1
          clear hz2
          (try (clear hz))
          go_wp2_with (at_builtin; refine wpList_push rfl _ _ 67 rfl Tryz.underlying67 (w.heap.size + 1) _ out _ (unhide HO) rfl rfl hol hsz ?_; intro g1 cap1 w1 hown1 hb1 hc1 hm1 hBg1 hgs1)
          have hif : (if -r < r then r else -r) = r := by split <;> omega
          rw [hif] at hown1
          go_roundw
          case rel => exact ⟨-q, _, rfl, hq1, hq2, by rw [unhide EQ, unhide hR, unhide ER], hown1, hbox.later1 hb1, Nat.le_trans hsz hb1.size⟩
          case measure => exact unhide HM

end Go.Proofs.YthnkmjkgcnhlfaaGreatDoor
