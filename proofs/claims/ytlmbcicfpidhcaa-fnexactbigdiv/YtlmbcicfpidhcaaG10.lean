/- A number as a big one: BigOf of the specification, by a contract. A box of a number that stands empty while a call goes on. A number as a big one: BigOf of the program and of the specification, by contracts. -/
import Derived.Test.YtlmbcicfpidhcaaG09
import Derived.Test.YtlmbcicfpidhcaaG00
import Derived.Test.YtlmbcicfpidhcaaG06
namespace Go.Proofs.Ytlmbcicfpidhcaa
open Go.RowKit



theorem of_step {N : List Int} {rest : Int} {out : List Int} (h : N = out ++ L rest.natAbs) (h0 : rest ≠ 0) : N = (out ++ [((rest.natAbs % 10000 : Nat) : Int)]) ++ L (rest.natAbs / 10000) := by
  rw [h, L_pos (by omega)]
  simp

theorem tdiv_abs (rest : Int) : (rest.tdiv 10000).natAbs = rest.natAbs / 10000 := by
  rw [Int.natAbs_tdiv]
  rfl

theorem tmod_neg' {x : Int} (h : x < 0) : x.tmod 10000 = -((-x) % 10000) := by
  rw [show x.tmod 10000 = -((-x).tmod 10000) by rw [Int.neg_tmod]; simp, Int.tmod_eq_emod_of_nonneg (by omega)]

theorem tdiv_neg' {x : Int} (h : x < 0) : x.tdiv 10000 = -((-x) / 10000) := by
  rw [show x.tdiv 10000 = -((-x).tdiv 10000) by rw [Int.neg_tdiv]; simp, Int.tdiv_eq_ediv_of_nonneg (by omega)]

/-- What BigOf answers. -/
def ofR (n : Int) : Bool × List Int := (sg n, L n.natAbs)

set_option maxRecDepth 100000 in
theorem specBigOf_any (w : World) (n : Int) (hw1 : -9223372036854775808 ≤ n) (hw2 : n ≤ 9223372036854775807) :
    Calls Try.prog 33 #[.int .i64 n] w (GivesBig w (ofR n).1 (ofR n).2) := by
  have K0 : EBox' w (w.alloc (.cells #[.bool false, .slice none 0 0] 25)) := EBox'.start w
  have O0 := own_empty (B := w.heap.size + 1) (w.alloc (.cells #[.bool false, .slice none 0 0] 25)) (by simp)
  simp only [World.size_alloc] at O0
  show Calls Try.prog _ _ _ (GivesBig w (sg n) (L n.natAbs))
  have hN : n.natAbs < 10000 ^ 5 := by
    have : (10000 : Nat) ^ 5 = 100000000000000000000 := by rfl
    omega
  have hlen := L_len_le hN
  go_enter Try.func33, Try.ntmps33
  go_wp2
  go_loopw [3, 4, 5] (fun s rr _ wr => ∃ (rest : Int) (out : List Int), rr = .int .i64 rest ∧ -9223372036854775808 ≤ rest ∧ rest ≤ 9223372036854775807 ∧ L n.natAbs = out ++ L rest.natAbs ∧ Own (w.heap.size + 1) wr s out ∧ EBox' w wr ∧ w.heap.size + 1 ≤ wr.heap.size)
    (fun _ rr _ _ => (intOf rr).natAbs)
  case atStart => exact ⟨n, [], rfl, hw1, hw2, rfl, O0, K0.later1 ((Below.refl (w.heap.size + 1) _).alloc (by simp) _), by simp⟩
  case round =>
    obtain ⟨rest, out, rfl, hr1, hr2, hL, hown, hbox, hsz⟩ := hrel
    have HL := hide hL
    have hol : out.length ≤ 8000000 := by
      have := congrArg List.length hL
      rw [List.length_append] at this
      omega
    clear hL
    have HO := hide hown
    obtain ⟨ao, capo, rfl⟩ := hown.shape
    have shape := hown.split
    clear hown
    by_cases h0 : rest = 0
    · subst h0
      have e := unhide HL
      simp only [Int.natAbs_zero, L_zero, List.append_nil] at e
      rw [← e] at HO ⊢
      have hz : n = zof (decide (n < 0)) n.natAbs := by unfold zof; by_cases h : n < 0 <;> simp [h] <;> omega
      clear e HL shape hz O0
      obtain ⟨kb, kr0, kr1, kf0, kf1, kl⟩ := id hbox
      go_wp2
      refine bodyPost_ret (v := .agg #[.bool (sg n), .slice ao (L n.natAbs).length capo]) (by simp [results, Try.results33, go_sem, kr0, kr1, sg]) rfl ?_
      exact ⟨ao, capo, rfl, (((unhide HO).setBelow (by simp) _).setBelow (by simp) _).mono (by simp), (kb.setCell (by simp) _).setCell (by simp) _⟩
    · have h0' : (rest != 0) = true := by simpa using h0
      have hR := hide (of_step (unhide HL) h0)
      by_cases hp : 0 ≤ rest
      · rcases shape with ⟨e1, hz⟩ | ⟨g, capo', e1, hBg, hgs, hcapo, hmo⟩
        all_goals
          simp only [Value.slice.injEq] at e1
          obtain ⟨rfl, hz2, rfl⟩ := e1
          clear hz2
          (try (clear hz))
          go_wp2_with (at_builtin; refine wpList_push rfl _ _ 23 rfl Try.underlying23 (w.heap.size + 1) _ out _ (unhide HO) rfl rfl hol hsz ?_; intro g1 cap1 w1 hown1 hb1 hc1 hm1 hBg1 hgs1)
          go_roundw
          case rel => exact ⟨rest / 10000, _, rfl, by omega, by omega, by rw [show (rest / 10000).natAbs = rest.natAbs / 10000 by omega, unhide hR, show ((rest.natAbs % 10000 : Nat) : Int) = rest % 10000 by omega], hown1, hbox.later1 hb1, Nat.le_trans hsz hb1.size⟩
          case measure => simp only [intOf]; omega
      · have hneg : rest < 0 := by omega
        have et := tmod_neg' hneg
        have ed := tdiv_neg' hneg
        obtain ⟨r, hr⟩ : ∃ r, r = (-rest) % 10000 := ⟨_, rfl⟩
        obtain ⟨q, hq⟩ : ∃ q, q = (-rest) / 10000 := ⟨_, rfl⟩
        rw [← hr] at et
        rw [← hq] at ed
        have hr0 : 0 ≤ r := by omega
        have hr3 : r < 10000 := by omega
        have er : ((rest.natAbs % 10000 : Nat) : Int) = r := by omega
        have eq : (-q).natAbs = rest.natAbs / 10000 := by omega
        have hm : (-q).natAbs < rest.natAbs := by omega
        have hq1 : -9223372036854775808 ≤ -q := by omega
        have hq2 : -q ≤ 9223372036854775807 := by omega
        have ER := hide er
        have EQ := hide eq
        have HM := hide hm
        clear hr hq er eq hm
        rcases shape with ⟨e1, hz⟩ | ⟨g, capo', e1, hBg, hgs, hcapo, hmo⟩
        all_goals
          simp only [Value.slice.injEq] at e1
          obtain ⟨rfl, hz2, rfl⟩ := e1
          clear hz2
          (try (clear hz))
          go_wp2_with (at_builtin; refine wpList_push rfl _ _ 23 rfl Try.underlying23 (w.heap.size + 1) _ out _ (unhide HO) rfl rfl hol hsz ?_; intro g1 cap1 w1 hown1 hb1 hc1 hm1 hBg1 hgs1)
          all_goals
            have hown2 : Own (w.heap.size + 1) w1 (.slice (some ⟨g1, 0, none⟩) (out.length + 1) cap1) (out ++ [r]) := by
              first
                | exact hown1
                | have e : -r = r := by omega
                  rw [e] at hown1
                  exact hown1
            go_roundw
            case rel => exact ⟨-q, _, rfl, hq1, hq2, by rw [unhide EQ, unhide hR, unhide ER], hown2, hbox.later1 hb1, Nat.le_trans hsz hb1.size⟩
            case measure => exact unhide HM

end Go.Proofs.Ytlmbcicfpidhcaa

namespace Go.Proofs.Ytlmbcicfpidhcaa
open Go.RowKit

end Go.Proofs.Ytlmbcicfpidhcaa

namespace Go.Proofs.Ytlmbcicfpidhcaa
open Go.RowKit

theorem wf_range {n : Int} (h : (Lit.int .i64 n).wf = true) : -9223372036854775808 ≤ n ∧ n ≤ 9223372036854775807 := by
  simp only [Lit.wf, Bool.and_eq_true, decide_eq_true_eq] at h
  exact h

set_option maxRecDepth 100000 in
theorem implBigOf_any (w : World) (n : Int) (hw1 : -9223372036854775808 ≤ n) (hw2 : n ≤ 9223372036854775807) :
    Calls Try.prog 34 #[.int .i64 n] w (GivesBig w (ofR n).1 (ofR n).2) := by
  have K0 : EBox' w (w.alloc (.cells #[.bool false, .slice none 0 0] 25)) := EBox'.start w
  show Calls Try.prog _ _ _ (GivesBig w (sg n) (L n.natAbs))
  have hN : n.natAbs < 10000 ^ 5 := by
    have : (10000 : Nat) ^ 5 = 100000000000000000000 := by rfl
    omega
  have hlen := L_len_le hN
  go_enter Try.func34, Try.ntmps34
  go_wp2
  go_loopw [3, 4, 5] (fun s rr _ wr => ∃ (rest : Int) (out : List Int), rr = .int .i64 rest ∧ -9223372036854775808 ≤ rest ∧ rest ≤ 9223372036854775807 ∧ L n.natAbs = out ++ L rest.natAbs ∧ Own (w.heap.size + 1) wr s out ∧ EBox' w wr ∧ w.heap.size + 1 ≤ wr.heap.size)
    (fun _ rr _ _ => (intOf rr).natAbs)
  case atStart => exact ⟨n, [], rfl, hw1, hw2, rfl, Own.nil _ _, K0, by simp⟩
  case round =>
    obtain ⟨rest, out, rfl, hr1, hr2, hL, hown, hbox, hsz⟩ := hrel
    have HL := hide hL
    have hol : out.length ≤ 8000000 := by
      have := congrArg List.length hL
      rw [List.length_append] at this
      omega
    clear hL
    have HO := hide hown
    obtain ⟨ao, capo, rfl⟩ := hown.shape
    have shape := hown.split
    clear hown
    by_cases h0 : rest = 0
    · subst h0
      have e := unhide HL
      simp only [Int.natAbs_zero, L_zero, List.append_nil] at e
      rw [← e] at HO ⊢
      have hz : n = zof (decide (n < 0)) n.natAbs := by unfold zof; by_cases h : n < 0 <;> simp [h] <;> omega
      have C := hide (signed_any wr (decide (n < 0)) ao (L n.natAbs).length capo)
      have G := hide (fun w2 (b : Below wr.heap.size wr w2) => signed_gives (w := w) (unhide HO) hbox.below b hz)
      clear e HL shape hz
      obtain ⟨kb, kr0, kr1, kf0, kf1, kl⟩ := id hbox
      go_wp2_with fail
      refine (unhide C).mono ?_
      rintro e w2 ⟨he, b2⟩
      obtain ⟨ao3, cap3, e3, o3, bb3⟩ := unhide G w2 b2
      rw [e3] at he
      subst he
      have K2 := hbox.later b2
      obtain ⟨kb2, kr02, kr12, kf02, kf12, kl2⟩ := id K2
      clear b2 kr0 kr1 kf0 kf1 e3
      go_wp2
      refine bodyPost_ret (v := .agg #[.bool (sg n), .slice ao3 (L n.natAbs).length cap3]) (by simp [results, Try.results34, go_sem, kr02, kr12]) rfl ?_
      exact ⟨ao3, cap3, rfl, ((o3.setBelow (by simp) _).setBelow (by simp) _).mono (by simp), (kb2.setCell (by simp) _).setCell (by simp) _⟩
    · have h0' : (rest != 0) = true := by simpa using h0
      have hR := hide (of_step (unhide HL) h0)
      by_cases hp : 0 ≤ rest
      · rcases shape with ⟨e1, hz⟩ | ⟨g, capo', e1, hBg, hgs, hcapo, hmo⟩
        all_goals
          simp only [Value.slice.injEq] at e1
          obtain ⟨rfl, hz2, rfl⟩ := e1
          clear hz2
          (try (clear hz))
          go_wp2_with (at_builtin; refine wpList_push rfl _ _ 57 rfl Try.underlying57 (w.heap.size + 1) _ out _ (unhide HO) rfl rfl hol hsz ?_; intro g1 cap1 w1 hown1 hb1 hc1 hm1 hBg1 hgs1)
          go_roundw
          case rel => exact ⟨rest / 10000, _, rfl, by omega, by omega, by rw [show (rest / 10000).natAbs = rest.natAbs / 10000 by omega, unhide hR, show ((rest.natAbs % 10000 : Nat) : Int) = rest % 10000 by omega], hown1, hbox.later1 hb1, Nat.le_trans hsz hb1.size⟩
          case measure => simp only [intOf]; omega
      · have hneg : rest < 0 := by omega
        have et := tmod_neg' hneg
        have ed := tdiv_neg' hneg
        obtain ⟨r, hr⟩ : ∃ r, r = (-rest) % 10000 := ⟨_, rfl⟩
        obtain ⟨q, hq⟩ : ∃ q, q = (-rest) / 10000 := ⟨_, rfl⟩
        rw [← hr] at et
        rw [← hq] at ed
        have hr0 : 0 ≤ r := by omega
        have hr3 : r < 10000 := by omega
        have er : ((rest.natAbs % 10000 : Nat) : Int) = r := by omega
        have eq : (-q).natAbs = rest.natAbs / 10000 := by omega
        have hm : (-q).natAbs < rest.natAbs := by omega
        have hq1 : -9223372036854775808 ≤ -q := by omega
        have hq2 : -q ≤ 9223372036854775807 := by omega
        have ER := hide er
        have EQ := hide eq
        have HM := hide hm
        clear hr hq er eq hm
        rcases shape with ⟨e1, hz⟩ | ⟨g, capo', e1, hBg, hgs, hcapo, hmo⟩
        all_goals
          simp only [Value.slice.injEq] at e1
          obtain ⟨rfl, hz2, rfl⟩ := e1
          clear hz2
          (try (clear hz))
          go_wp2_with (at_builtin; refine wpList_push rfl _ _ 57 rfl Try.underlying57 (w.heap.size + 1) _ out _ (unhide HO) rfl rfl hol hsz ?_; intro g1 cap1 w1 hown1 hb1 hc1 hm1 hBg1 hgs1)
          have hif : (if -r < r then r else -r) = r := by split <;> omega
          rw [hif] at hown1
          go_roundw
          case rel => exact ⟨-q, _, rfl, hq1, hq2, by rw [unhide EQ, unhide hR, unhide ER], hown1, hbox.later1 hb1, Nat.le_trans hsz hb1.size⟩
          case measure => exact unhide HM

end Go.Proofs.Ytlmbcicfpidhcaa
