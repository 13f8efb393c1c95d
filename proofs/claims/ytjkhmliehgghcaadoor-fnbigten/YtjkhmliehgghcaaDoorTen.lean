/- Powers of ten: the program's tenLimbs and BigTen, the specification's l1TenAbs and BigTen, by contracts. -/
import Derived.Test.YtjkhmliehgghcaaDoorEbx
namespace Go.Proofs.YtjkhmliehgghcaaDoor
open Go.RowKit
set_option maxRecDepth 100000


theorem tenLimbs_any (w : World) (n : Nat) (hn : n ≤ 200) :
    Calls Tryd.prog 35 #[.int .i64 n] w (Gives w (L (10 ^ n))) := by
  obtain ⟨i0, hi, hz0, hz1, hz2⟩ := info_parts Tryd.info3
  have hm : n % 4 < 4 := by omega
  have el : L (10 ^ n) = List.replicate (n / 4) 0 ++ [((10 ^ (n % 4) : Nat) : Int)] := by
    have := L_ten (n / 4) (n % 4) hm
    rwa [show 4 * (n / 4) + n % 4 = n by omega] at this
  have eset : ∀ x : Int, (List.replicate (n / 4 + 1) (0 : Int)).set (n / 4) x = List.replicate (n / 4) 0 ++ [x] := by
    intro x
    rw [List.replicate_succ', List.set_append_right _ _ (by simp)]
    simp
  rw [el]
  have hmk : ∀ (r : Nat) (x : Int), n % 4 = r → ((10 ^ r : Nat) : Int) = x → (∀ W, (Instr.index 86 (.agg #[.int .i64 1, .int .i64 10, .int .i64 100, .int .i64 1000]) (.int .i64 r)).run Tryd.prog W = .ok (.int .i64 x) W) →
      Calls Tryd.prog 35 #[.int .i64 n] w (Gives w (List.replicate (n / 4) 0 ++ [((10 ^ (n % 4) : Nat) : Int)])) := by
    intro r x hr hx hix
    have hr' : (n : Int) % 4 = r := by omega
    have Hx := hide (by rw [hr, hx] : ((10 ^ (n % 4) : Nat) : Int) = x)
    rw [unhide Hx]
    clear el hr hx Hx
    go_enter Tryd.func35, Tryd.ntmps35
    go_wp2_with (at_make; refine wpList_make_full _ rfl _ _ 64 rfl w.heap.size 3 i0 (.int .i64 0) 1 Tryd.underlying64 hi hz0 hz1 _ _ _ _ (n / 4 + 1) rfl rfl (by omega) (by omega) ?b2 ?b3 (Nat.le_refl _) ?_)
    case b2 => rw [hz2]; omega
    case b3 => unfold maxLen; omega
    intro w0 hown0 hgrow0
    have e0 : (madeCells #[Value.int .i64 0] (n / 4 + 1)).toList = ints (List.replicate (n / 4 + 1) 0) := by rw [toList_madeCells_one, ints_zeros]
    have own0 : Own w.heap.size w0 (.slice (some ⟨w.heap.size, 0, none⟩) (n / 4 + 1) (n / 4 + 1)) (List.replicate (n / 4 + 1) 0) := by
      unfold Own
      rw [List.length_replicate, ← e0]
      exact hown0
    have bel0 : Below w.heap.size w w0 := (Below.refl _ _).grown hgrow0 (Nat.le_refl _) (fun k h => by cases h)
    have hc := own0.cellAt (i := n / 4) (by simp)
    have hf := own0.frozenAt (n / 4)
    have hst := (own0.store (n / 4) x).1
    rw [eset] at hst
    have HS := hide hst
    clear hown0 hgrow0 e0 own0 hst eset
    go_wp2
    go_ret
    exact Gives.of (unhide HS) (bel0.setCell (Nat.le_refl _) _)
  rcases (show n % 4 = 0 ∨ n % 4 = 1 ∨ n % 4 = 2 ∨ n % 4 = 3 by omega) with h | h | h | h
  · exact hmk 0 1 h (by decide) (fun _ => by kernel_rfl)
  · exact hmk 1 10 h (by decide) (fun _ => by kernel_rfl)
  · exact hmk 2 100 h (by decide) (fun _ => by kernel_rfl)
  · exact hmk 3 1000 h (by decide) (fun _ => by kernel_rfl)

theorem l1TenAbs_any (w : World) (n : Nat) (hn : n ≤ 200) :
    Calls Tryd.prog 38 #[.int .i64 n] w (Gives w (L (10 ^ n))) := by
  have hm : n % 4 < 4 := by omega
  have el : L (10 ^ n) = List.replicate (n / 4) 0 ++ [((10 ^ (n % 4) : Nat) : Int)] := by
    have := L_ten (n / 4) (n % 4) hm
    rwa [show 4 * (n / 4) + n % 4 = n by omega] at this
  rw [el]
  clear el
  go_enter Tryd.func38, Tryd.ntmps38
  go_wp2
  go_loopw [0, 3] (fun nn s wr => ∃ k : Nat, 4 * k ≤ n ∧ nn = .int .i64 ((n - 4 * k : Nat) : Int) ∧ Own w.heap.size wr s (List.replicate k 0) ∧ Below w.heap.size w wr) (fun nn _ _ => (intOf nn).toNat)
  case atStart => exact ⟨0, by omega, rfl, own_empty w (Nat.le_refl _), (Below.refl _ _).alloc (Nat.le_refl _) _⟩
  case round =>
    obtain ⟨k, hk, rfl, hown, hbel⟩ := hrel
    have hsz := hbel.size
    have shape := hown.split
    have HO := hide hown
    have hlen : (List.replicate k (0 : Int)).length ≤ 8000000 := by simp; omega
    clear hown
    by_cases h4 : 4 ≤ n - 4 * k
    · rcases shape with ⟨rfl, h0⟩ | ⟨g, capo, rfl, hBg, hgs, hcapo, hmo⟩
      all_goals
        try clear h0
        go_wp2_with (at_builtin; refine wpList_push rfl _ _ 24 rfl Tryd.underlying24 w.heap.size _ (List.replicate k 0) _ (unhide HO) rfl rfl hlen hsz ?_; intro g1 cap1 w1 hown1 hb1 hc1 hm1 hBg1 hgs1)
        have ho1 : Own w.heap.size w1 (.slice (some ⟨g1, 0, none⟩) (k + 1) cap1) (List.replicate (k + 1) 0) := by
          rw [List.replicate_succ']
          simpa using hown1
        go_roundw
        case rel => exact ⟨k + 1, by omega, by congr 1; omega, ho1, hbel.trans hb1⟩
        case measure => simp only [intOf]; omega
    · have hk4 : k = n / 4 := by omega
      have hr4 : n - 4 * k = n % 4 := by omega
      have hr3 : n - 4 * k < 4 := by omega
      have HK := hide hk4
      have HR := hide hr4
      clear hk4 hr4
      rcases shape with ⟨rfl, h0⟩ | ⟨g, capo, rfl, hBg, hgs, hcapo, hmo⟩
      all_goals
        try clear h0
        go_wp2
        go_loopw [0, 4] (fun nn tt wr' => ∃ j : Nat, j ≤ n - 4 * k ∧ nn = .int .i64 ((n - 4 * k - j : Nat) : Int) ∧ tt = .int .i64 ((10 ^ j : Nat) : Int) ∧ wr' = wr) (fun nn _ _ => (intOf nn).toNat)
        case atStart => exact ⟨0, by omega, rfl, rfl, rfl⟩
        case round =>
          obtain ⟨j, hj, rfl, rfl, rfl⟩ := hrel
          by_cases hjl : j < n - 4 * k
          · have hp : 10 ^ j ≤ 100 := by
              have : j ≤ 2 := by omega
              exact Nat.le_trans (Nat.pow_le_pow_right (by decide) this) (by decide)
            have hp2 : ((10 ^ (j + 1) : Nat) : Int) = ((10 ^ j : Nat) : Int) * 10 := by rw [Nat.pow_succ]; simp
            have HP2 := hide hp2
            generalize 10 ^ j = P at *
            clear hp2
            go_wp2
            go_roundw
            case rel => exact ⟨j + 1, by omega, by congr 1; omega, by rw [unhide HP2], by trivial⟩
            case measure => simp only [intOf]; omega
          · have ej : j = n % 4 := by have := unhide HR; omega
            have EJ := hide ej
            clear ej
            go_wp2_with (at_builtin; refine wpList_push rfl _ _ 24 rfl Tryd.underlying24 w.heap.size _ (List.replicate k 0) _ (unhide HO) rfl rfl hlen hsz ?_; intro g1 cap1 w1 hown1 hb1 hc1 hm1 hBg1 hgs1)
            have ho1 : Own w.heap.size w1 (.slice (some ⟨g1, 0, none⟩) (k + 1) cap1) (List.replicate (n / 4) 0 ++ [((10 ^ (n % 4) : Nat) : Int)]) := by
              rw [← unhide HK, ← unhide EJ]
              simpa using hown1
            go_ret
            exact Gives.of ho1 (hbel.trans hb1)

theorem sg_nat10 (n : Nat) : sg (n : Int) = false := by
  unfold sg
  rw [decide_eq_false_iff_not]
  omega

/-- What BigTen answers. -/
def tenR (n : Int) : Bool × List Int × Bool := if 0 ≤ n ∧ n ≤ 63 then (false, L (10 ^ n.toNat), true) else (false, [], false)

theorem ten_outR {n : Nat} (h : n ≤ 63) : outR true ((10 ^ n : Nat) : Int) = (false, L (10 ^ n), true) := by
  unfold outR
  have hlt : 10 ^ n < 10000 ^ 16 := by
    have e : (10000 : Nat) ^ 16 = 10 ^ 64 := by decide
    rw [e]
    exact Nat.pow_lt_pow_right (by decide) (by omega)
  rw [if_pos ⟨rfl, by rw [Int.natAbs_natCast]; exact L_len_le hlt⟩, Int.natAbs_natCast]
  rw [sg_nat10]

theorem pow64 {n : Nat} (h : n ≤ 63) : 10 ^ n < 10000 ^ 200 := by
  have e : (10000 : Nat) ^ 16 = 10 ^ 64 := by decide
  refine pow16 ?_ (by decide)
  rw [e]
  exact Nat.pow_lt_pow_right (by decide) (by omega)

theorem specBigTen_any (w : World) (n : Int) :
    Calls Tryd.prog 11 #[.int .i64 n] w (GivesBig2 w (tenR n)) := by
  have K0 : EBox' w (w.alloc (.cells #[.bool false, .slice none 0 0] 26)) := EBox'.start w
  have CI := hide (fun W => l1In_any W n 0 63)
  by_cases h : 0 ≤ n ∧ n ≤ 63
  · have hd : decide (0 ≤ n ∧ n ≤ 63) = true := by simpa using h
    rw [hd] at CI
    obtain ⟨k, rfl⟩ := Int.eq_ofNat_of_zero_le h.1
    have hk : k ≤ 63 := by omega
    have et : tenR (k : Int) = outR true ((10 ^ k : Nat) : Int) := by rw [ten_outR hk]; unfold tenR; rw [if_pos h]; simp
    rw [et]
    have C1 := hide (fun W => l1TenAbs_any W k (by omega))
    have C2 := hide (fun W s (hr : Reads W s (L (10 ^ k))) => l1Big_any W false s ((10 ^ k : Nat) : Int) (fun _ => (sg_nat10 _).symm) (by rw [Int.natAbs_natCast]; exact hr) (by rw [Int.natAbs_natCast]; exact pow64 hk))
    clear h hd et
    generalize outR true ((10 ^ k : Nat) : Int) = O at *
    obtain ⟨og, ol, ok⟩ := O
    go_enter Tryd.func11, Tryd.ntmps11
    go_wp2_with fail
    refine (unhide CI _).mono ?_
    rintro e w1 ⟨rfl, rfl⟩
    go_wp2_with fail
    refine (unhide C1 _).mono ?_
    rintro e w2 ⟨ao2, cap2, rfl, o2, b2⟩
    have K2 := K0.later b2
    have o2' := o2.reads
    clear b2 K0 o2
    go_wp2_with fail
    refine (unhide C2 _ _ o2').mono ?_
    rintro e w3 ⟨ao3, cap3, rfl, o3, b3⟩
    have K3 := K2.later b3
    obtain ⟨kb, kr0, kr1, kf0, kf1, kl⟩ := id K3
    clear b3
    go_wp2
    refine bodyPost_ret (v := .tuple #[.agg #[.bool og, .slice ao3 ol.length cap3], .bool ok]) (by simp [results, Tryd.results11, go_sem, kr0, kr1]) rfl ?_
    exact ⟨ao3, cap3, rfl, ((o3.setBelow (by exact K2.lt) _).setBelow (by exact K2.lt) _).mono K2.below.size, (kb.setCell (by simp) _).setCell (by simp) _⟩
  · have hd : decide (0 ≤ n ∧ n ≤ 63) = false := by simpa using h
    rw [hd] at CI
    have et := hide (by unfold tenR; rw [if_neg h] : tenR n = (false, [], false))
    clear h hd
    go_enter Tryd.func11, Tryd.ntmps11
    go_wp2_with fail
    refine (unhide CI _).mono ?_
    rintro e w1 ⟨rfl, rfl⟩
    go_wp2
    refine bodyPost_ret (v := .tuple #[.agg #[.bool false, .slice none 0 0], .bool false]) (by simp [results, Tryd.results11, go_sem]) rfl ?_
    rw [unhide et]
    exact ⟨none, 0, rfl, Own.nil _ _, K0.below⟩

theorem implBigTen_any (w : World) (n : Int) :
    Calls Tryd.prog 10 #[.int .i64 n] w (GivesBig2 w (tenR n)) := by
  have K0 : EBox' w (w.alloc (.cells #[.bool false, .slice none 0 0] 26)) := EBox'.start w
  by_cases h : 0 ≤ n ∧ n ≤ 63
  · obtain ⟨k, rfl⟩ := Int.eq_ofNat_of_zero_le h.1
    have hk : k ≤ 63 := by omega
    have hk0 : decide ((k : Int) < 0) = false := by rw [decide_eq_false_iff_not]; omega
    have et : tenR (k : Int) = (false, L (10 ^ k), true) := by unfold tenR; rw [if_pos h]; simp
    rw [et]
    have C1 := hide (fun W => tenLimbs_any W k (by omega))
    have hl : (L (10 ^ k)).length ≠ 0 := fun e => by have := L_len_zero.1 e; have h1 := Nat.pow_pos (n := k) (show 0 < 10 by decide); omega
    have c2 := fun W ao cap => signed_any W false ao (L (10 ^ k)).length cap
    simp only [if_neg hl] at c2
    have C2 := hide c2
    clear c2
    clear h et hl
    generalize L (10 ^ k) = ll at *
    go_enter Tryd.func10, Tryd.ntmps10
    go_wp2_with fail
    refine (unhide C1 _).mono ?_
    rintro e w2 ⟨ao2, cap2, rfl, o2, b2⟩
    have K2 := K0.later b2
    clear b2 K0
    go_wp2_with fail
    refine (unhide C2 _ ao2 cap2).mono ?_
    rintro e w3 ⟨rfl, b3⟩
    have K3 := K2.later b3
    have o3 := o2.later b3
    obtain ⟨kb, kr0, kr1, kf0, kf1, kl⟩ := id K3
    clear b3 o2
    go_wp2
    refine bodyPost_ret (v := .tuple #[.agg #[.bool false, .slice ao2 ll.length cap2], .bool true]) (by simp [results, Tryd.results10, go_sem, kr0, kr1]) rfl ?_
    exact ⟨ao2, cap2, rfl, ((o3.setBelow (by simp) _).setBelow (by simp) _).mono (by simp), (kb.setCell (by simp) _).setCell (by simp) _⟩
  · have et := hide (by unfold tenR; rw [if_neg h] : tenR n = (false, [], false))
    by_cases hneg : n < 0
    · have hd : decide (n < 0) = true := by simpa using hneg
      clear h
      go_enter Tryd.func10, Tryd.ntmps10
      go_wp2
      refine bodyPost_ret (v := .tuple #[.agg #[.bool false, .slice none 0 0], .bool false]) (by simp [results, Tryd.results10, go_sem]) rfl ?_
      rw [unhide et]
      exact ⟨none, 0, rfl, Own.nil _ _, K0.below⟩
    · have hd : decide (n < 0) = false := by simpa using hneg
      have hb : 64 ≤ n := by omega
      clear h
      go_enter Tryd.func10, Tryd.ntmps10
      go_wp2
      refine bodyPost_ret (v := .tuple #[.agg #[.bool false, .slice none 0 0], .bool false]) (by simp [results, Tryd.results10, go_sem]) rfl ?_
      rw [unhide et]
      exact ⟨none, 0, rfl, Own.nil _ _, K0.below⟩

end Go.Proofs.YtjkhmliehgghcaaDoor
