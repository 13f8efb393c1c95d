/- Powers of ten as limbs: the program's and the specification's, by contracts. -/
import Derived.Test.YtjamogkenghonaaGreatDoorSpA0
import Derived.Test.YtjamogkenghonaaGreatDoorGa
namespace Go.Proofs.YtjamogkenghonaaGreatDoor
open Go.RowKit
set_option maxRecDepth 100000



theorem tenLimbs_any (w : World) (n : Nat) (hn : n ≤ 200) :
    Calls Tryz.prog 62 #[.int .i64 n] w (Gives w (L (10 ^ n))) := by
  obtain ⟨i0, hi, hz0, hz1, hz2⟩ := info_parts Tryz.info3
  have hm : n % 4 < 4 := by omega
  have el : L (10 ^ n) = List.replicate (n / 4) 0 ++ [((10 ^ (n % 4) : Nat) : Int)] := by
    have := L_ten (n / 4) (n % 4) hm
    rwa [show 4 * (n / 4) + n % 4 = n by omega] at this
  have eset : ∀ x : Int, (List.replicate (n / 4 + 1) (0 : Int)).set (n / 4) x = List.replicate (n / 4) 0 ++ [x] := by
    intro x
    rw [List.replicate_succ', List.set_append_right _ _ (by simp)]
    simp
  rw [el]
  have hmk : ∀ (r : Nat) (x : Int), n % 4 = r → ((10 ^ r : Nat) : Int) = x → (∀ W, (Instr.index 90 (.agg #[.int .i64 1, .int .i64 10, .int .i64 100, .int .i64 1000]) (.int .i64 r)).run Tryz.prog W = .ok (.int .i64 x) W) →
      Calls Tryz.prog 62 #[.int .i64 n] w (Gives w (List.replicate (n / 4) 0 ++ [((10 ^ (n % 4) : Nat) : Int)])) := by
    intro r x hr hx hix
    have hr' : (n : Int) % 4 = r := by omega
    have Hx := hide (by rw [hr, hx] : ((10 ^ (n % 4) : Nat) : Int) = x)
    rw [unhide Hx]
    clear el hr hx Hx
    go_enter Tryz.func62, Tryz.ntmps62
    go_wp2_with (at_make; refine wpList_make_full _ rfl _ _ 69 rfl w.heap.size 3 i0 (.int .i64 0) 1 Tryz.underlying69 hi hz0 hz1 _ _ _ _ (n / 4 + 1) rfl rfl (by omega) (by omega) ?b2 ?b3 (Nat.le_refl _) ?_)
    case b2 => rw [hz2]; omega
    case b3 => unfold maxLen; omega
    intro w0 hown0 hgrow0
    have e0 : (madeCells #[Value.int .i64 0] (n / 4 + 1)).toList = ints (List.replicate (n / 4 + 1) 0) := by rw [toList_madeCells_one, ints_zeros]
    have own0 : Own w.heap.size w0 (.slice (some ⟨w.heap.size, 0, none⟩) (n / 4 + 1) (n / 4 + 1)) (List.replicate (n / 4 + 1) 0) := by
      unfold Own
      rw [List.length_replicate, ← e0]
      exact hown0
    have bel0 : Below w.heap.size w w0 := (Below.refl _ _).grown hgrow0 (Nat.le_refl _) (fun k h => by cases h)
    have hc := own0.cellAt (i := n / 4) (by simp)
    have hf := own0.frozenAt (n / 4)
    have hst := (own0.store (n / 4) x).1
    rw [eset] at hst
    have HS := hide hst
    clear hown0 hgrow0 e0 own0 hst eset
    go_wp2
    go_ret
    exact Gives.of (unhide HS) (bel0.setCell (Nat.le_refl _) _)
  rcases (show n % 4 = 0 ∨ n % 4 = 1 ∨ n % 4 = 2 ∨ n % 4 = 3 by omega) with h | h | h | h
  · exact hmk 0 1 h (by decide) (fun _ => by kernel_rfl)
  · exact hmk 1 10 h (by decide) (fun _ => by kernel_rfl)
  · exact hmk 2 100 h (by decide) (fun _ => by kernel_rfl)
  · exact hmk 3 1000 h (by decide) (fun _ => by kernel_rfl)

theorem l1TenAbs_any (w : World) (n : Nat) (hn : n ≤ 200) :
    Calls Tryz.prog 69 #[.int .i64 n] w (Gives w (L (10 ^ n))) := by
  have hm : n % 4 < 4 := by omega
  have el : L (10 ^ n) = List.replicate (n / 4) 0 ++ [((10 ^ (n % 4) : Nat) : Int)] := by
    have := L_ten (n / 4) (n % 4) hm
    rwa [show 4 * (n / 4) + n % 4 = n by omega] at this
  rw [el]
  clear el
  go_enter Tryz.func69, Tryz.ntmps69
  go_wp2
  go_loopw [0, 3] (fun nn s wr => ∃ k : Nat, 4 * k ≤ n ∧ nn = .int .i64 ((n - 4 * k : Nat) : Int) ∧ Own w.heap.size wr s (List.replicate k 0) ∧ Below w.heap.size w wr) (fun nn _ _ => (intOf nn).toNat)
  case atStart => exact ⟨0, by omega, rfl, own_empty w (Nat.le_refl _), (Below.refl _ _).alloc (Nat.le_refl _) _⟩
  case round =>
    obtain ⟨k, hk, rfl, hown, hbel⟩ := hrel
    have hsz := hbel.size
    have shape := hown.split
    have HO := hide hown
    have hlen : (List.replicate k (0 : Int)).length ≤ 8000000 := by simp; omega
    clear hown
    by_cases h4 : 4 ≤ n - 4 * k
    · rcases shape with ⟨rfl, h0⟩ | ⟨g, capo, rfl, hBg, hgs, hcapo, hmo⟩
      all_goals
        try clear h0
        go_wp2_with (at_builtin; refine wpList_push rfl _ _ 22 rfl Tryz.underlying22 w.heap.size _ (List.replicate k 0) _ (unhide HO) rfl rfl hlen hsz ?_; intro g1 cap1 w1 hown1 hb1 hc1 hm1 hBg1 hgs1)
        have ho1 : Own w.heap.size w1 (.slice (some ⟨g1, 0, none⟩) (k + 1) cap1) (List.replicate (k + 1) 0) := by
          rw [List.replicate_succ']
          simpa using hown1
        go_roundw
        case rel => exact ⟨k + 1, by omega, by congr 1; omega, ho1, hbel.trans hb1⟩
        case measure => simp only [intOf]; omega
    · have hk4 : k = n / 4 := by omega
      have hr4 : n - 4 * k = n % 4 := by omega
      have hr3 : n - 4 * k < 4 := by omega
      have HK := hide hk4
      have HR := hide hr4
      clear hk4 hr4
      rcases shape with ⟨rfl, h0⟩ | ⟨g, capo, rfl, hBg, hgs, hcapo, hmo⟩
      all_goals
        try clear h0
        go_wp2
        go_loopw [0, 4] (fun nn tt wr' => ∃ j : Nat, j ≤ n - 4 * k ∧ nn = .int .i64 ((n - 4 * k - j : Nat) : Int) ∧ tt = .int .i64 ((10 ^ j : Nat) : Int) ∧ wr' = wr) (fun nn _ _ => (intOf nn).toNat)
        case atStart => exact ⟨0, by omega, rfl, rfl, rfl⟩
        case round =>
          obtain ⟨j, hj, rfl, rfl, rfl⟩ := hrel
          by_cases hjl : j < n - 4 * k
          · have hp : 10 ^ j ≤ 100 := by
              have : j ≤ 2 := by omega
              exact Nat.le_trans (Nat.pow_le_pow_right (by decide) this) (by decide)
            have hp2 : ((10 ^ (j + 1) : Nat) : Int) = ((10 ^ j : Nat) : Int) * 10 := by rw [Nat.pow_succ]; simp
            have HP2 := hide hp2
            generalize 10 ^ j = P at *
            clear hp2
            go_wp2
            go_roundw
            case rel => exact ⟨j + 1, by omega, by congr 1; omega, by rw [unhide HP2], by trivial⟩
            case measure => simp only [intOf]; omega
          · have ej : j = n % 4 := by have := unhide HR; omega
            have EJ := hide ej
            clear ej
            go_wp2_with (at_builtin; refine wpList_push rfl _ _ 22 rfl Tryz.underlying22 w.heap.size _ (List.replicate k 0) _ (unhide HO) rfl rfl hlen hsz ?_; intro g1 cap1 w1 hown1 hb1 hc1 hm1 hBg1 hgs1)
            have ho1 : Own w.heap.size w1 (.slice (some ⟨g1, 0, none⟩) (k + 1) cap1) (List.replicate (n / 4) 0 ++ [((10 ^ (n % 4) : Nat) : Int)]) := by
              rw [← unhide HK, ← unhide EJ]
              simpa using hown1
            go_ret
            exact Gives.of ho1 (hbel.trans hb1)

end Go.Proofs.YtjamogkenghonaaGreatDoor
