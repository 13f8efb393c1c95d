/- Marks laid into a disk, and asked for. -/
import Derived.Test.YtmbkjbjmpemgoaaDkB
import Derived.Test.YtmbkjbjmpemgoaaMkT
import Derived.Deep.RegionHeld
namespace Go.Proofs.Ytmbkjbjmpemgoaa
open Go.RowKit

theorem below_grown {w w' : World} (h : Below w.heap.size w w') (row : Option Nat) : w.grownBy w' row := ⟨h.os, h.tape, h.output, h.size, fun k hk _ => h.block k hk⟩

/-- Marks: the texts of k, k + 1, .. -/
def smarks (k n : Nat) : List ByteArray := (List.range n).map (fun i => markT (k + i))
theorem smarks_len (k n : Nat) : (smarks k n).length = n := by simp [smarks]
theorem smarks_succ (k n : Nat) : smarks k (n + 1) = smarks k n ++ [markT (k + n)] := by simp [smarks, List.range_succ]
theorem smarks_at (k n i : Nat) (h : i < (smarks k n).length) : (smarks k n)[i] = markT (k + i) := by simp [smarks]
theorem smarks_set (k : Nat) {l : List ByteArray} {j : Nat} (h : j < l.length) : (smarks k j ++ l.drop j).set j (markT (k + j)) = smarks k (j + 1) ++ l.drop (j + 1) := by
  rw [List.set_append_right _ _ (by rw [smarks_len]; exact Nat.le_refl _), smarks_len, Nat.sub_self, ← List.getElem_cons_drop h, List.set_cons_zero, smarks_succ]
  simp
theorem smarks_siz (k n : Nat) (h : k + n ≤ 4194304) : ∀ i (h : i < (smarks k n).length), (smarks k n)[i].size ≤ maxLen := fun i hi => by
  rw [smarks_at]
  rw [smarks_len] at hi
  exact markT_size _ (by omega)

/-- Marks of waits. -/
def wmarks (k n : Nat) : List (Int × ByteArray) := (List.range n).map (fun i : Nat => ((k : Int) + 2 * (i : Int), markT (k + 2 * i + 1)))
theorem wmarks_len (k n : Nat) : (wmarks k n).length = n := by simp [wmarks]
theorem wmarks_succ (k n : Nat) : wmarks k (n + 1) = wmarks k n ++ [((k : Int) + 2 * (n : Int), markT (k + 2 * n + 1))] := by simp [wmarks, List.range_succ]
theorem wmarks_at (k n i : Nat) (h : i < (wmarks k n).length) : (wmarks k n)[i] = ((k : Int) + 2 * (i : Int), markT (k + 2 * i + 1)) := by simp [wmarks]
theorem wmarks_set (k : Nat) {l : List (Int × ByteArray)} {j : Nat} (h : j < l.length) : (wmarks k j ++ l.drop j).set j ((k : Int) + 2 * (j : Int), markT (k + 2 * j + 1)) = wmarks k (j + 1) ++ l.drop (j + 1) := by
  rw [List.set_append_right _ _ (by rw [wmarks_len]; exact Nat.le_refl _), wmarks_len, Nat.sub_self, ← List.getElem_cons_drop h, List.set_cons_zero, wmarks_succ]
  simp
theorem wmarks_siz (k n : Nat) (h : k + 2 * n ≤ 4194304) : ∀ i (h : i < (wmarks k n).length), (wmarks k n)[i].2.size ≤ maxLen := fun i hi => by
  rw [wmarks_at]
  rw [wmarks_len] at hi
  exact markT_size _ (by omega)

theorem markText_e (w : World) (q : Int) (n : Nat) (hq : q = n) (h0 : 0 < n) (h1 : n ≤ 4194304) :
    Calls Try.prog 36 #[.int .i64 q] w fun e w' => e = .returned (.string (markT n)) ∧ Below w.heap.size w w' := by
  subst hq
  exact markText_any w n h0 h1

theorem markStringS_any (w : World) (B : Nat) (v : Value) (l : List ByteArray) (q : Int) (k : Nat) (hq : q = k) (ho : OwnS B w v l) (hl : l.length ≤ 1048576) (h0 : 0 < k) (h1 : k ≤ 2097152) :
    Calls Try.prog 19 #[v, .int .i64 q] w fun e w' => e = .returned (.int .i64 ((k + l.length : Nat) : Int)) ∧ OwnS B w' v (smarks k l.length) ∧ w.grownBy w' v.ownBlock := by
  subst hq
  have ho' := ho
  obtain ⟨_, hs⟩ := ho
  rcases hs with ⟨rfl, hn⟩ | ⟨g, cap, cur, rfl, _⟩
  · have e : l = [] := List.length_eq_zero_iff.1 hn
    subst e
    go_enter Try.func19, Try.ntmps19
    go_wp2
    refine wp_loop_rounds 1 ?_
    rw [rounds_succ]
    go_wp2
    go_ret
    exact ⟨by simp, World.ownsRow_nil _ _ _ _, World.grownBy.refl _ _⟩
  · go_enter Try.func19, Try.ntmps19
    go_wp2
    go_loopw [1, 5] (fun q i wr => ∃ j : Nat, j ≤ l.length ∧ i = .int .i64 j ∧ q = .int .i64 ((k + j : Nat) : Int) ∧ wr.ownsRow B 9 1 (.slice (some ⟨g, 0, none⟩) l.length cap) l.length (strs (smarks k j ++ l.drop j)) ∧ w.grownBy wr (some g))
      (fun _ i _ => l.length - (intOf i).toNat)
    case atStart => exact ⟨0, Nat.zero_le _, rfl, by go_num, ho', World.grownBy.refl _ _⟩
    case round =>
      obtain ⟨j, hj, rfl, rfl, hown, hgr⟩ := hrel
      by_cases hlt : j < l.length
      · have C := fun W => markText_any W (k + j) (by omega) (by omega)
        go_wp2_with fail
        refine (C _).mono ?_
        rintro e w1 ⟨rfl, b1⟩
        clear C
        have hown1 := ownsRow_later hown b1
        have hgr1 := grown_trans hgr (below_grown b1 (some g))
        have hd := hown1.cellAt j (by omega)
        rw [strs_at (by simp [smarks_len]; omega)] at hd
        have hf := hown1.frozenAt j
        obtain ⟨hst, hgr'⟩ := hown1.stored j (.string (markT (k + j)))
        rw [strs_set, smarks_set k hlt] at hst
        clear hown ho' hown1 hgr b1
        go_wp2
        go_roundw
        case rel => exact ⟨j + 1, by omega, by go_num, by go_num, hst, grown_trans hgr1 hgr'⟩
        case measure => simp [intOf]; omega
      · have e : smarks k j ++ l.drop j = smarks k l.length := by rw [List.drop_of_length_le (by omega), List.append_nil, show j = l.length by omega]
        rw [e] at hown
        have ej : j = l.length := by omega
        have Ej := hide ej
        clear e ej ho'
        go_wp2
        go_ret
        exact ⟨by rw [← unhide Ej]; rfl, by unfold OwnS; rw [smarks_len]; exact hown, hgr⟩

theorem heldStringS_any (w : World) (v : Value) (q : Int) (k n : Nat) (hq : q = k) (hr : ReadsS w v (smarks k n)) (hl : n ≤ 1048576) (h0 : 0 < k) (h1 : k ≤ 2097152) :
    Calls Try.prog 21 #[v, .int .i64 q] w fun e w' => e = .returned (.int .i64 ((k + n : Nat) : Int)) ∧ Below w.heap.size w w' := by
  subst hq
  obtain ⟨ao, b, off, cap, rfl, hr⟩ := hr
  have hlen := smarks_len k n
  rw [hlen]
  go_enter Try.func21, Try.ntmps21
  go_wp2
  go_loopw [1, 5] (fun q i wr => ∃ j : Nat, j ≤ n ∧ i = .int .i64 j ∧ q = .int .i64 ((k + j : Nat) : Int) ∧ Below w.heap.size w wr)
      (fun _ i _ => n - (intOf i).toNat)
  case atStart => exact ⟨0, Nat.zero_le _, rfl, by go_num, Below.refl _ _⟩
  case round =>
    obtain ⟨j, hj, rfl, rfl, hbel⟩ := hrel
    by_cases hlt : j < n
    · have hc := (hr.later hbel).cell j (by omega)
      rw [smarks_at] at hc
      have hat := hr.at_ (by omega)
      subst hat
      have C := fun W => markText_any W (k + j) (by omega) (by omega)
      have stab : ∀ w' : World, Below wr.heap.size wr w' → w'.cell? ⟨b, off + j, none⟩ = some (.string (markT (k + j))) := fun w' h => (h.cell (p := ⟨b, off + j, none⟩) (World.block_lt_of_cell? wr _ hc)).trans hc
      have Stab := hide stab
      have Hl := hide hlen
      clear hlen hr stab
      generalize markT (k + j) = t at *
      go_wp2
      go_region_held (fun w' => w'.cell? ⟨b, off + j, none⟩ = some (.string t))
        (first | exact unhide Stab _ (Below.refl _ _).drew | (refine unhide Stab _ ?_; assumption))
        (first | (go_at_call 36; refine (C _).mono ?_; rintro e w1 ⟨rfl, b1⟩; have B1 : Below wr.heap.size wr w1 := (Below.refl _ _).drew.trans b1))
      all_goals
        go_wp2
        go_roundw
        case rel => exact ⟨j + 1, by omega, by go_num, by go_num, hbel.trans (B1.mono hbel.size)⟩
        case measure => simp [intOf]; omega
    · have ej : j = n := by omega
      have Ej := hide ej
      clear ej
      go_wp2
      go_ret
      exact ⟨by rw [← unhide Ej]; rfl, hbel⟩

theorem markWaitS_any (w : World) (B : Nat) (v : Value) (l : List (Int × ByteArray)) (q : Int) (k : Nat) (hq : q = k) (ho : OwnW B w v l) (hl : l.length ≤ 1048576) (h0 : 0 < k) (h1 : k ≤ 2097152) :
    Calls Try.prog 20 #[v, .int .i64 q] w fun e w' => e = .returned (.int .i64 ((k + 2 * l.length : Nat) : Int)) ∧ OwnW B w' v (wmarks k l.length) ∧ w.grownBy w' v.ownBlock := by
  subst hq
  have ho' := ho
  obtain ⟨_, hs⟩ := ho
  rcases hs with ⟨rfl, hn⟩ | ⟨g, cap, cur, rfl, _⟩
  · have e : l = [] := List.length_eq_zero_iff.1 hn
    subst e
    go_enter Try.func20, Try.ntmps20
    go_wp2
    refine wp_loop_rounds 1 ?_
    rw [rounds_succ]
    go_wp2
    go_ret
    exact ⟨by simp, World.ownsRow_nil _ _ _ _, World.grownBy.refl _ _⟩
  · go_enter Try.func20, Try.ntmps20
    go_wp2
    go_loopw [1, 5] (fun q i wr => ∃ j : Nat, j ≤ l.length ∧ i = .int .i64 j ∧ q = .int .i64 ((k + 2 * j : Nat) : Int) ∧ wr.ownsRow B 48 2 (.slice (some ⟨g, 0, none⟩) l.length cap) l.length (wts (wmarks k j ++ l.drop j)) ∧ w.grownBy wr (some g))
      (fun _ i _ => l.length - (intOf i).toNat)
    case atStart => exact ⟨0, Nat.zero_le _, rfl, by go_num, ho', World.grownBy.refl _ _⟩
    case round =>
      obtain ⟨j, hj, rfl, rfl, hown, hgr⟩ := hrel
      by_cases hlt : j < l.length
      · have C := fun W => markText_e W (k + 2 * j + 1) (k + 2 * j + 1) (by omega) (by omega) (by omega)
        obtain ⟨e0, e1⟩ := wts_at (l := wmarks k j ++ l.drop j) (i := j) (by simp [wmarks_len]; omega)
        have hd0 := hown.cellAt (j * 2) (by omega)
        rw [e0] at hd0
        have hf0 := hown.frozenAt (j * 2)
        obtain ⟨hst0, hgr0⟩ := hown.stored (j * 2) (.int .i64 ((k : Int) + 2 * (j : Int)))
        have hd1 := hst0.cellAt (j * 2 + 1) (by omega)
        rw [List.getElem?_set_ne (by omega), e1] at hd1
        have hm := wts_set (wmarks k j ++ l.drop j) j ((k : Int) + 2 * (j : Int), markT (k + 2 * j + 1)) (by simp [wmarks_len]; omega)
        rw [wmarks_set k hlt] at hm
        have HM := hide hm
        clear e0 e1 hm
        go_wp2_with fail
        refine (C _).mono ?_
        rintro e w1 ⟨rfl, b1⟩
        clear C hd0 hf0
        have hown1 := ownsRow_later hst0 b1
        have hgr1 := grown_trans (grown_trans hgr hgr0) (below_grown b1 (some g))
        have hd2 := (b1.cell (p := ⟨g, j * 2 + 1, none⟩) (World.block_lt_of_cell? _ _ hd1)).trans hd1
        have hf := hown1.frozenAt (j * 2 + 1)
        obtain ⟨hst, hgr'⟩ := hown1.stored (j * 2 + 1) (.string (markT (k + 2 * j + 1)))
        rw [unhide HM] at hst
        clear hown ho' hown1 hgr b1 hst0 hd1
        go_wp2
        go_roundw
        case rel => exact ⟨j + 1, by omega, by go_num, by go_num, hst, grown_trans hgr1 hgr'⟩
        case measure => simp [intOf]; omega
      · have e : wmarks k j ++ l.drop j = wmarks k l.length := by rw [List.drop_of_length_le (by omega), List.append_nil, show j = l.length by omega]
        rw [e] at hown
        have ej : j = l.length := by omega
        have Ej := hide ej
        clear e ej ho'
        go_wp2
        go_ret
        exact ⟨by rw [← unhide Ej]; rfl, by unfold OwnW; rw [wmarks_len]; exact hown, hgr⟩

theorem heldWaitS_any (w : World) (v : Value) (q : Int) (k n : Nat) (hq : q = k) (hr : ReadsW w v (wmarks k n)) (hl : n ≤ 1048576) (h0 : 0 < k) (h1 : k ≤ 2097152) :
    Calls Try.prog 22 #[v, .int .i64 q] w fun e w' => e = .returned (.int .i64 ((k + 2 * n : Nat) : Int)) ∧ Below w.heap.size w w' := by
  subst hq
  obtain ⟨ao, b, off, cap, rfl, hr⟩ := hr
  have hlen := wmarks_len k n
  rw [hlen]
  go_enter Try.func22, Try.ntmps22
  go_wp2
  go_loopw [1, 5] (fun q i wr => ∃ j : Nat, j ≤ n ∧ i = .int .i64 j ∧ q = .int .i64 ((k + 2 * j : Nat) : Int) ∧ Below w.heap.size w wr)
      (fun _ i _ => n - (intOf i).toNat)
  case atStart => exact ⟨0, Nat.zero_le _, rfl, by go_num, Below.refl _ _⟩
  case round =>
    obtain ⟨j, hj, rfl, rfl, hbel⟩ := hrel
    by_cases hlt : j < n
    · obtain ⟨hc0, hc1⟩ := (hr.later hbel).cell j (by omega)
      rw [wmarks_at] at hc0 hc1
      simp only at hc0 hc1
      have hat := hr.at_ (by omega)
      subst hat
      have C := fun W => markText_e W (k + 2 * j + 1) (k + 2 * j + 1) (by omega) (by omega) (by omega)
      have stab : ∀ w' : World, Below wr.heap.size wr w' → w'.cell? ⟨b, off + j * 2 + 1, none⟩ = some (.string (markT (k + 2 * j + 1))) := fun w' h => (h.cell (p := ⟨b, off + j * 2 + 1, none⟩) (World.block_lt_of_cell? wr _ hc1)).trans hc1
      have Stab := hide stab
      have Hl := hide hlen
      clear hlen hr stab
      generalize markT (k + 2 * j + 1) = t at *
      go_wp2
      go_region_held (fun w' => w'.cell? ⟨b, off + j * 2 + 1, none⟩ = some (.string t))
        (first | exact unhide Stab _ (Below.refl _ _).drew | (refine unhide Stab _ ?_; assumption))
        (first | (go_at_call 36; refine (C _).mono ?_; rintro e w1 ⟨rfl, b1⟩; have B1 : Below wr.heap.size wr w1 := (Below.refl _ _).drew.trans b1))
      all_goals
        go_wp2
        go_roundw
        case rel => exact ⟨j + 1, by omega, by go_num, by go_num, hbel.trans (B1.mono hbel.size)⟩
        case measure => simp [intOf]; omega
    · have ej : j = n := by omega
      have Ej := hide ej
      clear ej
      go_wp2
      go_ret
      exact ⟨by rw [← unhide Ej]; rfl, hbel⟩

end Go.Proofs.Ytmbkjbjmpemgoaa
