/- Whether two numbers are the same. Marks laid over a number, and held. The laws' own helpers, each by its contract: how large a number is, a copy of it, whether two are the same. -/
import Derived.Test.YtlmbcicfpidhcaaG00
namespace Go.Proofs.Ytlmbcicfpidhcaa
open Go.RowKit


theorem take_set_succ {m l : List Int} {k : Nat} (h : m.take k = l.take k) (hk : k < l.length) (hm : k < m.length) : (m.set k l[k]).take (k + 1) = l.take (k + 1) := by
  rw [List.take_succ_eq_append_getElem (by simpa using hm), List.take_succ_eq_append_getElem hk, List.getElem_set_self, List.take_set, List.set_eq_of_length_le (by rw [List.length_take]; omega), h]

theorem eqIntS_any (w : World) (u v : Value) (l m : List Int) (hu : Reads w u l) (hv : Reads w v m) :
    Calls Try.prog 64 #[u, v] w fun e w' => e = .returned (.bool (decide (l = m))) ∧ Below w.heap.size w w' := by
  obtain ⟨ao, b, off, cap, rfl, hu⟩ := hu
  obtain ⟨ao', b', off', cap', rfl, hv⟩ := hv
  have h1 := hu.le
  have h2 := hu.big
  have h3 := hv.le
  have h4 := hv.big
  unfold maxLen at h2 h4
  by_cases hlen : l.length = m.length
  · have hne : ((l.length : Int) != (m.length : Int)) = false := by simp; omega
    have hle1 : l.length ≤ m.length := by omega
    have hle2 : m.length ≤ l.length := by omega
    clear hlen
    go_enter Try.func64, Try.ntmps64
    go_wp2
    go_loopw [5] (fun i wr => ∃ k : Nat, k ≤ l.length ∧ i = .int .i64 k ∧ l.take k = m.take k ∧ Below w.heap.size w wr) (fun i _ => l.length - (intOf i).toNat)
    case atStart => exact ⟨0, Nat.zero_le _, rfl, by simp, Below.refl _ _⟩
    case round =>
      obtain ⟨k, hk, rfl, ht, hbel⟩ := hrel
      have Ht := hide ht
      clear ht
      by_cases hlt : k < l.length
      · have hlt' : k < m.length := by omega
        have hc := (hu.later hbel).cell k hlt
        have hc' := (hv.later hbel).cell k hlt'
        have hat := hu.at_ (by omega)
        have hat' := hv.at_ (by omega)
        subst hat hat'
        clear hu hv
        by_cases he : l[k] = m[k]
        · have he' : (l[k] != m[k]) = false := by simp [he]
          have He := hide he
          clear he
          go_wp2
          go_quiet (fail)
          go_wp2
          go_roundw
          case rel => exact ⟨k + 1, by omega, by go_num, take_succ_eq (unhide Ht) hlt hlt' (unhide He), below_draws hbel _⟩
          case measure => simp [intOf]; omega
        · have he' : (l[k] != m[k]) = true := by simpa using he
          have hd : decide (l = m) = false := by simp; intro e; subst e; exact he rfl
          have Hd := hide hd
          clear hd he
          go_wp2
          go_quiet (fail)
          go_wp2
          go_ret
          exact ⟨by rw [unhide Hd]; rfl, below_draws hbel _⟩
      · have hd : decide (l = m) = true := by
          have := unhide Ht
          rw [List.take_of_length_le (by omega), List.take_of_length_le (by omega)] at this
          simpa using this
        have Hd := hide hd
        clear hd
        go_wp2
        go_ret
        exact ⟨by rw [unhide Hd]; rfl, hbel⟩
  · have hne : ((l.length : Int) != (m.length : Int)) = true := by simp; omega
    have hd : decide (l = m) = false := by simp; intro e; exact hlen (by rw [e])
    rw [hd]
    clear hu hv
    go_enter Try.func64, Try.ntmps64
    go_wp2
    go_ret
    exact ⟨rfl, Below.refl _ _⟩

theorem eqBig_any (w : World) (p q : Bool) (u v : Value) (l m : List Int) (hu : Reads w u l) (hv : Reads w v m) :
    Calls Try.prog 32 #[.agg #[.bool p, u], .agg #[.bool q, v]] w fun e w' => e = .returned (.bool (decide (p = q) && decide (l = m))) ∧ Below w.heap.size w w' := by
  by_cases hpq : p = q
  · have hn : (!p == q) = false := by cases p <;> cases q <;> simp_all
    rw [show decide (p = q) = true by simpa using hpq, Bool.true_and]
    clear hpq
    have h := fun o o' => eqIntS_any ((w.alloc o).alloc o') u v l m ((hu.alloc _).alloc _) ((hv.alloc _).alloc _)
    generalize decide (l = m) = d at h ⊢
    have H := hide h
    clear h
    cases d
    all_goals
      go_enter Try.func32, Try.ntmps32
      go_wp2_with fail
      refine (unhide H _ _).mono ?_
      rintro e w1 ⟨rfl, hb⟩
      go_wp2
      go_ret
      exact ⟨rfl, (((Below.refl _ _).alloc (Nat.le_refl _) _).alloc (by simp) _).trans (hb.mono (by simp; omega))⟩
  · have hn : (!p == q) = true := by cases p <;> cases q <;> simp_all
    rw [show decide (p = q) = false by simpa using hpq, Bool.false_and]
    clear hpq
    go_enter Try.func32, Try.ntmps32
    go_wp2_with fail
    go_ret
    exact ⟨rfl, (((Below.refl _ _).alloc (Nat.le_refl _) _).alloc (by simp) _)⟩

theorem eqBig_same (w : World) (p : Bool) (u v : Value) (l : List Int) (hu : Reads w u l) (hv : Reads w v l) :
    Calls Try.prog 32 #[.agg #[.bool p, u], .agg #[.bool p, v]] w fun e w' => e = .returned (.bool true) ∧ Below w.heap.size w w' := by
  have h := eqBig_any w p p u v l l hu hv
  simpa using h

end Go.Proofs.Ytlmbcicfpidhcaa

namespace Go.Proofs.Ytlmbcicfpidhcaa
open Go.RowKit


/-- Marks: k, k + 1, .. -/
def marks (k : Int) (n : Nat) : List Int := (List.range n).map (fun i : Nat => k + i)

theorem marks_len (k : Int) (n : Nat) : (marks k n).length = n := by simp [marks]

theorem marks_succ (k : Int) (n : Nat) : marks k (n + 1) = marks k n ++ [k + n] := by simp [marks, List.range_succ]

theorem marks_at (k : Int) (n i : Nat) (h : i < (marks k n).length) : (marks k n)[i] = k + i := by simp [marks]

theorem marks_set (k : Int) {l : List Int} {j : Nat} (h : j < l.length) : (marks k j ++ l.drop j).set j (k + j) = marks k (j + 1) ++ l.drop (j + 1) := by
  rw [List.set_append_right _ _ (by rw [marks_len]; exact Nat.le_refl _), marks_len, Nat.sub_self, ← List.getElem_cons_drop h, List.set_cons_zero, marks_succ]
  simp

/-- What a call leaves that writes into one list alone. -/
theorem markIntS_any (w : World) (B : Nat) (v : Value) (l : List Int) (k : Int) (ho : Own B w v l) (hl : l.length ≤ 1048576) (h0 : 0 ≤ k) (h1 : k ≤ 2097152) :
    Calls Try.prog 65 #[v, .int .i64 k] w fun e w' => e = .returned (.int .i64 (k + l.length)) ∧ Own B w' v (marks k l.length) ∧ w.grownBy w' v.ownBlock := by
  have ho' := ho
  obtain ⟨_, hs⟩ := ho
  rcases hs with ⟨rfl, hn⟩ | ⟨g, cap, cur, rfl, _⟩
  · have e : l = [] := List.length_eq_zero_iff.1 hn
    subst e
    go_enter Try.func65, Try.ntmps65
    go_wp2
    refine wp_loop_rounds 1 ?_
    rw [rounds_succ]
    go_wp2
    go_ret
    exact ⟨by simp, Own.nil _ _, World.grownBy.refl _ _⟩
  · go_enter Try.func65, Try.ntmps65
    go_wp2
    go_loopw [1, 5] (fun q i wr => ∃ j : Nat, j ≤ l.length ∧ i = .int .i64 j ∧ q = .int .i64 (k + j) ∧ wr.ownsRow B 3 1 (.slice (some ⟨g, 0, none⟩) l.length cap) l.length (ints (marks k j ++ l.drop j)) ∧ w.grownBy wr (some g))
      (fun _ i _ => l.length - (intOf i).toNat)
    case atStart => exact ⟨0, Nat.zero_le _, rfl, by go_num, ho', World.grownBy.refl _ _⟩
    case round =>
      obtain ⟨j, hj, rfl, rfl, hown, hgr⟩ := hrel
      by_cases hlt : j < l.length
      · have hd := hown.cellAt j (by omega)
        rw [ints_at (by simp [marks_len]; omega)] at hd
        have hf := hown.frozenAt j
        obtain ⟨hst, hgr'⟩ := hown.stored j (.int .i64 (k + j))
        rw [ints_set, marks_set k hlt] at hst
        clear hown ho'
        go_wp2
        go_roundw
        case rel => exact ⟨j + 1, by omega, by go_num, by go_num, hst, grown_trans hgr hgr'⟩
        case measure => simp [intOf]; omega
      · have e : marks k j ++ l.drop j = marks k l.length := by rw [List.drop_of_length_le (by omega), List.append_nil, show j = l.length by omega]
        rw [e] at hown
        have ej : j = l.length := by omega
        have Ej := hide ej
        clear e ej ho'
        go_wp2
        go_ret
        exact ⟨by rw [← unhide Ej]; rfl, by unfold Own; rw [marks_len]; exact hown, hgr⟩

theorem heldIntS_any (w : World) (v : Value) (k : Int) (n : Nat) (hr : Reads w v (marks k n)) (hl : n ≤ 1048576) (h0 : 0 ≤ k) (h1 : k ≤ 2097152) :
    Calls Try.prog 66 #[v, .int .i64 k] w fun e w' => e = .returned (.int .i64 (k + n)) ∧ Below w.heap.size w w' := by
  obtain ⟨ao, b, off, cap, rfl, hr⟩ := hr
  have hlen := marks_len k n
  rw [hlen]
  go_enter Try.func66, Try.ntmps66
  go_wp2
  go_loopw [1, 5] (fun q i wr => ∃ j : Nat, j ≤ n ∧ i = .int .i64 j ∧ q = .int .i64 (k + j) ∧ Below w.heap.size w wr)
      (fun _ i _ => n - (intOf i).toNat)
  case atStart => exact ⟨0, Nat.zero_le _, rfl, by go_num, Below.refl _ _⟩
  case round =>
    obtain ⟨j, hj, rfl, rfl, hbel⟩ := hrel
    by_cases hlt : j < n
    · have hc := (hr.later hbel).cell j (by omega)
      rw [marks_at] at hc
      have hat := hr.at_ (by omega)
      subst hat
      have Hl := hide hlen
      clear hlen hr
      have he : ((k + j : Int) != k + j) = false := by simp
      go_wp2
      go_roundw
      case rel => exact ⟨j + 1, by omega, by go_num, by go_num, hbel⟩
      case measure => simp [intOf]; omega
    · have ej : j = n := by omega
      have Ej := hide ej
      clear ej
      go_wp2
      go_ret
      exact ⟨by rw [← unhide Ej]; rfl, hbel⟩

theorem markBig_any (w : World) (B : Nat) (p : Bool) (v : Value) (l : List Int) (k : Int) (ho : Own B w v l) (hl : l.length ≤ 1048576) (h0 : 0 ≤ k) (h1 : k ≤ 2097152) :
    Calls Try.prog 35 #[.agg #[.bool p, v], .int .i64 k] w fun e w' => e = .returned (.int .i64 (k + l.length)) ∧ Own B w' v (marks k l.length) ∧ w.grownBy w' v.ownBlock := by
  have h := fun o => markIntS_any (w.alloc o) B v l k (ho.later ((Below.refl _ _).alloc (Nat.le_refl _) o)) hl h0 h1
  have H := hide h
  clear h
  go_enter Try.func35, Try.ntmps35
  go_wp2_with fail
  refine (unhide H _).mono ?_
  rintro e w1 ⟨rfl, hown, hgr⟩
  go_wp2
  go_ret
  exact ⟨rfl, hown, grown_trans (World.grownBy_alloc _ _ _) hgr⟩

theorem heldBig_any (w : World) (p : Bool) (v : Value) (k : Int) (n : Nat) (hr : Reads w v (marks k n)) (hl : n ≤ 1048576) (h0 : 0 ≤ k) (h1 : k ≤ 2097152) :
    Calls Try.prog 36 #[.agg #[.bool p, v], .int .i64 k] w fun e w' => e = .returned (.int .i64 (k + n)) ∧ Below w.heap.size w w' := by
  have h := fun o => heldIntS_any (w.alloc o) v k n (hr.alloc o) hl h0 h1
  have H := hide h
  clear h
  have hk : 0 ≤ k + n := by omega
  go_enter Try.func36, Try.ntmps36
  go_wp2_with fail
  refine (unhide H _).mono ?_
  rintro e w1 ⟨rfl, hb⟩
  go_wp2
  go_ret
  exact ⟨rfl, ((Below.refl _ _).alloc (Nat.le_refl _) _).trans (hb.mono (by simp))⟩

end Go.Proofs.Ytlmbcicfpidhcaa

namespace Go.Proofs.Ytlmbcicfpidhcaa
open Go.RowKit

theorem toIntS_any (w : World) (v : Value) (l : List Int) (hr : Reads w v l) (hl : l.length ≤ 1048576) :
    Calls Try.prog 63 #[v] w (Gives w l) := by
  obtain ⟨ao, b, off, cap, rfl, hr⟩ := hr
  obtain ⟨i0, hi, hz0, hz1, hz2⟩ := info_parts Try.info3
  go_enter Try.func63, Try.ntmps63
  go_wp2_with (at_make; refine wpList_make_full _ rfl _ _ 23 rfl w.heap.size 3 i0 (.int .i64 0) 1 Try.underlying23 hi hz0 hz1 _ _ _ _ l.length rfl rfl rfl rfl ?b2 ?b3 (Nat.le_refl _) ?_)
  case b2 => rw [hz2]; omega
  case b3 => unfold maxLen; omega
  intro w0 hown0 hgrow0
  go_wp2
  have hm0 : (madeCells #[Value.int .i64 0] l.length).toList = ints (List.replicate l.length 0) := by rw [toList_madeCells_one, ints_zeros]
  rw [hm0] at hown0
  go_loopw [4] (fun i wr => ∃ (k : Nat) (m : List Int), k ≤ l.length ∧ i = .int .i64 k ∧ m.length = l.length ∧ m.take k = l.take k ∧ wr.ownsRow w.heap.size 3 1 (.slice (some ⟨w.heap.size, 0, none⟩) l.length l.length) l.length (ints m) ∧ Below w.heap.size w wr)
    (fun i _ => l.length - (intOf i).toNat)
  case atStart => exact ⟨0, _, Nat.zero_le _, rfl, by simp, by simp, hown0, (Below.refl _ _).grown hgrow0 (Nat.le_refl _) (fun k h => by cases h)⟩
  case round =>
    obtain ⟨k, m, hk, rfl, hm, ht, hown, hbel⟩ := hrel
    by_cases hlt : k < l.length
    · have hc := (hr.later hbel).cell k hlt
      have hd := hown.cellAt k (by omega)
      rw [ints_at (by omega)] at hd
      have hf := hown.frozenAt k
      obtain ⟨hst, hgr⟩ := hown.stored k (.int .i64 l[k])
      rw [ints_set] at hst
      have hat := hr.at_ (by omega)
      subst hat
      clear hown hr
      go_wp2
      go_roundw
      case rel => exact ⟨k + 1, _, by omega, by go_num, by simpa using hm, take_set_succ ht hlt (by omega), hst, hbel.setCell (Nat.le_refl _) _⟩
      case measure => simp [intOf]; omega
    · go_wp2
      go_ret
      have e : m = l := by rw [List.take_of_length_le (by omega), List.take_of_length_le (by omega)] at ht; exact ht
      subst e
      exact Gives.of hown hbel

/-- The size of a slice is taken away from what is left. -/
theorem szIntS_any (w : World) (v : Value) (l : List Int) (left : Int) (hr : Reads w v l) (h0 : 0 ≤ left) (h1 : left ≤ 1048576) :
    Calls Try.prog 62 #[v, .int .i64 left] w fun e w' => e = .returned (.int .i64 (if left < l.length then -1 else left - l.length)) ∧ w' = w := by
  obtain ⟨ao, b, off, cap, rfl, hr⟩ := hr
  have hb := hr.le
  have hm := hr.big
  unfold maxLen at hm
  clear hr
  by_cases h : left < l.length
  · rw [if_pos h]
    go_enter Try.func62, Try.ntmps62
    go_wp2
    go_ret
    exact ⟨rfl, rfl⟩
  · rw [if_neg h]
    go_enter Try.func62, Try.ntmps62
    go_wp2
    go_ret
    exact ⟨rfl, rfl⟩

theorem szBig_any (w : World) (neg : Bool) (v : Value) (l : List Int) (left : Int) (hr : Reads w v l) (h0 : 0 ≤ left) (h1 : left ≤ 1048576) :
    Calls Try.prog 28 #[.agg #[.bool neg, v], .int .i64 left] w fun e w' => e = .returned (.int .i64 (if left < l.length then -1 else left - l.length)) ∧ Below w.heap.size w w' := by
  have hs := fun o => szIntS_any (w.alloc o) v l left (hr.alloc o) h0 h1
  obtain ⟨ao, b, off, cap, rfl, hr⟩ := hr
  have Hs := hide hs
  clear hs hr
  by_cases h : left < l.length
  · rw [if_pos h]
    go_enter Try.func28, Try.ntmps28
    go_wp2_with (go_at_call 62; refine (unhide Hs _).mono ?_; rw [if_pos h]; rintro e w' ⟨rfl, rfl⟩)
    go_ret
    exact ⟨rfl, (Below.refl _ _).alloc (Nat.le_refl _) _⟩
  · rw [if_neg h]
    have h' : 0 ≤ left - l.length := by omega
    go_enter Try.func28, Try.ntmps28
    go_wp2_with (go_at_call 62; refine (unhide Hs _).mono ?_; rw [if_neg h]; rintro e w' ⟨rfl, rfl⟩)
    go_ret
    exact ⟨rfl, (Below.refl _ _).alloc (Nat.le_refl _) _⟩

/-- A copy of a number. -/
theorem toBig_any (w : World) (neg : Bool) (v : Value) (l : List Int) (hr : Reads w v l) (hl : l.length ≤ 1048576) :
    Calls Try.prog 30 #[.agg #[.bool neg, v]] w (GivesBig w neg l) := by
  go_enter Try.func30, Try.ntmps30
  go_wp2_with fail
  refine (toIntS_any _ v l (((hr.alloc _).alloc _).alloc _) hl).mono ?_
  rintro e w1 ⟨ao, cap, rfl, hown, hb⟩
  obtain ⟨hc, hf⟩ := bcell hb
  have hz : w.heap.size + 2 < w1.heap.size := by have := hb.size; simp at this; omega
  go_wp2
  refine bodyPost_ret (v := .agg #[.bool neg, .slice ao l.length cap]) (by simp [results, Try.results30, go_sem, hc]) rfl ⟨ao, cap, rfl, ?_, ?_⟩
  · exact (((hown.setBelow (by simp) _).setBelow (by simp) _).setBelow (by simp) _).mono (by simp; omega)
  · exact ((((((Below.refl _ _).alloc (Nat.le_refl _) _).alloc (by simp) _).alloc (by simp; omega) _).trans (hb.mono (by simp; omega))).setCell (by simp; omega) _).setCell (by simp) _ |>.setCell (by simp) _

end Go.Proofs.Ytlmbcicfpidhcaa
