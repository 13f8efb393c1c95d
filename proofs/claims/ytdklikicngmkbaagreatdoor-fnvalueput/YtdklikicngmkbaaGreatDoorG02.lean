/- Whether two numbers are the same. Marks laid over a number, and held. What a call answers that hands out a decimal of its own. Whether two decimals are the same. -/
import Derived.Test.YtdklikicngmkbaaGreatDoorG01
namespace Go.Proofs.YtdklikicngmkbaaGreatDoor
open Go.RowKit

theorem eqBig_any (w : World) (p q : Bool) (u v : Value) (l m : List Int) (hu : Reads w u l) (hv : Reads w v m) :
    Calls Tryz.prog 96 #[.agg #[.bool p, u], .agg #[.bool q, v]] w fun e w' => e = .returned (.bool (decide (p = q) && decide (l = m))) ∧ Below w.heap.size w w' := by
  by_cases hpq : p = q
  · have hn : (!p == q) = false := by cases p <;> cases q <;> simp_all
    rw [show decide (p = q) = true by simpa using hpq, Bool.true_and]
    clear hpq
    have h := fun o o' => eqIntS_any ((w.alloc o).alloc o') u v l m ((hu.alloc _).alloc _) ((hv.alloc _).alloc _)
    generalize decide (l = m) = d at h ⊢
    have H := hide h
    clear h
    cases d
    all_goals
      go_enter Tryz.func96, Tryz.ntmps96
      go_wp2_with fail
      refine (unhide H _ _).mono ?_
      rintro e w1 ⟨rfl, hb⟩
      go_wp2
      go_ret
      exact ⟨rfl, (((Below.refl _ _).alloc (Nat.le_refl _) _).alloc (by simp) _).trans (hb.mono (by simp; omega))⟩
  · have hn : (!p == q) = true := by cases p <;> cases q <;> simp_all
    rw [show decide (p = q) = false by simpa using hpq, Bool.false_and]
    clear hpq
    go_enter Tryz.func96, Tryz.ntmps96
    go_wp2_with fail
    go_ret
    exact ⟨rfl, (((Below.refl _ _).alloc (Nat.le_refl _) _).alloc (by simp) _)⟩

theorem eqBig_same (w : World) (p : Bool) (u v : Value) (l : List Int) (hu : Reads w u l) (hv : Reads w v l) :
    Calls Tryz.prog 96 #[.agg #[.bool p, u], .agg #[.bool p, v]] w fun e w' => e = .returned (.bool true) ∧ Below w.heap.size w w' := by
  have h := eqBig_any w p p u v l l hu hv
  simpa using h

end Go.Proofs.YtdklikicngmkbaaGreatDoor

namespace Go.Proofs.YtdklikicngmkbaaGreatDoor
open Go.RowKit


/-- Marks: k, k + 1, .. -/
def marks (k : Int) (n : Nat) : List Int := (List.range n).map (fun i : Nat => k + i)

theorem marks_len (k : Int) (n : Nat) : (marks k n).length = n := by simp [marks]

theorem marks_succ (k : Int) (n : Nat) : marks k (n + 1) = marks k n ++ [k + n] := by simp [marks, List.range_succ]

theorem marks_at (k : Int) (n i : Nat) (h : i < (marks k n).length) : (marks k n)[i] = k + i := by simp [marks]

theorem marks_set (k : Int) {l : List Int} {j : Nat} (h : j < l.length) : (marks k j ++ l.drop j).set j (k + j) = marks k (j + 1) ++ l.drop (j + 1) := by
  rw [List.set_append_right _ _ (by rw [marks_len]; exact Nat.le_refl _), marks_len, Nat.sub_self, ← List.getElem_cons_drop h, List.set_cons_zero, marks_succ]
  simp

/-- What a call leaves that writes into one list alone. -/
theorem markIntS_any (w : World) (B : Nat) (v : Value) (l : List Int) (k : Int) (ho : Own B w v l) (hl : l.length ≤ 1048576) (h0 : 0 ≤ k) (h1 : k ≤ 2097152) :
    Calls Tryz.prog 147 #[v, .int .i64 k] w fun e w' => e = .returned (.int .i64 (k + l.length)) ∧ Own B w' v (marks k l.length) ∧ w.grownBy w' v.ownBlock := by
  have ho' := ho
  obtain ⟨_, hs⟩ := ho
  rcases hs with ⟨rfl, hn⟩ | ⟨g, cap, cur, rfl, _⟩
  · have e : l = [] := List.length_eq_zero_iff.1 hn
    subst e
    go_enter Tryz.func147, Tryz.ntmps147
    go_wp2
    refine wp_loop_rounds 1 ?_
    rw [rounds_succ]
    go_wp2
    go_ret
    exact ⟨by simp, Own.nil _ _, World.grownBy.refl _ _⟩
  · go_enter Tryz.func147, Tryz.ntmps147
    go_wp2
    go_loopw [1, 5] (fun q i wr => ∃ j : Nat, j ≤ l.length ∧ i = .int .i64 j ∧ q = .int .i64 (k + j) ∧ wr.ownsRow B 3 1 (.slice (some ⟨g, 0, none⟩) l.length cap) l.length (ints (marks k j ++ l.drop j)) ∧ w.grownBy wr (some g))
      (fun _ i _ => l.length - (intOf i).toNat)
    case atStart => exact ⟨0, Nat.zero_le _, rfl, by go_num, ho', World.grownBy.refl _ _⟩
    case round =>
      obtain ⟨j, hj, rfl, rfl, hown, hgr⟩ := hrel
      by_cases hlt : j < l.length
      · have hd := hown.cellAt j (by omega)
        rw [ints_at (by simp [marks_len]; omega)] at hd
        have hf := hown.frozenAt j
        obtain ⟨hst, hgr'⟩ := hown.stored j (.int .i64 (k + j))
        rw [ints_set, marks_set k hlt] at hst
        clear hown ho'
        go_wp2
        go_roundw
        case rel => exact ⟨j + 1, by omega, by go_num, by go_num, hst, grown_trans hgr hgr'⟩
        case measure => simp [intOf]; omega
      · have e : marks k j ++ l.drop j = marks k l.length := by rw [List.drop_of_length_le (by omega), List.append_nil, show j = l.length by omega]
        rw [e] at hown
        have ej : j = l.length := by omega
        have Ej := hide ej
        clear e ej ho'
        go_wp2
        go_ret
        exact ⟨by rw [← unhide Ej]; rfl, by unfold Own; rw [marks_len]; exact hown, hgr⟩

theorem heldIntS_any (w : World) (v : Value) (k : Int) (n : Nat) (hr : Reads w v (marks k n)) (hl : n ≤ 1048576) (h0 : 0 ≤ k) (h1 : k ≤ 2097152) :
    Calls Tryz.prog 148 #[v, .int .i64 k] w fun e w' => e = .returned (.int .i64 (k + n)) ∧ Below w.heap.size w w' := by
  obtain ⟨ao, b, off, cap, rfl, hr⟩ := hr
  have hlen := marks_len k n
  rw [hlen]
  go_enter Tryz.func148, Tryz.ntmps148
  go_wp2
  go_loopw [1, 5] (fun q i wr => ∃ j : Nat, j ≤ n ∧ i = .int .i64 j ∧ q = .int .i64 (k + j) ∧ Below w.heap.size w wr)
      (fun _ i _ => n - (intOf i).toNat)
  case atStart => exact ⟨0, Nat.zero_le _, rfl, by go_num, Below.refl _ _⟩
  case round =>
    obtain ⟨j, hj, rfl, rfl, hbel⟩ := hrel
    by_cases hlt : j < n
    · have hc := (hr.later hbel).cell j (by omega)
      rw [marks_at] at hc
      have hat := hr.at_ (by omega)
      subst hat
      have Hl := hide hlen
      clear hlen hr
      have he : ((k + j : Int) != k + j) = false := by simp
      go_wp2
      go_roundw
      case rel => exact ⟨j + 1, by omega, by go_num, by go_num, hbel⟩
      case measure => simp [intOf]; omega
    · have ej : j = n := by omega
      have Ej := hide ej
      clear ej
      go_wp2
      go_ret
      exact ⟨by rw [← unhide Ej]; rfl, hbel⟩

theorem markBig_any (w : World) (B : Nat) (p : Bool) (v : Value) (l : List Int) (k : Int) (ho : Own B w v l) (hl : l.length ≤ 1048576) (h0 : 0 ≤ k) (h1 : k ≤ 2097152) :
    Calls Tryz.prog 97 #[.agg #[.bool p, v], .int .i64 k] w fun e w' => e = .returned (.int .i64 (k + l.length)) ∧ Own B w' v (marks k l.length) ∧ w.grownBy w' v.ownBlock := by
  have h := fun o => markIntS_any (w.alloc o) B v l k (ho.later ((Below.refl _ _).alloc (Nat.le_refl _) o)) hl h0 h1
  have H := hide h
  clear h
  go_enter Tryz.func97, Tryz.ntmps97
  go_wp2_with fail
  refine (unhide H _).mono ?_
  rintro e w1 ⟨rfl, hown, hgr⟩
  go_wp2
  go_ret
  exact ⟨rfl, hown, grown_trans (World.grownBy_alloc _ _ _) hgr⟩

theorem heldBig_any (w : World) (p : Bool) (v : Value) (k : Int) (n : Nat) (hr : Reads w v (marks k n)) (hl : n ≤ 1048576) (h0 : 0 ≤ k) (h1 : k ≤ 2097152) :
    Calls Tryz.prog 98 #[.agg #[.bool p, v], .int .i64 k] w fun e w' => e = .returned (.int .i64 (k + n)) ∧ Below w.heap.size w w' := by
  have h := fun o => heldIntS_any (w.alloc o) v k n (hr.alloc o) hl h0 h1
  have H := hide h
  clear h
  have hk : 0 ≤ k + n := by omega
  go_enter Tryz.func98, Tryz.ntmps98
  go_wp2_with fail
  refine (unhide H _).mono ?_
  rintro e w1 ⟨rfl, hb⟩
  go_wp2
  go_ret
  exact ⟨rfl, ((Below.refl _ _).alloc (Nat.le_refl _) _).trans (hb.mono (by simp))⟩

end Go.Proofs.YtdklikicngmkbaaGreatDoor

namespace Go.Proofs.YtdklikicngmkbaaGreatDoor
open Go.RowKit

/-- What a call answers that hands out a decimal of its own. -/
def GivesDec (w : World) (neg : Bool) (l : List Int) (s : Int) (e : Ending) (w' : World) : Prop :=
  ∃ ao cap, e = .returned (.agg #[.bool neg, .slice ao l.length cap, .int .i64 s]) ∧ Own w.heap.size w' (.slice ao l.length cap) l ∧ Below w.heap.size w w'

end Go.Proofs.YtdklikicngmkbaaGreatDoor

namespace Go.Proofs.YtdklikicngmkbaaGreatDoor
open Go.RowKit


theorem eqDec_same (w : World) (p : Bool) (u v : Value) (l : List Int) (s : Int) (hu : Reads w u l) (hv : Reads w v l) :
    Calls Tryz.prog 53 #[.agg #[.bool p, u, .int .i64 s], .agg #[.bool p, v, .int .i64 s]] w fun e w' => e = .returned (.bool true) ∧ Below w.heap.size w w' := by
  have h := fun o o' => eqBig_same ((w.alloc o).alloc o') p u v l ((hu.alloc _).alloc _) ((hv.alloc _).alloc _)
  have H := hide h
  clear h
  have e0 : (!(s == s)) = false := by simp
  go_enter Tryz.func53, Tryz.ntmps53
  go_wp2_with fail
  refine (unhide H _ _).mono ?_
  rintro e w1 ⟨rfl, hb⟩
  obtain ⟨hc, hf⟩ := bcell hb
  have hz : w.heap.size + 1 < w1.heap.size := by have := hb.size; simp at this; omega
  go_wp2
  go_ret
  exact ⟨rfl, (((Below.refl _ _).alloc (Nat.le_refl _) _).alloc (by simp) _).trans (hb.mono (by simp; omega))⟩

end Go.Proofs.YtdklikicngmkbaaGreatDoor
