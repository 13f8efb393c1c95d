/- Whether a node is ok, of the specification; whether it is nothing. -/
import Derived.Test.YtdefhpegabifjaaDoorNdR
namespace Go.Proofs.YtdefhpegabifjaaDoor
open Go.RowKit
set_option maxRecDepth 100000
set_option linter.unusedSimpArgs false
set_option linter.unusedVariables false

theorem l9Zero_any (w : World) (lf : Bool) (ak av ai : Option Addr) (ks vs : List ByteArray) (is : List Int) (ck cv ci : Nat) :
    Calls Tryd.prog 16 #[.agg #[.bool lf, .slice ak ks.length ck, .slice av vs.length cv, .slice ai is.length ci]] w fun e w' => e = .returned (.bool (nilB lf ks vs is)) ∧ Below w.heap.size w w' := by
  unfold nilB
  cases lf
  · by_cases h1 : ks.length = 0
    · have f1 : ((ks.length : Int) == 0) = true := by simp [h1]
      by_cases h2 : vs.length = 0
      · have f2 : ((vs.length : Int) == 0) = true := by simp [h2]
        by_cases h3 : is.length = 0
        · have f3 : ((is.length : Int) == 0) = true := by simp [h3]
          rw [decide_eq_true h1, decide_eq_true h2, decide_eq_true h3]
          clear h1 h2 h3
          go_enter Tryd.func16, Tryd.ntmps16
          go_wp2
          go_ret
          exact ⟨rfl, (Below.refl _ _).alloc (Nat.le_refl _) _⟩
        · have f3 : ((is.length : Int) == 0) = false := by rw [beq_eq_false_iff_ne]; omega
          rw [decide_eq_true h1, decide_eq_true h2, decide_eq_false h3]
          clear h1 h2 h3
          go_enter Tryd.func16, Tryd.ntmps16
          go_wp2
          go_ret
          exact ⟨rfl, (Below.refl _ _).alloc (Nat.le_refl _) _⟩
      · have f2 : ((vs.length : Int) == 0) = false := by rw [beq_eq_false_iff_ne]; omega
        rw [decide_eq_true h1, decide_eq_false h2]
        clear h1 h2
        go_enter Tryd.func16, Tryd.ntmps16
        go_wp2
        go_ret
        exact ⟨rfl, (Below.refl _ _).alloc (Nat.le_refl _) _⟩
    · have f1 : ((ks.length : Int) == 0) = false := by rw [beq_eq_false_iff_ne]; omega
      rw [decide_eq_false h1]
      clear h1
      go_enter Tryd.func16, Tryd.ntmps16
      go_wp2
      go_ret
      exact ⟨rfl, (Below.refl _ _).alloc (Nat.le_refl _) _⟩
  · go_enter Tryd.func16, Tryd.ntmps16
    go_wp2
    go_ret
    exact ⟨rfl, (Below.refl _ _).alloc (Nat.le_refl _) _⟩

set_option maxHeartbeats 2000000 in
theorem specNode_badKeys (w : World) (vk vv vi : Value) (ks vs : List ByteArray) (is : List Int) (hk : ReadsS w vk ks) (hv : ReadsS w vv vs) (hi : Reads w vi is) (lf : Bool) (a1 : keysB ks = false) :
    Calls Tryd.prog 17 #[.agg #[.bool lf, vk, vv, vi]] w fun e w' => e = .returned (.bool (nodB lf ks vs is)) ∧ Below w.heap.size w w' := by
  have C1 := fun W (b : Below w.heap.size w W) => l9KeysOk_any W vk ks (hk.later b)
  simp only [a1] at C1
  have C1 := hide C1
  have h1 : ks.length ≤ maxLen := by obtain ⟨_, _, _, _, _, r⟩ := hk; exact Nat.le_trans r.le r.big
  obtain ⟨ak, bk, ok, ck, rfl, -⟩ := hk
  obtain ⟨av, bv, ov, cv, rfl, rv⟩ := hv
  obtain ⟨ai, bi, oi, ci, rfl, ri⟩ := hi
  have h2 := rv.le
  have h3 := ri.le
  have h2' := rv.big
  have h3' := ri.big
  unfold maxLen at h1 h2' h3'
  have K0 := N4.new w (.bool lf) (.slice ak ks.length ck) (.slice av vs.length cv) (.slice ai is.length ci) 28
  have B0 : Below w.heap.size w (w.alloc (.cells #[.bool lf, .slice ak ks.length ck, .slice av vs.length cv, .slice ai is.length ci] 28)) := (Below.refl _ _).alloc (Nat.le_refl _) _
  have E := hide (show nodB lf ks vs is = false by simp [nodB, a1])
  clear a1 rv ri
  obtain ⟨p0, p1, p2, p3, -, -, -, -, -⟩ := id K0
  go_enter Tryd.func17, Tryd.ntmps17
  go_wp2_with fail
  refine (unhide C1 _ B0).mono ?_
  rintro e w1 ⟨rfl, b1⟩
  have K1 := K0.later b1
  have B1 := B0.trans (b1.mono B0.size)
  clear p0 p1 p2 p3 b1 K0 B0
  obtain ⟨p0, p1, p2, p3, -, -, -, -, -⟩ := id K1
  go_wp2
  go_ret
  exact ⟨by rw [unhide E]; rfl, B1⟩

set_option maxHeartbeats 2000000 in
theorem specNode_leaf (w : World) (vk vv vi : Value) (ks vs : List ByteArray) (is : List Int) (hk : ReadsS w vk ks) (hv : ReadsS w vv vs) (hi : Reads w vi is) (a1 : keysB ks = true) :
    Calls Tryd.prog 17 #[.agg #[.bool true, vk, vv, vi]] w fun e w' => e = .returned (.bool (nodB true ks vs is)) ∧ Below w.heap.size w w' := by
  have C1 := fun W (b : Below w.heap.size w W) => l9KeysOk_any W vk ks (hk.later b)
  simp only [a1] at C1
  have C1 := hide C1
  have h1 : ks.length ≤ maxLen := by obtain ⟨_, _, _, _, _, r⟩ := hk; exact Nat.le_trans r.le r.big
  obtain ⟨ak, bk, ok, ck, rfl, -⟩ := hk
  obtain ⟨av, bv, ov, cv, rfl, rv⟩ := hv
  obtain ⟨ai, bi, oi, ci, rfl, ri⟩ := hi
  have h2 := rv.le
  have h3 := ri.le
  have h2' := rv.big
  have h3' := ri.big
  unfold maxLen at h1 h2' h3'
  have K0 := N4.new w (.bool true) (.slice ak ks.length ck) (.slice av vs.length cv) (.slice ai is.length ci) 28
  have B0 : Below w.heap.size w (w.alloc (.cells #[.bool true, .slice ak ks.length ck, .slice av vs.length cv, .slice ai is.length ci] 28)) := (Below.refl _ _).alloc (Nat.le_refl _) _
  have HA := hide (fun (h : vs.all valL = true) => show nodB true ks vs is = (decide (vs.length = ks.length) && decide (is.length = 0)) by simp [nodB, a1, h]; exact Bool.and_comm _ _)
  have HB := hide (fun k (h : k < vs.length) (e : valL vs[k] = false) => show nodB true ks vs is = false by
    have : vs.all valL = false := by rw [List.all_eq_false]; exact ⟨vs[k], List.getElem_mem h, by simp [e]⟩
    simp [nodB, this])
  clear a1 ri
  generalize nodB true ks vs is = g at *
  obtain ⟨p0, p1, p2, p3, -, -, -, -, -⟩ := id K0
  go_enter Tryd.func17, Tryd.ntmps17
  go_wp2_with fail
  refine (unhide C1 _ B0).mono ?_
  rintro e w1 ⟨rfl, b1⟩
  have K1 := K0.later b1
  have B1 := B0.trans (b1.mono B0.size)
  clear p0 p1 p2 p3 b1 K0 B0
  obtain ⟨p0, p1, p2, p3, -, -, -, -, -⟩ := id K1
  go_wp2
  clear p0 p1 p2 p3
  go_loopw [3] (fun i wr => ∃ k : Nat, i = .int .i64 k ∧ k ≤ vs.length ∧ Hid ((vs.take k).all valL = true) ∧ N4 wr w.heap.size (.bool true) (.slice ak ks.length ck) (.slice av vs.length cv) (.slice ai is.length ci) ∧ Below w.heap.size w wr) (fun i _ => vs.length - (intOf i).toNat)
  case atStart => exact ⟨0, rfl, Nat.zero_le _, hide (by simp), K1, B1⟩
  case round =>
    obtain ⟨k, rfl, hk, hx, KK, hbel⟩ := hrel
    obtain ⟨p0, p1, p2, p3, -, -, -, -, -⟩ := id KK
    by_cases hlt : k < vs.length
    · have hc := (rv.later hbel).cell k hlt
      have hs := rv.siz k hlt
      have hat := rv.at_ (by omega)
      subst hat
      have HB2 := hide (fun e => unhide HB k hlt e)
      cases hq : valL vs[k] with
      | true =>
        have E := hide (show (vs.take (k + 1)).all valL = true by rw [List.take_succ_eq_append_getElem hlt, List.all_append, unhide hx]; simpa using hq)
        have f1 : decide ((140 : Int) < vs[k].size) = false := by unfold valL at hq; simp at hq; simp; omega
        clear HA HB HB2 hx rv hq
        generalize vs[k] = s at *
        unfold maxLen at hs
        go_wp2
        go_roundw
        case rel => exact ⟨k + 1, by go_num, by omega, E, KK, hbel⟩
        case measure => simp [intOf]; omega
      | false =>
        have E := hide (unhide HB2 hq)
        have f1 : decide ((140 : Int) < vs[k].size) = true := by unfold valL at hq; simp at hq; simp; omega
        clear HA HB HB2 hx rv hq
        generalize vs[k] = s at *
        unfold maxLen at hs
        go_wp2
        go_ret
        exact ⟨by rw [unhide E]; rfl, hbel⟩
    · have E := hide (unhide HA (by have := unhide hx; rwa [List.take_of_length_le (by omega)] at this))
      clear hx HA HB
      by_cases q1 : vs.length = ks.length
      · have f1 : ((vs.length : Int) == (ks.length : Int)) = true := by simp [q1]
        rw [decide_eq_true q1] at E
        by_cases q2 : is.length = 0
        · have f2 : ((is.length : Int) == 0) = true := by simp [q2]
          rw [decide_eq_true q2] at E
          clear q1 q2
          go_wp2
          go_ret
          exact ⟨by rw [unhide E]; rfl, hbel⟩
        · have f2 : ((is.length : Int) == 0) = false := by rw [beq_eq_false_iff_ne]; omega
          rw [decide_eq_false q2] at E
          clear q1 q2
          go_wp2
          go_ret
          exact ⟨by rw [unhide E]; rfl, hbel⟩
      · have f1 : ((vs.length : Int) == (ks.length : Int)) = false := by rw [beq_eq_false_iff_ne]; omega
        rw [decide_eq_false q1] at E
        clear q1
        go_wp2
        go_ret
        exact ⟨by rw [unhide E]; rfl, hbel⟩

set_option maxHeartbeats 2000000 in
theorem specNode_fork (w : World) (vk vv vi : Value) (ks vs : List ByteArray) (is : List Int) (hk : ReadsS w vk ks) (hv : ReadsS w vv vs) (hi : Reads w vi is) (a1 : keysB ks = true) :
    Calls Tryd.prog 17 #[.agg #[.bool false, vk, vv, vi]] w fun e w' => e = .returned (.bool (nodB false ks vs is)) ∧ Below w.heap.size w w' := by
  have C1 := fun W (b : Below w.heap.size w W) => l9KeysOk_any W vk ks (hk.later b)
  simp only [a1] at C1
  have C1 := hide C1
  have h1 : ks.length ≤ maxLen := by obtain ⟨_, _, _, _, _, r⟩ := hk; exact Nat.le_trans r.le r.big
  obtain ⟨ak, bk, ok, ck, rfl, -⟩ := hk
  obtain ⟨av, bv, ov, cv, rfl, rv⟩ := hv
  obtain ⟨ai, bi, oi, ci, rfl, ri⟩ := hi
  have h2 := rv.le
  have h3 := ri.le
  have h2' := rv.big
  have h3' := ri.big
  unfold maxLen at h1 h2' h3'
  have K0 := N4.new w (.bool false) (.slice ak ks.length ck) (.slice av vs.length cv) (.slice ai is.length ci) 28
  have B0 : Below w.heap.size w (w.alloc (.cells #[.bool false, .slice ak ks.length ck, .slice av vs.length cv, .slice ai is.length ci] 28)) := (Below.refl _ _).alloc (Nat.le_refl _) _
  have hks : ks.length ≤ 4 := by
    simp only [keysB, Bool.and_eq_true, decide_eq_true_eq] at a1
    exact a1.1.1
  have HA := hide (fun (h : is.all isN = true) => show nodB false ks vs is = (decide (vs.length = 0) && decide (1 ≤ ks.length) && decide (is.length = ks.length + 1)) by simp [nodB, a1, h])
  have HB := hide (fun k (h : k < is.length) (e : isN is[k] = false) => show nodB false ks vs is = false by
    have : is.all isN = false := by rw [List.all_eq_false]; exact ⟨is[k], List.getElem_mem h, by simp [e]⟩
    simp [nodB, this])
  clear a1 rv
  generalize nodB false ks vs is = g at *
  obtain ⟨p0, p1, p2, p3, -, -, -, -, -⟩ := id K0
  go_enter Tryd.func17, Tryd.ntmps17
  go_wp2_with fail
  refine (unhide C1 _ B0).mono ?_
  rintro e w1 ⟨rfl, b1⟩
  have K1 := K0.later b1
  have B1 := B0.trans (b1.mono B0.size)
  clear p0 p1 p2 p3 b1 K0 B0
  obtain ⟨p0, p1, p2, p3, -, -, -, -, -⟩ := id K1
  go_wp2
  clear p0 p1 p2 p3
  go_loopw [4] (fun i wr => ∃ k : Nat, i = .int .i64 k ∧ k ≤ is.length ∧ Hid ((is.take k).all isN = true) ∧ N4 wr w.heap.size (.bool false) (.slice ak ks.length ck) (.slice av vs.length cv) (.slice ai is.length ci) ∧ Below w.heap.size w wr) (fun i _ => is.length - (intOf i).toNat)
  case atStart => exact ⟨0, rfl, Nat.zero_le _, hide (by simp), K1, B1⟩
  case round =>
    obtain ⟨k, rfl, hk, hx, KK, hbel⟩ := hrel
    obtain ⟨p0, p1, p2, p3, -, -, -, -, -⟩ := id KK
    by_cases hlt : k < is.length
    · have hc := (ri.later hbel).cell k hlt
      have hat := ri.at_ (by omega)
      subst hat
      have HB2 := hide (fun e => unhide HB k hlt e)
      have CI := fun W => inN_any W is[k] 0 18
      rw [isN_in] at CI
      cases hq : isN is[k] with
      | true =>
        rw [hq] at CI
        have CI := hide CI
        have E := hide (show (is.take (k + 1)).all isN = true by rw [List.take_succ_eq_append_getElem hlt, List.all_append, unhide hx]; simpa using hq)
        clear HA HB HB2 hx ri hq
        generalize is[k] = s at *
        go_wp2_with fail
        refine (unhide CI _).mono ?_
        rintro e w2 ⟨rfl, hw⟩
        subst hw
        go_wp2
        go_roundw
        case rel => exact ⟨k + 1, by go_num, by omega, E, KK, hbel⟩
        case measure => simp [intOf]; omega
      | false =>
        rw [hq] at CI
        have CI := hide CI
        have E := hide (unhide HB2 hq)
        clear HA HB HB2 hx ri hq
        generalize is[k] = s at *
        go_wp2_with fail
        refine (unhide CI _).mono ?_
        rintro e w2 ⟨rfl, hw⟩
        subst hw
        go_wp2
        go_ret
        exact ⟨by rw [unhide E]; rfl, hbel⟩
    · have E := hide (unhide HA (by have := unhide hx; rwa [List.take_of_length_le (by omega)] at this))
      clear hx HA HB
      have hw : IntKind.i64.wrap ((ks.length : Int) + 1) = (ks.length : Int) + 1 := by rw [IntKind.wrap_i64]; omega
      by_cases q1 : vs.length = 0
      · have f1 : ((vs.length : Int) == 0) = true := by simp [q1]
        rw [decide_eq_true q1] at E
        by_cases q2 : 1 ≤ ks.length
        · have f2 : decide ((0 : Int) < (ks.length : Int)) = true := decide_eq_true (by omega)
          have f3 : decide (0 < ks.length) = true := decide_eq_true (by omega)
          rw [decide_eq_true q2] at E
          by_cases q3 : is.length = ks.length + 1
          · have f4 : ((is.length : Int) == (ks.length : Int) + 1) = true := by simp; omega
            rw [decide_eq_true q3] at E
            clear q1 q2 q3
            go_wp2
            go_ret
            exact ⟨by rw [unhide E]; rfl, hbel⟩
          · have f4 : ((is.length : Int) == (ks.length : Int) + 1) = false := by rw [beq_eq_false_iff_ne]; omega
            rw [decide_eq_false q3] at E
            clear q1 q2 q3
            go_wp2
            go_ret
            exact ⟨by rw [unhide E]; rfl, hbel⟩
        · have f2 : decide ((0 : Int) < (ks.length : Int)) = false := decide_eq_false (by omega)
          have f3 : decide (0 < ks.length) = false := decide_eq_false (by omega)
          rw [decide_eq_false q2] at E
          clear q1 q2
          go_wp2
          go_ret
          exact ⟨by rw [unhide E]; rfl, hbel⟩
      · have f1 : ((vs.length : Int) == 0) = false := by rw [beq_eq_false_iff_ne]; omega
        rw [decide_eq_false q1] at E
        clear q1
        go_wp2
        go_ret
        exact ⟨by rw [unhide E]; rfl, hbel⟩

theorem specNodeOk_any (w : World) (lf : Bool) (vk vv vi : Value) (ks vs : List ByteArray) (is : List Int) (hk : ReadsS w vk ks) (hv : ReadsS w vv vs) (hi : Reads w vi is) :
    Calls Tryd.prog 17 #[.agg #[.bool lf, vk, vv, vi]] w fun e w' => e = .returned (.bool (nodB lf ks vs is)) ∧ Below w.heap.size w w' := by
  cases a1 : keysB ks
  · exact specNode_badKeys w vk vv vi ks vs is hk hv hi lf a1
  · cases lf
    · exact specNode_fork w vk vv vi ks vs is hk hv hi a1
    · exact specNode_leaf w vk vv vi ks vs is hk hv hi a1

end Go.Proofs.YtdefhpegabifjaaDoor
