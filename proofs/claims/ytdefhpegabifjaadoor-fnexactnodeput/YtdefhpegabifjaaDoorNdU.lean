/- The text of a node: NodePut of the program. -/
import Derived.Test.YtdefhpegabifjaaDoorNdT
namespace Go.Proofs.YtdefhpegabifjaaDoor
open Go.RowKit
set_option maxRecDepth 100000
set_option linter.unusedSimpArgs false
set_option linter.unusedVariables false

/-- The text of a leaf, of so many keys. -/
def leafN (ks vs : List ByteArray) : Nat → ByteArray
  | 0 => ⟨#[76]⟩
  | i + 1 => leafN ks vs i ++ entT (ks.getD i ⟨#[]⟩) (vs.getD i ⟨#[]⟩).size (ks.getD i ⟨#[]⟩ ++ vs.getD i ⟨#[]⟩)
/-- The text of a fork, of so many keys. -/
def forkN (ks : List ByteArray) (is : List Int) : Nat → ByteArray
  | 0 => ⟨#[78]⟩ ++ itxt (is.getD 0 0) ++ ⟨#[58]⟩
  | i + 1 => forkN ks is i ++ entT (ks.getD i ⟨#[]⟩) (is.getD (i + 1) 0) (ks.getD i ⟨#[]⟩)
/-- What NodePut writes. -/
def nodePutR (lf : Bool) (ks vs : List ByteArray) (is : List Int) : ByteArray :=
  if nodB lf ks vs is = true then (if lf = true then leafN ks vs ks.length else forkN ks is ks.length) else ⟨#[]⟩

theorem nodB_leaf {ks vs : List ByteArray} {is : List Int} (h : nodB true ks vs is = true) : ks.length ≤ 4 ∧ vs.length = ks.length ∧ (∀ i (h : i < ks.length), ks[i].size ≤ 96) ∧ ∀ i (h : i < vs.length), vs[i].size ≤ 140 := by
  simp only [nodB, keysB, if_true, Bool.and_eq_true, decide_eq_true_eq, List.all_eq_true] at h
  obtain ⟨⟨⟨h1, h2⟩, -⟩, ⟨-, h4⟩, h5⟩ := h
  refine ⟨h1, h4, fun i hi => ?_, fun i hi => ?_⟩
  · have := h2 _ (List.getElem_mem hi)
    simp only [keyL, Bool.and_eq_true, decide_eq_true_eq] at this
    exact this.2
  · have := h5 _ (List.getElem_mem hi)
    simp only [valL, decide_eq_true_eq] at this
    exact this
theorem nodB_fork {ks vs : List ByteArray} {is : List Int} (h : nodB false ks vs is = true) : 1 ≤ ks.length ∧ ks.length ≤ 4 ∧ is.length = ks.length + 1 ∧ vs.length = 0 ∧ (∀ i (h : i < ks.length), ks[i].size ≤ 96) ∧ ∀ i (h : i < is.length), 0 ≤ is[i] ∧ is[i] ≤ 18 := by
  simp only [nodB, keysB, Bool.false_eq_true, if_false, Bool.and_eq_true, decide_eq_true_eq, List.all_eq_true] at h
  obtain ⟨⟨⟨h1, h2⟩, -⟩, ⟨⟨h3, h4⟩, h5⟩, h6⟩ := h
  refine ⟨h4, h1, h5, h3, fun i hi => ?_, fun i hi => ?_⟩
  · have := h2 _ (List.getElem_mem hi)
    simp only [keyL, Bool.and_eq_true, decide_eq_true_eq] at this
    exact this.2
  · have := h6 _ (List.getElem_mem hi)
    simp only [isN, Bool.and_eq_true, decide_eq_true_eq] at this
    exact this

theorem getD_of {α : Type} {l : List α} {i : Nat} (h : i < l.length) (d : α) : l.getD i d = l[i] := by
  rw [List.getD_eq_getElem?_getD, List.getElem?_eq_getElem h]
  rfl

theorem leaf_size {ks vs : List ByteArray} {is : List Int} (h : nodB true ks vs is = true) : ∀ i, i ≤ ks.length → (leafN ks vs i).size ≤ 1 + 300 * i
  | 0, _ => by show (⟨#[76]⟩ : ByteArray).size ≤ _; exact Nat.le_of_eq rfl
  | i + 1, hi => by
    obtain ⟨h1, h2, h3, h4⟩ := nodB_leaf h
    have ih := leaf_size h i (by omega)
    have a := h3 i (by omega)
    have b := h4 i (by omega)
    have e := entT_size (k := ks.getD i ⟨#[]⟩) (x := ks.getD i ⟨#[]⟩ ++ vs.getD i ⟨#[]⟩) (n := (vs.getD i ⟨#[]⟩).size) (by rw [getD_of (by omega)]; omega) (by omega) (by rw [getD_of (by omega)]; omega)
    show (leafN ks vs i ++ entT _ _ _).size ≤ _
    rw [ByteArray.size_append]
    rw [ByteArray.size_append, getD_of (by omega), getD_of (by omega)] at e
    rw [getD_of (by omega), getD_of (by omega)]
    omega
theorem fork_size {ks vs : List ByteArray} {is : List Int} (h : nodB false ks vs is = true) : ∀ i, i ≤ ks.length → (forkN ks is i).size ≤ 30 + 200 * i
  | 0, _ => by
    obtain ⟨h1, h2, h3, -, -, h4⟩ := nodB_fork h
    have a := h4 0 (by omega)
    have s := itxt_size (n := is.getD 0 0) (by rw [getD_of (by omega)]; omega) (by rw [getD_of (by omega)]; omega)
    show (⟨#[78]⟩ ++ itxt (is.getD 0 0) ++ ⟨#[58]⟩ : ByteArray).size ≤ _
    rw [ByteArray.size_append, ByteArray.size_append]
    have : (⟨#[78]⟩ : ByteArray).size = 1 := rfl
    have : (⟨#[58]⟩ : ByteArray).size = 1 := rfl
    omega
  | i + 1, hi => by
    obtain ⟨h1, h2, h3, -, h5, h4⟩ := nodB_fork h
    have ih := fork_size h i (by omega)
    have a := h5 i (by omega)
    have b := h4 (i + 1) (by omega)
    have e := entT_size (k := ks.getD i ⟨#[]⟩) (x := ks.getD i ⟨#[]⟩) (n := is.getD (i + 1) 0) (by rw [getD_of (by omega)]; omega) (by rw [getD_of (by omega)]; omega) (by rw [getD_of (by omega)]; omega)
    show (forkN ks is i ++ entT _ _ _).size ≤ _
    rw [ByteArray.size_append]
    rw [getD_of (by omega), getD_of (by omega)] at e
    rw [getD_of (by omega), getD_of (by omega)]
    omega

set_option maxHeartbeats 2000000 in
theorem putN_no (w : World) (lf : Bool) (vk vv vi : Value) (ks vs : List ByteArray) (is : List Int) (hk : ReadsS w vk ks) (hv : ReadsS w vv vs) (hi : Reads w vi is) (tt : Tab w) (hn : nodB lf ks vs is = false) :
    Calls Tryd.prog 8 #[.agg #[.bool lf, vk, vv, vi]] w fun e w' => e = .returned (.string ⟨#[]⟩) ∧ Below w.heap.size w w' := by
  have C := fun W (b : Below w.heap.size w W) => implNodeOk_any W lf vk vv vi ks vs is (hk.later b) (hv.later b) (hi.later b)
  simp only [hn] at C
  have C := hide C
  have K0 := N4.new w (.bool lf) vk vv vi 28
  have B0 : Below w.heap.size w (w.alloc (.cells #[.bool lf, vk, vv, vi] 28)) := (Below.refl _ _).alloc (Nat.le_refl _) _
  clear hk hv hi hn
  obtain ⟨p0, p1, p2, p3, -, -, -, -, -⟩ := id K0
  go_enter Tryd.func8, Tryd.ntmps8
  go_wp2_with fail
  refine (unhide C _ B0).mono ?_
  rintro e w1 ⟨rfl, b1⟩
  go_wp2
  go_ret
  exact ⟨rfl, B0.trans (b1.mono B0.size)⟩

set_option maxHeartbeats 4000000 in
theorem putN_leaf (w : World) (vk vv vi : Value) (ks vs : List ByteArray) (is : List Int) (hk : ReadsS w vk ks) (hv : ReadsS w vv vs) (hi : Reads w vi is) (tt : Tab w) (hn : nodB true ks vs is = true) :
    Calls Tryd.prog 8 #[.agg #[.bool true, vk, vv, vi]] w fun e w' => e = .returned (.string (leafN ks vs ks.length)) ∧ Below w.heap.size w w' := by
  have C := fun W (b : Below w.heap.size w W) => implNodeOk_any W true vk vv vi ks vs is (hk.later b) (hv.later b) (hi.later b)
  simp only [hn] at C
  have C := hide C
  obtain ⟨h4, hlen, hks, hvs⟩ := nodB_leaf hn
  have HKS := hide hks
  have HVS := hide hvs
  have hl1 : ks.length ≤ vs.length := by omega
  have hl2 : vs.length ≤ ks.length := by omega
  clear hks hvs hlen
  have HS := hide (leaf_size hn)
  clear hn
  obtain ⟨ak, bk, ok, ck, rfl, rk⟩ := hk
  obtain ⟨av, bv, ov, cv, rfl, rv⟩ := hv
  obtain ⟨ai, bi, oi, ci, rfl, ri⟩ := hi
  have h1 := rk.le
  have h2 := rv.le
  have h1' := rk.big
  have h2' := rv.big
  unfold maxLen at h1' h2'
  have K0 := N4.new w (.bool true) (.slice ak ks.length ck) (.slice av vs.length cv) (.slice ai is.length ci) 28
  have B0 : Below w.heap.size w (w.alloc (.cells #[.bool true, .slice ak ks.length ck, .slice av vs.length cv, .slice ai is.length ci] 28)) := (Below.refl _ _).alloc (Nat.le_refl _) _
  clear ri
  obtain ⟨p0, p1, p2, p3, -, -, -, -, -⟩ := id K0
  go_enter Tryd.func8, Tryd.ntmps8
  go_wp2_with fail
  refine (unhide C _ B0).mono ?_
  rintro e w1 ⟨rfl, b1⟩
  have K1 := K0.later b1
  have B1 := B0.trans (b1.mono B0.size)
  clear p0 p1 p2 p3 b1 K0 B0 C
  obtain ⟨p0, p1, p2, p3, -, -, -, -, -⟩ := id K1
  go_wp2
  clear p0 p1 p2 p3
  go_loopw [3, 17] (fun oo ii wr => ∃ (k : Nat) (q : ByteArray), ii = .int .i64 k ∧ oo = .string q ∧ k ≤ ks.length ∧ Hid (q = leafN ks vs k) ∧ N4 wr w.heap.size (.bool true) (.slice ak ks.length ck) (.slice av vs.length cv) (.slice ai is.length ci) ∧ Below w.heap.size w wr) (fun _ ii _ => ks.length - (intOf ii).toNat)
  case atStart => exact ⟨0, _, rfl, rfl, Nat.zero_le _, hide rfl, K1, B1⟩
  case round =>
    obtain ⟨k, q, rfl, rfl, hk, hq, KK, hbel⟩ := hrel
    obtain ⟨p0, p1, p2, p3, -, -, -, -, -⟩ := id KK
    by_cases hlt : k < ks.length
    · have hlv : k < vs.length := by omega
      have hc := (rk.later hbel).cell k hlt
      have hd := (rv.later hbel).cell k hlv
      have hat := rk.at_ (by omega)
      have hav := rv.at_ (by omega)
      subst hat hav
      have a := unhide HKS k hlt
      have b := unhide HVS k hlv
      have hz : q.size ≤ 1 + 300 * k := by rw [unhide hq]; exact unhide HS k (by omega)
      have CE := hide (fun W (t : Below w.heap.size w W) => entry_any W ks[k] (vs[k].size : Int) (ks[k] ++ vs[k]) (by omega) (by omega) (by omega) (by rw [ByteArray.size_append]; omega) (tt.later t))
      have hT := entT_size (k := ks[k]) (n := (vs[k].size : Int)) (x := ks[k] ++ vs[k]) (by omega) (by omega) (by omega)
      rw [ByteArray.size_append] at hT
      have HQ := hide (show q ++ entT ks[k] (vs[k].size : Int) (ks[k] ++ vs[k]) = leafN ks vs (k + 1) by
        rw [unhide hq]
        show _ = leafN ks vs k ++ entT (ks.getD k ⟨#[]⟩) (vs.getD k ⟨#[]⟩).size (ks.getD k ⟨#[]⟩ ++ vs.getD k ⟨#[]⟩)
        rw [getD_of hlt, getD_of hlv])
      generalize entT ks[k] (vs[k].size : Int) (ks[k] ++ vs[k]) = E at *
      generalize ks[k] = key at *
      generalize vs[k] = val at *
      have z1 : ¬ (9223372036854775807 < key.size + val.size) := by omega
      have z2 : ¬ (9223372036854775807 < q.size + E.size) := by omega
      clear hq a b hT hz
      have Stab := hide (fun (w' : World) (h : Below wr.heap.size wr w') => (⟨(KK.later h).c2, cell_later h hd⟩ : w'.cell? ⟨w.heap.size, 2, none⟩ = some (.slice (some ⟨bv, ov, none⟩) vs.length cv) ∧ w'.cell? ⟨bv, ov + k, none⟩ = some (.string val)))
      go_wp2
      go_region_held3 (fun w' => w'.cell? ⟨w.heap.size, 2, none⟩ = some (.slice (some ⟨bv, ov, none⟩) vs.length cv) ∧ w'.cell? ⟨bv, ov + k, none⟩ = some (.string val))
        (first | exact unhide Stab _ (Below.refl _ _).drew | (refine unhide Stab _ ?_; assumption))
        (first | (go_at_call 22; refine (unhide CE _ hbel.drew).mono ?_; rintro e w2 ⟨rfl, b2⟩; have BX : Below wr.heap.size wr w2 := (Below.refl _ _).drew.trans b2))
      have K2 := KK.later BX
      have B2 := hbel.trans (BX.mono hbel.size)
      clear CE KK
      go_wp2
      go_roundw
      case rel => exact ⟨k + 1, _, by go_num, rfl, by omega, HQ, K2, B2⟩
      case measure => simp [intOf]; omega
    · have E := hide (show q = leafN ks vs ks.length by rw [unhide hq, show k = ks.length by omega])
      clear hq
      go_wp2
      go_ret
      exact ⟨by rw [← unhide E]; rfl, hbel⟩

set_option maxHeartbeats 4000000 in
theorem putN_fork (w : World) (vk vv vi : Value) (ks vs : List ByteArray) (is : List Int) (hk : ReadsS w vk ks) (hv : ReadsS w vv vs) (hi : Reads w vi is) (tt : Tab w) (hn : nodB false ks vs is = true) :
    Calls Tryd.prog 8 #[.agg #[.bool false, vk, vv, vi]] w fun e w' => e = .returned (.string (forkN ks is ks.length)) ∧ Below w.heap.size w w' := by
  have C := fun W (b : Below w.heap.size w W) => implNodeOk_any W false vk vv vi ks vs is (hk.later b) (hv.later b) (hi.later b)
  simp only [hn] at C
  have C := hide C
  obtain ⟨h0, h4, hlen, -, hks, hvs⟩ := nodB_fork hn
  have HKS := hide hks
  have HVS := hide hvs
  have hl1 : ks.length + 1 ≤ is.length := by omega
  have hl2 : is.length ≤ ks.length + 1 := by omega
  clear hks hvs hlen
  have HS := hide (fork_size hn)
  clear hn
  obtain ⟨ak, bk, ok, ck, rfl, rk⟩ := hk
  obtain ⟨av, bv, ov, cv, rfl, rv⟩ := hv
  obtain ⟨ai, bi, oi, ci, rfl, ri⟩ := hi
  have h1 := rk.le
  have h2 := ri.le
  have h1' := rk.big
  have h2' := ri.big
  unfold maxLen at h1' h2'
  have K0 := N4.new w (.bool false) (.slice ak ks.length ck) (.slice av vs.length cv) (.slice ai is.length ci) 28
  have B0 : Below w.heap.size w (w.alloc (.cells #[.bool false, .slice ak ks.length ck, .slice av vs.length cv, .slice ai is.length ci] 28)) := (Below.refl _ _).alloc (Nat.le_refl _) _
  clear rv
  obtain ⟨p0, p1, p2, p3, -, -, -, -, -⟩ := id K0
  go_enter Tryd.func8, Tryd.ntmps8
  go_wp2_with fail
  refine (unhide C _ B0).mono ?_
  rintro e w1 ⟨rfl, b1⟩
  have K1 := K0.later b1
  have B1 := B0.trans (b1.mono B0.size)
  clear p0 p1 p2 p3 b1 K0 B0 C
  obtain ⟨p0, p1, p2, p3, -, -, -, -, -⟩ := id K1
  have hat0 := ri.at_ (by omega)
  subst hat0
  have hi0 := (ri.later B1).cell 0 (by omega)
  rw [Nat.add_zero] at hi0
  have b0 := unhide HVS 0 (by omega)
  have C0 := hide (itoa_any w1 is[0] (by omega) (by omega) (tt.later B1))
  have s0 := itxt_size (n := is[0]) (by omega) (by omega)
  have F0 := hide (show ⟨#[78]⟩ ++ itxt is[0] ++ ⟨#[58]⟩ = forkN ks is 0 by
    show _ = ⟨#[78]⟩ ++ itxt (is.getD 0 0) ++ ⟨#[58]⟩
    rw [getD_of (by omega)])
  have hg0 : (0 : Int) < is.length := by omega
  generalize is[0] = i0 at *
  generalize itxt i0 = T0 at *
  have z0 : ¬ (9223372036854775807 < 1 + T0.size) := by omega
  have z00 : ¬ (9223372036854775807 < 1 + T0.size + 1) := by omega
  go_wp2_with fail
  refine (unhide C0).mono ?_
  rintro e w2 ⟨rfl, b2⟩
  have K2 := K1.later b2
  have B2 := B1.trans (b2.mono B1.size)
  clear p0 p1 p2 p3 hi0 b0 C0 s0 b2 K1 B1
  obtain ⟨p0, p1, p2, p3, -, -, -, -, -⟩ := id K2
  go_wp2
  clear p0 p1 p2 p3
  go_loopw [6, 51] (fun oo ii wr => ∃ (k : Nat) (q : ByteArray), ii = .int .i64 k ∧ oo = .string q ∧ k ≤ ks.length ∧ Hid (q = forkN ks is k) ∧ N4 wr w.heap.size (.bool false) (.slice ak ks.length ck) (.slice av vs.length cv) (.slice (some ⟨bi, oi, none⟩) is.length ci) ∧ Below w.heap.size w wr) (fun _ ii _ => ks.length - (intOf ii).toNat)
  case atStart => exact ⟨0, _, rfl, rfl, Nat.zero_le _, F0, K2, B2⟩
  case round =>
    obtain ⟨k, q, rfl, rfl, hk, hq, KK, hbel⟩ := hrel
    obtain ⟨p0, p1, p2, p3, -, -, -, -, -⟩ := id KK
    by_cases hlt : k < ks.length
    · have hlv : k + 1 < is.length := by omega
      have hc := (rk.later hbel).cell k hlt
      have hd := (ri.later hbel).cell (k + 1) hlv
      have hat := rk.at_ (by omega)
      subst hat
      have a := unhide HKS k hlt
      have b := unhide HVS (k + 1) hlv
      have hz : q.size ≤ 30 + 200 * k := by rw [unhide hq]; exact unhide HS k (by omega)
      have CE := hide (fun W (t : Below w.heap.size w W) => entry_any W ks[k] is[k + 1] ks[k] (by omega) (by omega) (by omega) (by omega) (tt.later t))
      have hT := entT_size (k := ks[k]) (n := is[k + 1]) (x := ks[k]) (by omega) (by omega) (by omega)
      have HQ := hide (show q ++ entT ks[k] is[k + 1] ks[k] = forkN ks is (k + 1) by
        rw [unhide hq]
        show _ = forkN ks is k ++ entT (ks.getD k ⟨#[]⟩) (is.getD (k + 1) 0) (ks.getD k ⟨#[]⟩)
        rw [getD_of hlt, getD_of hlv])
      have hw : IntKind.i64.wrap ((k : Int) + 1) = (k : Int) + 1 := by rw [IntKind.wrap_i64]; omega
      have hk1 : (k : Int) + 1 < (is.length : Int) := by omega
      have hk2 : (0 : Int) ≤ (k : Int) + 1 := by omega
      generalize entT ks[k] is[k + 1] ks[k] = E at *
      generalize ks[k] = key at *
      generalize is[k + 1] = num at *
      have z2 : ¬ (9223372036854775807 < q.size + E.size) := by omega
      clear hq a b hT hz
      go_wp2_with fail
      refine (unhide CE _ hbel).mono ?_
      rintro e w3 ⟨rfl, BX⟩
      have K3 := KK.later BX
      have B3 := hbel.trans (BX.mono hbel.size)
      clear CE KK
      go_wp2
      go_roundw
      case rel => exact ⟨k + 1, _, by go_num, rfl, by omega, HQ, K3, B3⟩
      case measure => simp [intOf]; omega
    · have E := hide (show q = forkN ks is ks.length by rw [unhide hq, show k = ks.length by omega])
      clear hq
      go_wp2
      go_ret
      exact ⟨by rw [← unhide E]; rfl, hbel⟩

theorem implNodePut_any (w : World) (lf : Bool) (vk vv vi : Value) (ks vs : List ByteArray) (is : List Int) (hk : ReadsS w vk ks) (hv : ReadsS w vv vs) (hi : Reads w vi is) (tt : Tab w) :
    Calls Tryd.prog 8 #[.agg #[.bool lf, vk, vv, vi]] w fun e w' => e = .returned (.string (nodePutR lf ks vs is)) ∧ Below w.heap.size w w' := by
  unfold nodePutR
  cases h : nodB lf ks vs is with
  | false => exact putN_no w lf vk vv vi ks vs is hk hv hi tt h
  | true =>
    cases lf
    · exact putN_fork w vk vv vi ks vs is hk hv hi tt h
    · exact putN_leaf w vk vv vi ks vs is hk hv hi tt h

end Go.Proofs.YtdefhpegabifjaaDoor
