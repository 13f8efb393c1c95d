/- The text of a node: NodePut of the specification. -/
import Derived.Test.YtdefhpegabifjaaDoorNdU
namespace Go.Proofs.YtdefhpegabifjaaDoor
open Go.RowKit
set_option maxRecDepth 100000
set_option linter.unusedSimpArgs false
set_option linter.unusedVariables false

theorem cat5 (a b c d e f g : ByteArray) : a ++ b ++ c ++ d ++ e ++ f ++ g = a ++ (b ++ c ++ d ++ e ++ (f ++ g)) := by simp only [ByteArray.append_assoc]
theorem cat4 (a b c d e f : ByteArray) : a ++ b ++ c ++ d ++ e ++ f = a ++ (b ++ c ++ d ++ e ++ f) := by simp only [ByteArray.append_assoc]
theorem nil_nod {lf : Bool} {ks vs : List ByteArray} {is : List Int} (h : nilB lf ks vs is = true) : nodB lf ks vs is = false := by
  simp only [nilB, Bool.and_eq_true, decide_eq_true_eq, Bool.not_eq_true'] at h
  obtain ⟨⟨⟨rfl, h1⟩, -⟩, -⟩ := h
  simp [nodB, h1]

set_option maxHeartbeats 4000000 in
theorem l9Put_leaf (w : World) (vk vv vi : Value) (ks vs : List ByteArray) (is : List Int) (hk : ReadsS w vk ks) (hv : ReadsS w vv vs) (hi : Reads w vi is) (hn : nodB true ks vs is = true) :
    Calls Tryd.prog 18 #[.agg #[.bool true, vk, vv, vi]] w fun e w' => e = .returned (.string (leafN ks vs ks.length)) ∧ Below w.heap.size w w' := by
  obtain ⟨h4, hlen, hks, hvs⟩ := nodB_leaf hn
  have HS := hide (leaf_size hn)
  have HKS := hide hks
  have HVS := hide hvs
  have hl1 : ks.length ≤ vs.length := by omega
  have hl2 : vs.length ≤ ks.length := by omega
  clear hn hks hvs hlen
  obtain ⟨ak, bk, ok, ck, rfl, rk⟩ := hk
  obtain ⟨av, bv, ov, cv, rfl, rv⟩ := hv
  obtain ⟨ai, bi, oi, ci, rfl, ri⟩ := hi
  have h1 := rk.le
  have h2 := rv.le
  have h1' := rk.big
  have h2' := rv.big
  unfold maxLen at h1' h2'
  have CZ := fun W => l9Zero_any W true ak av ai ks vs is ck cv ci
  rw [show nilB true ks vs is = false by simp [nilB]] at CZ
  have CZ := hide CZ
  have K0 := N4.new w (.bool true) (.slice ak ks.length ck) (.slice av vs.length cv) (.slice ai is.length ci) 28
  have B0 : Below w.heap.size w (w.alloc (.cells #[.bool true, .slice ak ks.length ck, .slice av vs.length cv, .slice ai is.length ci] 28)) := (Below.refl _ _).alloc (Nat.le_refl _) _
  clear ri
  obtain ⟨p0, p1, p2, p3, -, -, -, -, -⟩ := id K0
  go_enter Tryd.func18, Tryd.ntmps18
  go_wp2_with fail
  refine (unhide CZ _).mono ?_
  rintro e w1 ⟨rfl, b1⟩
  have K1 := K0.later b1
  have B1 := B0.trans (b1.mono B0.size)
  clear p0 p1 p2 p3 b1 K0 B0 CZ
  obtain ⟨p0, p1, p2, p3, -, -, -, -, -⟩ := id K1
  go_wp2
  clear p0 p1 p2 p3
  go_loopw [3, 4] (fun oo ii wr => ∃ (k : Nat) (q : ByteArray), ii = .int .i64 k ∧ oo = .string q ∧ k ≤ ks.length ∧ Hid (q = leafN ks vs k) ∧ N4 wr w.heap.size (.bool true) (.slice ak ks.length ck) (.slice av vs.length cv) (.slice ai is.length ci) ∧ Below w.heap.size w wr) (fun _ ii _ => ks.length - (intOf ii).toNat)
  case atStart => exact ⟨0, _, rfl, rfl, Nat.zero_le _, hide rfl, K1, B1⟩
  case round =>
    obtain ⟨k, q, rfl, rfl, hk, hq, KK, hbel⟩ := hrel
    obtain ⟨p0, p1, p2, p3, -, -, -, -, -⟩ := id KK
    by_cases hlt : k < ks.length
    · have hlv : k < vs.length := by omega
      have hc := (rk.later hbel).cell k hlt
      have hd := (rv.later hbel).cell k hlv
      have hat := rk.at_ (by omega)
      have hav := rv.at_ (by omega)
      subst hat hav
      have a := unhide HKS k hlt
      have b := unhide HVS k hlv
      have hz : q.size ≤ 1 + 300 * k := by rw [unhide hq]; exact unhide HS k (by omega)
      have C1 := hide (fun W => l1Dec_any W (ks[k].size : Int) (by omega) (by omega))
      have C2 := hide (fun W => l1Dec_any W (vs[k].size : Int) (by omega) (by omega))
      have s1 := itxt_size (n := (ks[k].size : Int)) (by omega) (by omega)
      have s2 := itxt_size (n := (vs[k].size : Int)) (by omega) (by omega)
      have HQ := hide (show q ++ itxt ks[k].size ++ ⟨#[44]⟩ ++ itxt vs[k].size ++ ⟨#[58]⟩ ++ ks[k] ++ vs[k] = leafN ks vs (k + 1) by
        rw [cat5, unhide hq]
        show _ = leafN ks vs k ++ entT (ks.getD k ⟨#[]⟩) (vs.getD k ⟨#[]⟩).size (ks.getD k ⟨#[]⟩ ++ vs.getD k ⟨#[]⟩)
        rw [getD_of hlt, getD_of hlv]
        rfl)
      generalize itxt (ks[k].size : Int) = t1 at *
      generalize itxt (vs[k].size : Int) = t2 at *
      generalize ks[k] = key at *
      generalize vs[k] = val at *
      have z1 : ¬ (9223372036854775807 < q.size + t1.size) := by omega
      have z2 : ¬ (9223372036854775807 < q.size + t1.size + 1) := by omega
      have z3 : ¬ (9223372036854775807 < q.size + t1.size + 1 + t2.size) := by omega
      have z4 : ¬ (9223372036854775807 < q.size + t1.size + 1 + t2.size + 1) := by omega
      have z5 : ¬ (9223372036854775807 < q.size + t1.size + 1 + t2.size + 1 + key.size) := by omega
      have z6 : ¬ (9223372036854775807 < q.size + t1.size + 1 + t2.size + 1 + key.size + val.size) := by omega
      clear hq a b s1 s2 hz
      have Stab := hide (fun (w' : World) (h : Below wr.heap.size wr w') => (⟨(KK.later h).c1, (KK.later h).c2, cell_later h hc, cell_later h hd⟩ : w'.cell? ⟨w.heap.size, 1, none⟩ = some (.slice (some ⟨bk, ok, none⟩) ks.length ck) ∧ w'.cell? ⟨w.heap.size, 2, none⟩ = some (.slice (some ⟨bv, ov, none⟩) vs.length cv) ∧ w'.cell? ⟨bk, ok + k, none⟩ = some (.string key) ∧ w'.cell? ⟨bv, ov + k, none⟩ = some (.string val)))
      go_wp2
      go_region_held3 (fun w' => w'.cell? ⟨w.heap.size, 1, none⟩ = some (.slice (some ⟨bk, ok, none⟩) ks.length ck) ∧ w'.cell? ⟨w.heap.size, 2, none⟩ = some (.slice (some ⟨bv, ov, none⟩) vs.length cv) ∧ w'.cell? ⟨bk, ok + k, none⟩ = some (.string key) ∧ w'.cell? ⟨bv, ov + k, none⟩ = some (.string val))
        (first | exact unhide Stab _ (Below.refl _ _).drew | (refine unhide Stab _ ?_; assumption))
        (first
          | (go_at_call_of 37 (Value.int .i64 (key.size : Int)); refine (unhide C1 _).mono ?_; rintro e w2 ⟨rfl, b2⟩; have BX : Below wr.heap.size wr w2 := (Below.refl _ _).drew.trans b2)
          | (go_at_call_of 37 (Value.int .i64 (val.size : Int)); refine (unhide C2 _).mono ?_; rintro e w3 ⟨rfl, b3⟩; have BY : Below wr.heap.size wr w3 := BX.trans (b3.mono BX.size)))
      have K3 := KK.later BY
      have B3 := hbel.trans (BY.mono hbel.size)
      clear C1 C2 KK
      go_wp2
      go_roundw
      case rel => exact ⟨k + 1, _, by go_num, rfl, by omega, HQ, K3, B3⟩
      case measure => simp [intOf]; omega
    · have E := hide (show q = leafN ks vs ks.length by rw [unhide hq, show k = ks.length by omega])
      clear hq
      go_wp2
      go_ret
      exact ⟨by rw [← unhide E]; rfl, hbel⟩

set_option maxHeartbeats 4000000 in
theorem l9Put_fork (w : World) (vk vv vi : Value) (ks vs : List ByteArray) (is : List Int) (hk : ReadsS w vk ks) (hv : ReadsS w vv vs) (hi : Reads w vi is) (hn : nodB false ks vs is = true) :
    Calls Tryd.prog 18 #[.agg #[.bool false, vk, vv, vi]] w fun e w' => e = .returned (.string (forkN ks is ks.length)) ∧ Below w.heap.size w w' := by
  obtain ⟨h0, h4, hlen, -, hks, hvs⟩ := nodB_fork hn
  have HS := hide (fork_size hn)
  have HKS := hide hks
  have HVS := hide hvs
  have hl1 : ks.length + 1 ≤ is.length := by omega
  have hl2 : is.length ≤ ks.length + 1 := by omega
  clear hn hks hvs hlen
  obtain ⟨ak, bk, ok, ck, rfl, rk⟩ := hk
  obtain ⟨av, bv, ov, cv, rfl, rv⟩ := hv
  obtain ⟨ai, bi, oi, ci, rfl, ri⟩ := hi
  have h1 := rk.le
  have h2 := ri.le
  have h1' := rk.big
  have h2' := ri.big
  unfold maxLen at h1' h2'
  have CZ := fun W => l9Zero_any W false ak av ai ks vs is ck cv ci
  rw [show nilB false ks vs is = false by simp [nilB]; intro e; rw [e] at h0; simp at h0] at CZ
  have CZ := hide CZ
  have K0 := N4.new w (.bool false) (.slice ak ks.length ck) (.slice av vs.length cv) (.slice ai is.length ci) 28
  have B0 : Below w.heap.size w (w.alloc (.cells #[.bool false, .slice ak ks.length ck, .slice av vs.length cv, .slice ai is.length ci] 28)) := (Below.refl _ _).alloc (Nat.le_refl _) _
  clear rv
  obtain ⟨p0, p1, p2, p3, -, -, -, -, -⟩ := id K0
  go_enter Tryd.func18, Tryd.ntmps18
  go_wp2_with fail
  refine (unhide CZ _).mono ?_
  rintro e w1 ⟨rfl, b1⟩
  have K1 := K0.later b1
  have B1 := B0.trans (b1.mono B0.size)
  clear p0 p1 p2 p3 b1 K0 B0 CZ
  obtain ⟨p0, p1, p2, p3, -, -, -, -, -⟩ := id K1
  have hat0 := ri.at_ (by omega)
  subst hat0
  have hi0 := (ri.later B1).cell 0 (by omega)
  rw [Nat.add_zero] at hi0
  have b0 := unhide HVS 0 (by omega)
  have C0 := hide (l1Dec_any w1 is[0] (by omega) (by omega))
  have s0 := itxt_size (n := is[0]) (by omega) (by omega)
  have F0 := hide (show ⟨#[78]⟩ ++ itxt is[0] ++ ⟨#[58]⟩ = forkN ks is 0 by
    show _ = ⟨#[78]⟩ ++ itxt (is.getD 0 0) ++ ⟨#[58]⟩
    rw [getD_of (by omega)])
  have hg0 : (0 : Int) < is.length := by omega
  generalize is[0] = i0 at *
  generalize itxt i0 = T0 at *
  have z0 : ¬ (9223372036854775807 < 1 + T0.size) := by omega
  have z00 : ¬ (9223372036854775807 < 1 + T0.size + 1) := by omega
  go_wp2_with fail
  refine (unhide C0).mono ?_
  rintro e w2 ⟨rfl, b2⟩
  have K2 := K1.later b2
  have B2 := B1.trans (b2.mono B1.size)
  clear p0 p1 p2 p3 hi0 b0 C0 s0 b2 K1 B1
  obtain ⟨p0, p1, p2, p3, -, -, -, -, -⟩ := id K2
  go_wp2
  clear p0 p1 p2 p3
  go_loopw [5, 6] (fun oo ii wr => ∃ (k : Nat) (q : ByteArray), ii = .int .i64 k ∧ oo = .string q ∧ k ≤ ks.length ∧ Hid (q = forkN ks is k) ∧ N4 wr w.heap.size (.bool false) (.slice ak ks.length ck) (.slice av vs.length cv) (.slice (some ⟨bi, oi, none⟩) is.length ci) ∧ Below w.heap.size w wr) (fun _ ii _ => ks.length - (intOf ii).toNat)
  case atStart => exact ⟨0, _, rfl, rfl, Nat.zero_le _, F0, K2, B2⟩
  case round =>
    obtain ⟨k, q, rfl, rfl, hk, hq, KK, hbel⟩ := hrel
    obtain ⟨p0, p1, p2, p3, -, -, -, -, -⟩ := id KK
    by_cases hlt : k < ks.length
    · have hlv : k + 1 < is.length := by omega
      have hc := (rk.later hbel).cell k hlt
      have hd := (ri.later hbel).cell (k + 1) hlv
      have hat := rk.at_ (by omega)
      subst hat
      have a := unhide HKS k hlt
      have b := unhide HVS (k + 1) hlv
      have hz : q.size ≤ 30 + 200 * k := by rw [unhide hq]; exact unhide HS k (by omega)
      have C1 := hide (fun W => l1Dec_any W (ks[k].size : Int) (by omega) (by omega))
      have C2 := hide (fun W => l1Dec_any W is[k + 1] (by omega) (by omega))
      have s1 := itxt_size (n := (ks[k].size : Int)) (by omega) (by omega)
      have s2 := itxt_size (n := is[k + 1]) (by omega) (by omega)
      have HQ := hide (show q ++ itxt ks[k].size ++ ⟨#[44]⟩ ++ itxt is[k + 1] ++ ⟨#[58]⟩ ++ ks[k] = forkN ks is (k + 1) by
        rw [cat4, unhide hq]
        show _ = forkN ks is k ++ entT (ks.getD k ⟨#[]⟩) (is.getD (k + 1) 0) (ks.getD k ⟨#[]⟩)
        rw [getD_of hlt, getD_of hlv]
        rfl)
      generalize itxt (ks[k].size : Int) = t1 at *
      generalize itxt is[k + 1] = t2 at *
      generalize ks[k] = key at *
      generalize is[k + 1] = num at *
      have z1 : ¬ (9223372036854775807 < q.size + t1.size) := by omega
      have z2 : ¬ (9223372036854775807 < q.size + t1.size + 1) := by omega
      have z3 : ¬ (9223372036854775807 < q.size + t1.size + 1 + t2.size) := by omega
      have z4 : ¬ (9223372036854775807 < q.size + t1.size + 1 + t2.size + 1) := by omega
      have z5 : ¬ (9223372036854775807 < q.size + t1.size + 1 + t2.size + 1 + key.size) := by omega
      have hw : IntKind.i64.wrap ((k : Int) + 1) = (k : Int) + 1 := by rw [IntKind.wrap_i64]; omega
      have hk1 : (k : Int) + 1 < (is.length : Int) := by omega
      have hk2 : (0 : Int) ≤ (k : Int) + 1 := by omega
      clear hq a b s1 s2 hz
      have Stab := hide (fun (w' : World) (h : Below wr.heap.size wr w') => (⟨(KK.later h).c1, (KK.later h).c3, cell_later h hc, cell_later h hd⟩ : w'.cell? ⟨w.heap.size, 1, none⟩ = some (.slice (some ⟨bk, ok, none⟩) ks.length ck) ∧ w'.cell? ⟨w.heap.size, 3, none⟩ = some (.slice (some ⟨bi, oi, none⟩) is.length ci) ∧ w'.cell? ⟨bk, ok + k, none⟩ = some (.string key) ∧ w'.cell? ⟨bi, oi + (k + 1), none⟩ = some (.int .i64 num)))
      go_wp2
      go_region_held3 (fun w' => w'.cell? ⟨w.heap.size, 1, none⟩ = some (.slice (some ⟨bk, ok, none⟩) ks.length ck) ∧ w'.cell? ⟨w.heap.size, 3, none⟩ = some (.slice (some ⟨bi, oi, none⟩) is.length ci) ∧ w'.cell? ⟨bk, ok + k, none⟩ = some (.string key) ∧ w'.cell? ⟨bi, oi + (k + 1), none⟩ = some (.int .i64 num))
        (first | exact unhide Stab _ (Below.refl _ _).drew | (refine unhide Stab _ ?_; assumption))
        (first
          | (go_at_call_of 37 (Value.int .i64 (key.size : Int)); refine (unhide C1 _).mono ?_; rintro e w2 ⟨rfl, b2⟩; have BX : Below wr.heap.size wr w2 := (Below.refl _ _).drew.trans b2)
          | (go_at_call_of 37 (Value.int .i64 num); refine (unhide C2 _).mono ?_; rintro e w3 ⟨rfl, b3⟩; have BY : Below wr.heap.size wr w3 := BX.trans (b3.mono BX.size)))
      have K3 := KK.later BY
      have B3 := hbel.trans (BY.mono hbel.size)
      clear C1 C2 KK
      go_wp2
      go_roundw
      case rel => exact ⟨k + 1, _, by go_num, rfl, by omega, HQ, K3, B3⟩
      case measure => simp [intOf]; omega
    · have E := hide (show q = forkN ks is ks.length by rw [unhide hq, show k = ks.length by omega])
      clear hq
      go_wp2
      go_ret
      exact ⟨by rw [← unhide E]; rfl, hbel⟩

end Go.Proofs.YtdefhpegabifjaaDoor
