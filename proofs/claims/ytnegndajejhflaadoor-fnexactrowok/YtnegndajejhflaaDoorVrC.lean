/- Copies of rows of types; rows of values and of types that are the same. -/
import Derived.Test.YtnegndajejhflaaDoorVrB
import Derived.Deep.RegionHeld3
namespace Go.Proofs.YtnegndajejhflaaDoor
open Go.RowKit
set_option maxRecDepth 100000
set_option linter.unusedSimpArgs false
set_option linter.unusedVariables false

theorem toTypeB (w : World) (k d s : Int) : Calls Tryd.prog 8 #[.agg #[.int .i64 k, .int .i64 d, .int .i64 s]] w fun e w' => e = .returned (.agg #[.int .i64 k, .int .i64 d, .int .i64 s]) ∧ Below w.heap.size w w' := by
  refine (toType_any w k d s).mono ?_
  rintro e w' ⟨rfl, hw⟩
  subst hw
  exact ⟨rfl, (((Below.refl _ _).alloc (Nat.le_refl _) _).alloc (by simp) _).alloc (by simp; omega) _⟩

theorem eqTypeV (w : World) (k m d : Int) : Calls Tryd.prog 32 #[.agg #[.int .i64 k, .int .i64 m, .int .i64 d], .agg #[.int .i64 k, .int .i64 m, .int .i64 d]] w fun e w' => e = .returned (.bool true) ∧ Below w.heap.size w w' := by
  have h0 : (k != k) = false := by simp
  have h1 : (m != m) = false := by simp
  have h2 : (d != d) = false := by simp
  go_enter Tryd.func32, Tryd.ntmps32
  go_wp2_with fail
  (try (go_quiet (fail)))
  go_wp2_with fail
  (try (go_quiet (fail)))
  go_wp2_with fail
  (try (go_quiet (fail)))
  go_wp2
  go_ret
  refine ⟨rfl, ?_⟩
  repeat (first | exact Below.refl _ _ | refine below_drewN ?_ _ | refine Below.drew ?_ | refine Below.alloc ?_ (by first | exact Nat.le_refl _ | (simp only [World.size_alloc]; omega)) _)

/-- Three cells of a row that are written. -/
def set3o (W : World) (b o : Nat) (x0 x1 x2 : Value) : World := ((W.setCell ⟨b, o, none⟩ x0).setCell ⟨b, o + 1, none⟩ x1).setCell ⟨b, o + 2, none⟩ x2
def TAt (w : World) (b o : Nat) (x : Int × Int × Int) : Prop := w.cell? ⟨b, o, none⟩ = some (.int .i64 x.1) ∧ w.cell? ⟨b, o + 1, none⟩ = some (.int .i64 x.2.1) ∧ w.cell? ⟨b, o + 2, none⟩ = some (.int .i64 x.2.2)
theorem TAt.later {w w' : World} {b o : Nat} {x : Int × Int × Int} (h : TAt w b o x) (k : Below w.heap.size w w') : TAt w' b o x := ⟨at_later k h.1, at_later k h.2.1, at_later k h.2.2⟩
theorem set3o_row {W : World} {b N : Nat} (h : Row0 W b N) (o : Nat) (x0 x1 x2 : Value) : Row0 (set3o W b o x0 x1 x2) b N := ((h.set _ _).set _ _).set _ _
theorem set3o_below {w W : World} {b : Nat} (h : Below w.heap.size w W) (hb : w.heap.size ≤ b) (o : Nat) (x0 x1 x2 : Value) : Below w.heap.size w (set3o W b o x0 x1 x2) :=
  ((h.setCell (p := ⟨b, o, none⟩) hb _).setCell (p := ⟨b, o + 1, none⟩) hb _).setCell (p := ⟨b, o + 2, none⟩) hb _
theorem set3o_out {W : World} {b o i : Nat} {u : Value} (h : W.cell? ⟨b, i, none⟩ = some u) (hi : i < o ∨ o + 3 ≤ i) (x0 x1 x2 : Value) : (set3o W b o x0 x1 x2).cell? ⟨b, i, none⟩ = some u :=
  cell_pass (cell_pass (cell_pass h (by omega) _) (by omega) _) (by omega) _
theorem TAt.pass {w : World} {b o : Nat} {x : Int × Int × Int} (h : TAt w b o x) {o' : Nat} (ho : o + 3 ≤ o') (x0 x1 x2 : Value) : TAt (set3o w b o' x0 x1 x2) b o x :=
  ⟨set3o_out h.1 (by omega) _ _ _, set3o_out h.2.1 (by omega) _ _ _, set3o_out h.2.2 (by omega) _ _ _⟩
theorem TAt.put {w : World} {b N o : Nat} (h : Row0 w b N) (ho : o + 3 ≤ N) (x : Int × Int × Int) : TAt (set3o w b o (.int .i64 x.1) (.int .i64 x.2.1) (.int .i64 x.2.2)) b o x := by
  obtain ⟨v0, h0⟩ := h.ex o (by omega)
  obtain ⟨v1, h1⟩ := h.ex (o + 1) (by omega)
  obtain ⟨v2, h2⟩ := h.ex (o + 2) (by omega)
  exact ⟨cell_pass (cell_pass (cell_hit h0 _) (by omega) _) (by omega) _, cell_pass (cell_hit (cell_pass h1 (by omega) _) _) (by omega) _, cell_hit (cell_pass (cell_pass h2 (by omega) _) (by omega) _) _⟩

theorem Tryd.infoTyp : (Tryd.prog.info? 42).map (fun i => (i.zero, i.size, i.bytes)) = some (some (.agg #[.int .i64 0, .int .i64 0, .int .i64 0]), 3, 24) := by kernel_rfl

theorem rowT_reads {w : World} {b n : Nat} {ts : List (Int × Int × Int)} (hn : n ≤ maxLen) (hl : ts.length = n) (h : ∀ j (h : j < ts.length), TAt w b (j * 3) ts[j]) : ReadsT w (.slice (some ⟨b, 0, none⟩) n n) ts :=
  ⟨some ⟨b, 0, none⟩, b, 0, n, by rw [hl], ⟨by omega, hn, fun _ => rfl, (fun q => by cases q), (fun i hi => by rw [Nat.zero_add]; exact h i hi)⟩⟩

set_option maxHeartbeats 2000000 in
theorem toTypeS_any (w : World) (v : Value) (ts : List (Int × Int × Int)) (hr : ReadsT w v ts) (hl : ts.length ≤ 1048576) :
    Calls Tryd.prog 14 #[v] w (GivesTS w ts) := by
  obtain ⟨ao, b, off, cap, rfl, hr⟩ := hr
  obtain ⟨i0, hi, hz0, hz1, hz2⟩ := info_parts Tryd.infoTyp
  go_enter Tryd.func14, Tryd.ntmps14
  go_wp2_with (at_make; refine wpList_make_full _ rfl _ _ 51 rfl w.heap.size 42 i0 _ 3 Tryd.underlying51 hi hz0 hz1 _ _ _ _ ts.length rfl rfl rfl rfl ?b2 ?b3 (Nat.le_refl _) ?_)
  case b2 => rw [hz2]; omega
  case b3 => unfold maxLen; omega
  intro w0 hown0 hgrow0
  have R0 : Row0 w0 w.heap.size (ts.length * 3) := Row0.made hown0 (by simp [size_madeCells])
  have hb0 := (Below.refl w.heap.size w).grown hgrow0 (Nat.le_refl _) (fun k h => by cases h)
  clear hown0 hgrow0 hi hz0 hz1 hz2
  go_wp2
  go_loopw [4] (fun i wr => ∃ (k : Nat), k ≤ ts.length ∧ i = .int .i64 k ∧ Hid (∀ j (h : j < ts.length), j < k → TAt wr w.heap.size (j * 3) ts[j]) ∧ Row0 wr w.heap.size (ts.length * 3) ∧ Below w.heap.size w wr)
    (fun i _ => ts.length - (intOf i).toNat)
  case atStart => exact ⟨0, Nat.zero_le _, rfl, hide (fun j _ q => absurd q (Nat.not_lt_zero _)), R0, hb0⟩
  case round =>
    obtain ⟨k, hk, rfl, hall, hrow, hbel⟩ := hrel
    by_cases hlt : k < ts.length
    · obtain ⟨c0, c1, c2⟩ := (hr.later hbel).cell k hlt
      have hat := hr.at_ (by omega)
      subst hat
      obtain ⟨x, hxk⟩ : ∃ x, ts[k] = x := ⟨_, rfl⟩
      have HXK := hide hxk
      rw [hxk] at c0 c1 c2
      clear hr hxk hb0 R0
      go_wp2_with fail
      refine (toTypeB _ x.1 x.2.1 x.2.2).mono ?_
      rintro e w1 ⟨rfl, b1⟩
      have hrow1 := hrow.later b1
      have B1 := hbel.trans (b1.mono hbel.size)
      have HA := hide (fun j (h : j < ts.length) (q : j < k) => (unhide hall j h q).later b1)
      obtain ⟨e0, h0⟩ := hrow1.ex (k * 3) (by omega)
      obtain ⟨e1, h1⟩ := hrow1.ex (k * 3 + 1) (by omega)
      obtain ⟨e2, h2⟩ := hrow1.ex (k * 3 + 2) (by omega)
      have g0 := hrow1.fz (k * 3)
      have g1 := hrow1.fz (k * 3 + 1)
      have g2 := hrow1.fz (k * 3 + 2)
      have P := hide (TAt.put hrow1 (o := k * 3) (by omega) x)
      have R := hide (set3o_row hrow1 (k * 3) (.int .i64 x.1) (.int .i64 x.2.1) (.int .i64 x.2.2))
      have BB := hide (set3o_below B1 (Nat.le_refl _) (k * 3) (.int .i64 x.1) (.int .i64 x.2.1) (.int .i64 x.2.2))
      have AA := hide (fun j (h : j < ts.length) (q : j < k) => (unhide HA j h q).pass (o' := k * 3) (by omega) (.int .i64 x.1) (.int .i64 x.2.1) (.int .i64 x.2.2))
      clear hall HA c0 c1 c2 hrow hbel b1
      go_wp2
      go_roundw
      case rel =>
        refine ⟨k + 1, by omega, by go_num, hide (fun j hj hjk => ?_), unhide R, unhide BB⟩
        by_cases e : j < k
        · exact unhide AA j hj e
        · obtain rfl : j = k := by omega
          rw [unhide HXK]
          exact unhide P
      case measure => simp [intOf]; omega
    · have HF := hide (fun j (hj : j < ts.length) => unhide hall j hj (by omega))
      clear hall hr
      go_wp2
      go_ret
      exact ⟨_, rfl, rowT_reads (by unfold maxLen; omega) rfl (unhide HF), ⟨_, _, rfl⟩, hbel⟩

set_option maxHeartbeats 4000000 in
theorem eqValueS_same (w : World) (u v : Value) (xs : List Vl) (hu : ReadsV w u xs) (hv : ReadsV w v xs) :
    Calls Tryd.prog 18 #[u, v] w fun e w' => e = .returned (.bool true) ∧ Below w.heap.size w w' := by
  obtain ⟨ao, b, off, cap, rfl, hu⟩ := hu
  obtain ⟨ao', b', off', cap', rfl, hv⟩ := hv
  have h1 := hu.le
  have h2 := hu.big
  unfold maxLen at h2
  have hne : ((xs.length : Int) != (xs.length : Int)) = false := by simp
  go_enter Tryd.func18, Tryd.ntmps18
  go_wp2
  go_loopw [5] (fun i wr => ∃ k : Nat, k ≤ xs.length ∧ i = .int .i64 k ∧ Below w.heap.size w wr) (fun i _ => xs.length - (intOf i).toNat)
  case atStart => exact ⟨0, Nat.zero_le _, rfl, Below.refl _ _⟩
  case round =>
    obtain ⟨k, hk, rfl, hbel⟩ := hrel
    by_cases hlt : k < xs.length
    · obtain ⟨ao, cap, ⟨c0, c1, c2, c3, c4, c5, c6, c7, c8⟩, hx, -⟩ := (hu.cell k hlt).later hbel
      obtain ⟨ao2, cap2, ⟨d0, d1, d2, d3, d4, d5, d6, d7, d8⟩, hy, -⟩ := (hv.cell k hlt).later hbel
      have hat := hu.at_ (by omega)
      have hat' := hv.at_ (by omega)
      subst hat hat'
      generalize xs[k] = x at *
      have CE := hide (fun W (h : Below wr.heap.size wr W) => eqValue_same W x.k x.y x.n ao ao2 x.l cap cap2 x.sc x.d x.mo x.da x.t (hx.later h) (hy.later h))
      have Stab := hide (fun (w' : World) (h : Below wr.heap.size wr w') => (⟨at_later h c0, at_later h c1, at_later h c2, at_later h c3, at_later h c4, at_later h c5, at_later h c6, at_later h c7, at_later h c8, at_later h d0, at_later h d1, at_later h d2, at_later h d3, at_later h d4, at_later h d5, at_later h d6, at_later h d7, at_later h d8⟩ : w'.cell? ⟨b, off + k * 9, none⟩ = some (.int .i64 x.k) ∧ w'.cell? ⟨b, off + k * 9 + 1, none⟩ = some (.bool x.y) ∧ w'.cell? ⟨b, off + k * 9 + 2, none⟩ = some (.bool x.n) ∧ w'.cell? ⟨b, off + k * 9 + 3, none⟩ = some (.slice ao x.l.length cap) ∧ w'.cell? ⟨b, off + k * 9 + 4, none⟩ = some (.int .i64 x.sc) ∧ w'.cell? ⟨b, off + k * 9 + 5, none⟩ = some (.int .i64 x.d) ∧ w'.cell? ⟨b, off + k * 9 + 6, none⟩ = some (.int .i64 x.mo) ∧ w'.cell? ⟨b, off + k * 9 + 7, none⟩ = some (.int .i64 x.da) ∧ w'.cell? ⟨b, off + k * 9 + 8, none⟩ = some (.string x.t) ∧ w'.cell? ⟨b', off' + k * 9, none⟩ = some (.int .i64 x.k) ∧ w'.cell? ⟨b', off' + k * 9 + 1, none⟩ = some (.bool x.y) ∧ w'.cell? ⟨b', off' + k * 9 + 2, none⟩ = some (.bool x.n) ∧ w'.cell? ⟨b', off' + k * 9 + 3, none⟩ = some (.slice ao2 x.l.length cap2) ∧ w'.cell? ⟨b', off' + k * 9 + 4, none⟩ = some (.int .i64 x.sc) ∧ w'.cell? ⟨b', off' + k * 9 + 5, none⟩ = some (.int .i64 x.d) ∧ w'.cell? ⟨b', off' + k * 9 + 6, none⟩ = some (.int .i64 x.mo) ∧ w'.cell? ⟨b', off' + k * 9 + 7, none⟩ = some (.int .i64 x.da) ∧ w'.cell? ⟨b', off' + k * 9 + 8, none⟩ = some (.string x.t)))
      clear hu hv hx hy
      go_wp2
      go_region_held3 (fun w' => w'.cell? ⟨b, off + k * 9, none⟩ = some (.int .i64 x.k) ∧ w'.cell? ⟨b, off + k * 9 + 1, none⟩ = some (.bool x.y) ∧ w'.cell? ⟨b, off + k * 9 + 2, none⟩ = some (.bool x.n) ∧ w'.cell? ⟨b, off + k * 9 + 3, none⟩ = some (.slice ao x.l.length cap) ∧ w'.cell? ⟨b, off + k * 9 + 4, none⟩ = some (.int .i64 x.sc) ∧ w'.cell? ⟨b, off + k * 9 + 5, none⟩ = some (.int .i64 x.d) ∧ w'.cell? ⟨b, off + k * 9 + 6, none⟩ = some (.int .i64 x.mo) ∧ w'.cell? ⟨b, off + k * 9 + 7, none⟩ = some (.int .i64 x.da) ∧ w'.cell? ⟨b, off + k * 9 + 8, none⟩ = some (.string x.t) ∧ w'.cell? ⟨b', off' + k * 9, none⟩ = some (.int .i64 x.k) ∧ w'.cell? ⟨b', off' + k * 9 + 1, none⟩ = some (.bool x.y) ∧ w'.cell? ⟨b', off' + k * 9 + 2, none⟩ = some (.bool x.n) ∧ w'.cell? ⟨b', off' + k * 9 + 3, none⟩ = some (.slice ao2 x.l.length cap2) ∧ w'.cell? ⟨b', off' + k * 9 + 4, none⟩ = some (.int .i64 x.sc) ∧ w'.cell? ⟨b', off' + k * 9 + 5, none⟩ = some (.int .i64 x.d) ∧ w'.cell? ⟨b', off' + k * 9 + 6, none⟩ = some (.int .i64 x.mo) ∧ w'.cell? ⟨b', off' + k * 9 + 7, none⟩ = some (.int .i64 x.da) ∧ w'.cell? ⟨b', off' + k * 9 + 8, none⟩ = some (.string x.t))
        (first | exact unhide Stab _ (Below.refl _ _).drew | (refine unhide Stab _ ?_; assumption))
        (first | (go_at_call 10; refine (unhide CE _ (Below.refl _ _).drew).mono ?_; rintro e w1 ⟨rfl, b1⟩; have B1 : Below wr.heap.size wr w1 := (Below.refl _ _).drew.trans b1))
      go_wp2
      go_roundw
      case rel => exact ⟨k + 1, by omega, by go_num, hbel.trans (B1.mono hbel.size)⟩
      case measure => simp [intOf]; omega
    · clear hu hv
      go_wp2
      go_ret
      exact ⟨rfl, hbel⟩

set_option maxHeartbeats 2000000 in
theorem eqTypeS_same (w : World) (u v : Value) (ts : List (Int × Int × Int)) (hu : ReadsT w u ts) (hv : ReadsT w v ts) :
    Calls Tryd.prog 17 #[u, v] w fun e w' => e = .returned (.bool true) ∧ Below w.heap.size w w' := by
  obtain ⟨ao, b, off, cap, rfl, hu⟩ := hu
  obtain ⟨ao', b', off', cap', rfl, hv⟩ := hv
  have h1 := hu.le
  have h2 := hu.big
  unfold maxLen at h2
  have hne : ((ts.length : Int) != (ts.length : Int)) = false := by simp
  go_enter Tryd.func17, Tryd.ntmps17
  go_wp2
  go_loopw [5] (fun i wr => ∃ k : Nat, k ≤ ts.length ∧ i = .int .i64 k ∧ Below w.heap.size w wr) (fun i _ => ts.length - (intOf i).toNat)
  case atStart => exact ⟨0, Nat.zero_le _, rfl, Below.refl _ _⟩
  case round =>
    obtain ⟨k, hk, rfl, hbel⟩ := hrel
    by_cases hlt : k < ts.length
    · obtain ⟨c0, c1, c2⟩ := (hu.later hbel).cell k hlt
      obtain ⟨d0, d1, d2⟩ := (hv.later hbel).cell k hlt
      have hat := hu.at_ (by omega)
      have hat' := hv.at_ (by omega)
      subst hat hat'
      generalize ts[k] = x at *
      obtain ⟨K, D, C⟩ := x
      simp only at c0 c1 c2 d0 d1 d2
      have Stab := hide (fun (w' : World) (h : Below wr.heap.size wr w') => (⟨at_later h c0, at_later h c1, at_later h c2, at_later h d0, at_later h d1, at_later h d2⟩ : w'.cell? ⟨b, off + k * 3, none⟩ = some (.int .i64 K) ∧ w'.cell? ⟨b, off + k * 3 + 1, none⟩ = some (.int .i64 D) ∧ w'.cell? ⟨b, off + k * 3 + 2, none⟩ = some (.int .i64 C) ∧ w'.cell? ⟨b', off' + k * 3, none⟩ = some (.int .i64 K) ∧ w'.cell? ⟨b', off' + k * 3 + 1, none⟩ = some (.int .i64 D) ∧ w'.cell? ⟨b', off' + k * 3 + 2, none⟩ = some (.int .i64 C)))
      clear hu hv
      go_wp2
      go_region_held3 (fun w' => w'.cell? ⟨b, off + k * 3, none⟩ = some (.int .i64 K) ∧ w'.cell? ⟨b, off + k * 3 + 1, none⟩ = some (.int .i64 D) ∧ w'.cell? ⟨b, off + k * 3 + 2, none⟩ = some (.int .i64 C) ∧ w'.cell? ⟨b', off' + k * 3, none⟩ = some (.int .i64 K) ∧ w'.cell? ⟨b', off' + k * 3 + 1, none⟩ = some (.int .i64 D) ∧ w'.cell? ⟨b', off' + k * 3 + 2, none⟩ = some (.int .i64 C))
        (first | exact unhide Stab _ (Below.refl _ _).drew | (refine unhide Stab _ ?_; assumption))
        (first | (go_at_call 32; refine (eqTypeV _ K D C).mono ?_; rintro e w1 ⟨rfl, b1⟩; have B1 : Below wr.heap.size wr w1 := (Below.refl _ _).drew.trans b1))
      go_wp2
      go_roundw
      case rel => exact ⟨k + 1, by omega, by go_num, hbel.trans (B1.mono hbel.size)⟩
      case measure => simp [intOf]; omega
    · clear hu hv
      go_wp2
      go_ret
      exact ⟨rfl, hbel⟩

end Go.Proofs.YtnegndajejhflaaDoor
