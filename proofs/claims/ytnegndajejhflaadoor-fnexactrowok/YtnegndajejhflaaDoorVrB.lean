/- The laws' own helpers for rows of values and of types: how large they are, copies of them. -/
import Derived.Test.YtnegndajejhflaaDoorVrA
import Derived.Test.YtnegndajejhflaaDoorTypK
namespace Go.Proofs.YtnegndajejhflaaDoor
open Go.RowKit
set_option maxRecDepth 100000
set_option linter.unusedSimpArgs false
set_option linter.unusedVariables false

theorem szV_cases {left : Int} {N T : Nat} (h0 : 0 ≤ left) (h1 : left ≤ 1048576) : szV left N T < 0 ∨ (0 ≤ szV left N T ∧ szV left N T ≤ left ∧ N ≤ 1048576) := by
  unfold szV
  split
  · left; omega
  · split
    · left; omega
    · right; omega

theorem szTypeS_any (w : World) (v : Value) (ts : List (Int × Int × Int)) (left : Int) (hr : ReadsT w v ts) (h0 : 0 ≤ left) (h1 : left ≤ 1048576) :
    Calls Tryd.prog 11 #[v, .int .i64 left] w fun e w' => (∃ r : Int, e = .returned (.int .i64 r) ∧ (r < 0 ∨ (0 ≤ r ∧ r ≤ left ∧ ts.length ≤ 1048576))) ∧ Below w.heap.size w w' := by
  obtain ⟨ao, b, off, cap, rfl, hr⟩ := hr
  have hb := hr.le
  have hm := hr.big
  unfold maxLen at hm
  clear hr
  go_enter Tryd.func11, Tryd.ntmps11
  by_cases h : left < ts.length
  · go_wp2
    go_ret
    exact ⟨⟨-1, rfl, .inl (by omega)⟩, Below.refl _ _⟩
  · go_wp2
    go_ret
    exact ⟨⟨_, rfl, .inr ⟨by omega, by omega, by omega⟩⟩, Below.refl _ _⟩

set_option maxHeartbeats 2000000 in
theorem szValueS_any (w : World) (v : Value) (xs : List Vl) (left : Int) (hr : ReadsV w v xs) (h0 : 0 ≤ left) (h1 : left ≤ 1048576) :
    Calls Tryd.prog 12 #[v, .int .i64 left] w fun e w' => (∃ r : Int, e = .returned (.int .i64 r) ∧ (r < 0 ∨ (0 ≤ r ∧ r ≤ left ∧ xs.length ≤ 1048576 ∧ ∀ j (h : j < xs.length), xs[j].l.length ≤ 1048576))) ∧ Below w.heap.size w w' := by
  obtain ⟨ao, b, off, cap, rfl, hr⟩ := hr
  have hb := hr.le
  have hm := hr.big
  unfold maxLen at hm
  go_enter Tryd.func12, Tryd.ntmps12
  by_cases h : left < xs.length
  · clear hr
    go_wp2
    go_ret
    exact ⟨⟨-1, rfl, .inl (by omega)⟩, Below.refl _ _⟩
  · go_wp2
    go_loopw [1, 5] (fun q i wr => ∃ (k : Nat) (r : Int), k ≤ xs.length ∧ i = .int .i64 k ∧ q = .int .i64 r ∧ 0 ≤ r ∧ r ≤ left ∧ Hid (∀ j (h : j < xs.length), j < k → xs[j].l.length ≤ 1048576) ∧ Below w.heap.size w wr)
      (fun _ i _ => xs.length - (intOf i).toNat)
    case atStart => exact ⟨0, left - xs.length, Nat.zero_le _, rfl, rfl, by omega, by omega, hide (fun j _ q => absurd q (Nat.not_lt_zero _)), Below.refl _ _⟩
    case round =>
      obtain ⟨k, r, hk, rfl, rfl, hr0, hr1, hall, hbel⟩ := hrel
      by_cases hlt : k < xs.length
      · obtain ⟨ax, cx, ⟨c0, c1, c2, c3, c4, c5, c6, c7, c8⟩, hx, htx⟩ := (hr.cell k hlt).later hbel
        have hat := hr.at_ (by omega)
        subst hat
        have HX := hide (fun W (k : Below _ _ W) => hx.later (w' := W) k)
        have CZ := hide (szValue_any _ xs[k].k xs[k].y xs[k].n ax xs[k].l cx xs[k].sc xs[k].d xs[k].mo xs[k].da xs[k].t r hx htx hr0 (by omega))
        have HS := hide (szV_cases (left := r) (N := xs[k].l.length) (T := xs[k].t.size) hr0 (by omega))
        have HQ := hide (fun (h : xs[k].l.length ≤ 1048576) => (fun j hj hjk => by
          by_cases e : j < k
          · exact unhide hall j hj e
          · obtain rfl : j = k := by omega
            exact h : ∀ j (h : j < xs.length), j < k + 1 → xs[j].l.length ≤ 1048576))
        clear hr hx htx HX hall
        generalize xs[k] = x at *
        go_wp2_with fail
        refine (unhide CZ).mono ?_
        rintro e w1 ⟨rfl, b1⟩
        generalize szV r x.l.length x.t.size = r1 at *
        by_cases hg : r1 < 0
        · clear HS HQ CZ
          go_wp2
          go_ret
          exact ⟨⟨-1, rfl, .inl (by omega)⟩, hbel.trans (b1.mono hbel.size)⟩
        · obtain ⟨u1, u2, u3⟩ : 0 ≤ r1 ∧ r1 ≤ r ∧ x.l.length ≤ 1048576 := by
            rcases unhide HS with q | q
            · exact absurd q hg
            · exact q
          have HQ2 := hide (unhide HQ u3)
          clear HS HQ CZ u3
          go_wp2
          go_roundw
          case rel => exact ⟨k + 1, r1, by omega, by go_num, rfl, by omega, by omega, HQ2, hbel.trans (b1.mono hbel.size)⟩
          case measure => simp [intOf]; omega
      · have HF := hide (fun j (hj : j < xs.length) => unhide hall j hj (by omega))
        clear hall hr
        go_wp2
        go_ret
        exact ⟨⟨r, rfl, .inr ⟨hr0, hr1, by omega, unhide HF⟩⟩, hbel⟩

theorem Tryd.infoVal : (Tryd.prog.info? 40).map (fun i => (i.zero, i.size, i.bytes)) = some (some (.agg #[.int .i64 0, .bool false, .bool false, .slice none 0 0, .int .i64 0, .int .i64 0, .int .i64 0, .int .i64 0, .string ByteArray.empty]), 9, 96) := by kernel_rfl

/-- What a call answers that hands out a row of values of its own. -/
def GivesVS (w : World) (xs : List Vl) (e : Ending) (w' : World) : Prop := ∃ v, e = .returned v ∧ ReadsV w' v xs ∧ (∃ ao cap, v = .slice ao xs.length cap) ∧ Below w.heap.size w w'
def GivesTS (w : World) (ts : List (Int × Int × Int)) (e : Ending) (w' : World) : Prop := ∃ v, e = .returned v ∧ ReadsT w' v ts ∧ (∃ ao cap, v = .slice ao ts.length cap) ∧ Below w.heap.size w w'

theorem row_reads {w : World} {b n : Nat} {xs : List Vl} (hn : n ≤ maxLen) (hl : xs.length = n) (h : ∀ j (h : j < xs.length), VOwn w b (j * 9) xs[j]) : ReadsV w (.slice (some ⟨b, 0, none⟩) n n) xs :=
  ⟨some ⟨b, 0, none⟩, b, 0, n, by rw [hl], ⟨by omega, hn, fun _ => rfl, (fun q => by cases q), (fun i hi => by rw [Nat.zero_add]; exact (h i hi).at_)⟩⟩

set_option maxHeartbeats 4000000 in
theorem toValueS_any (w : World) (v : Value) (xs : List Vl) (hr : ReadsV w v xs) (hl : xs.length ≤ 1048576) (hls : ∀ j (h : j < xs.length), xs[j].l.length ≤ 1048576) :
    Calls Tryd.prog 15 #[v] w (GivesVS w xs) := by
  obtain ⟨ao, b, off, cap, rfl, hr⟩ := hr
  obtain ⟨i0, hi, hz0, hz1, hz2⟩ := info_parts Tryd.infoVal
  go_enter Tryd.func15, Tryd.ntmps15
  go_wp2_with (at_make; refine wpList_make_full _ rfl _ _ 53 rfl w.heap.size 40 i0 _ 9 Tryd.underlying53 hi hz0 hz1 _ _ _ _ xs.length rfl rfl rfl rfl ?b2 ?b3 (Nat.le_refl _) ?_)
  case b2 => rw [hz2]; omega
  case b3 => unfold maxLen; omega
  intro w0 hown0 hgrow0
  have R0 : Row0 w0 w.heap.size (xs.length * 9) := Row0.made hown0 (by simp [size_madeCells])
  have hb0 := (Below.refl w.heap.size w).grown hgrow0 (Nat.le_refl _) (fun k h => by cases h)
  have hls' := hide hls
  clear hown0 hgrow0 hi hz0 hz1 hz2 hls
  go_wp2
  go_loopw [4] (fun i wr => ∃ (k : Nat), k ≤ xs.length ∧ i = .int .i64 k ∧ Hid (∀ j (h : j < xs.length), j < k → VOwn wr w.heap.size (j * 9) xs[j]) ∧ Row0 wr w.heap.size (xs.length * 9) ∧ Below w.heap.size w wr)
    (fun i _ => xs.length - (intOf i).toNat)
  case atStart => exact ⟨0, Nat.zero_le _, rfl, hide (fun j _ q => absurd q (Nat.not_lt_zero _)), R0, hb0⟩
  case round =>
    obtain ⟨k, hk, rfl, hall, hrow, hbel⟩ := hrel
    by_cases hlt : k < xs.length
    · obtain ⟨ax, cx, ⟨c0, c1, c2, c3, c4, c5, c6, c7, c8⟩, hx, htx⟩ := (hr.cell k hlt).later hbel
      have hat := hr.at_ (by omega)
      subst hat
      have CV := hide (toValue_any _ xs[k].k xs[k].y xs[k].n ax xs[k].l cx xs[k].sc xs[k].d xs[k].mo xs[k].da xs[k].t hx (unhide hls' k hlt))
      obtain ⟨x, hxk⟩ : ∃ x, xs[k] = x := ⟨_, rfl⟩
      have HXK := hide hxk
      rw [hxk] at CV c0 c1 c2 c3 c4 c5 c6 c7 c8 htx
      have HTX := hide htx
      clear hr hx hxk htx hb0 R0
      go_wp2_with fail
      refine (unhide CV).mono ?_
      rintro e w1 ⟨a1, q1, rfl, o1, b1⟩
      have hrow1 := hrow.later b1
      have B1 := hbel.trans (b1.mono hbel.size)
      have o1' := o1.mono (show w.heap.size + 1 ≤ _ from hrow.lt)
      have HA := hide (fun j (h : j < xs.length) (q : j < k) => (unhide hall j h q).later b1)
      obtain ⟨e0, h0⟩ := hrow1.ex (k * 9) (by omega)
      obtain ⟨e1, h1⟩ := hrow1.ex (k * 9 + 1) (by omega)
      obtain ⟨e2, h2⟩ := hrow1.ex (k * 9 + 2) (by omega)
      obtain ⟨e3, h3⟩ := hrow1.ex (k * 9 + 3) (by omega)
      obtain ⟨e4, h4⟩ := hrow1.ex (k * 9 + 4) (by omega)
      obtain ⟨e5, h5⟩ := hrow1.ex (k * 9 + 5) (by omega)
      obtain ⟨e6, h6⟩ := hrow1.ex (k * 9 + 6) (by omega)
      obtain ⟨e7, h7⟩ := hrow1.ex (k * 9 + 7) (by omega)
      obtain ⟨e8, h8⟩ := hrow1.ex (k * 9 + 8) (by omega)
      have g0 := hrow1.fz (k * 9)
      have g1 := hrow1.fz (k * 9 + 1)
      have g2 := hrow1.fz (k * 9 + 2)
      have g3 := hrow1.fz (k * 9 + 3)
      have g4 := hrow1.fz (k * 9 + 4)
      have g5 := hrow1.fz (k * 9 + 5)
      have g6 := hrow1.fz (k * 9 + 6)
      have g7 := hrow1.fz (k * 9 + 7)
      have g8 := hrow1.fz (k * 9 + 8)
      have P := hide (VOwn.put (x := x) hrow1 (o := k * 9) (by omega) o1' (unhide HTX))
      have R := hide (set9o_row hrow1 (k * 9) (.int .i64 x.k) (.bool x.y) (.bool x.n) (.slice a1 x.l.length q1) (.int .i64 x.sc) (.int .i64 x.d) (.int .i64 x.mo) (.int .i64 x.da) (.string x.t))
      have BB := hide (set9o_below B1 (Nat.le_refl _) (k * 9) (.int .i64 x.k) (.bool x.y) (.bool x.n) (.slice a1 x.l.length q1) (.int .i64 x.sc) (.int .i64 x.d) (.int .i64 x.mo) (.int .i64 x.da) (.string x.t))
      have AA := hide (fun j (h : j < xs.length) (q : j < k) => (unhide HA j h q).pass (o' := k * 9) (by omega) (.int .i64 x.k) (.bool x.y) (.bool x.n) (.slice a1 x.l.length q1) (.int .i64 x.sc) (.int .i64 x.d) (.int .i64 x.mo) (.int .i64 x.da) (.string x.t))
      clear hall HA CV c0 c1 c2 c3 c4 c5 c6 c7 c8 hrow hbel b1 o1 o1' hls' HTX
      go_wp2
      go_roundw
      case rel =>
        refine ⟨k + 1, by omega, by go_num, hide (fun j hj hjk => ?_), unhide R, unhide BB⟩
        by_cases e : j < k
        · exact unhide AA j hj e
        · obtain rfl : j = k := by omega
          rw [unhide HXK]
          exact unhide P
      case measure => simp [intOf]; omega
    · have HF := hide (fun j (hj : j < xs.length) => unhide hall j hj (by omega))
      clear hall hr hls'
      go_wp2
      go_ret
      exact ⟨_, rfl, row_reads (by unfold maxLen; omega) rfl (unhide HF), ⟨_, _, rfl⟩, hbel⟩

end Go.Proofs.YtnegndajejhflaaDoor
