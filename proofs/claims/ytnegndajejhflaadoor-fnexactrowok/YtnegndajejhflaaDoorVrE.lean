/- Whether a row is of its types: RowOk of both, by contracts. -/
import Derived.Test.YtnegndajejhflaaDoorVrD
import Derived.Test.YtnegndajejhflaaDoorVlG
namespace Go.Proofs.YtnegndajejhflaaDoor
open Go.RowKit
set_option maxRecDepth 100000
set_option linter.unusedSimpArgs false
set_option linter.unusedVariables false

theorem fit_lim {x : Vl} (h : valX x = true) : x.k = 2 → Lim x.l ∧ x.l.length ≤ 1000 := by
  intro e
  unfold valX at h
  rw [e] at h
  exact valB_lim h

set_option maxHeartbeats 4000000 in
theorem l6Ok_any (w : World) (u v : Value) (ts : List (Int × Int × Int)) (xs : List Vl) (hu : ReadsT w u ts) (hv : ReadsV w v xs) :
    Calls Tryd.prog 30 #[u, v] w fun e w' => (∃ r : Bool, e = .returned (.bool r) ∧ (r = true ↔ RowIs xs ts)) ∧ Below w.heap.size w w' := by
  have C1 := hide (typesOk_any w u ts hu)
  have C2 := hide (fun W (k : Below w.heap.size w W) => rowOk5_any W v xs (hv.later k))
  obtain ⟨ao', b', off', cap', rfl, hu⟩ := hu
  obtain ⟨ao, b, off, cap, rfl, hv⟩ := hv
  have h1 := hu.le
  have h2 := hu.big
  have h3 := hv.le
  have h4 := hv.big
  unfold maxLen at h2 h4
  go_enter Tryd.func30, Tryd.ntmps30
  go_wp2_with fail
  refine (unhide C1).mono ?_
  rintro e w1 ⟨⟨r1, rfl, q1⟩, b1⟩
  have Q1 := hide q1
  clear q1 C1
  cases r1
  case false =>
    have HN := hide (show ¬ RowIs xs ts from fun a => Bool.false_ne_true ((unhide Q1).2 ⟨fun j hj => (a.2.2 j (by have := a.2.1; omega) hj).2.1, a.1.1, a.1.2⟩))
    clear hu hv C2 Q1
    go_wp2
    go_ret
    exact ⟨⟨false, rfl, ⟨(fun q => by cases q), (fun q => (unhide HN q).elim)⟩⟩, b1⟩
  have HT := hide ((unhide Q1).1 rfl)
  clear Q1
  by_cases hlen : xs.length = ts.length
  case neg =>
    have hne : ((xs.length : Int) != (ts.length : Int)) = true := by simp; omega
    have HN := hide (show ¬ RowIs xs ts from fun a => hlen a.2.1)
    clear hu hv C2 HT hlen
    go_wp2
    go_ret
    exact ⟨⟨false, rfl, ⟨(fun q => by cases q), (fun q => (unhide HN q).elim)⟩⟩, b1⟩
  have hne : ((xs.length : Int) != (ts.length : Int)) = false := by simp; omega
  have hle1 : xs.length ≤ ts.length := by omega
  have hle2 : ts.length ≤ xs.length := by omega
  have HL := hide hlen
  clear hlen
  go_wp2_with fail
  refine (unhide C2 _ b1).mono ?_
  rintro e w2 ⟨⟨r2, rfl, q2⟩, b2⟩
  have B2 := b1.trans (b2.mono b1.size)
  have Q2 := hide q2
  clear q2 C2 b2 b1
  cases r2
  case false =>
    have HN := hide (show ¬ RowIs xs ts from fun a => Bool.false_ne_true ((unhide Q2).2 (fun j hj => (a.2.2 j hj (by omega)).1)))
    clear hu hv Q2
    go_wp2
    go_ret
    exact ⟨⟨false, rfl, ⟨(fun q => by cases q), (fun q => (unhide HN q).elim)⟩⟩, B2⟩
  have HV := hide ((unhide Q2).1 rfl)
  clear Q2
  go_wp2
  go_loopw [5] (fun i wr => ∃ (k : Nat), k ≤ xs.length ∧ i = .int .i64 k ∧ Hid (∀ j (h : j < xs.length) (h' : j < ts.length), j < k → fitX xs[j] ts[j] = true) ∧ Below w.heap.size w wr)
    (fun i _ => xs.length - (intOf i).toNat)
  case atStart => exact ⟨0, Nat.zero_le _, rfl, hide (fun j _ _ q => absurd q (Nat.not_lt_zero _)), B2⟩
  case round =>
    obtain ⟨k, hk, rfl, hall, hbel⟩ := hrel
    by_cases hlt : k < xs.length
    · have hlt2 : k < ts.length := by omega
      obtain ⟨ao, cap, ⟨c0, c1, c2, c3, c4, c5, c6, c7, c8⟩, hx, -⟩ := (hv.cell k hlt).later hbel
      obtain ⟨d0, d1, d2⟩ := (hu.later hbel).cell k hlt2
      have hat := hv.at_ (by omega)
      have hat' := hu.at_ (by omega)
      subst hat hat'
      obtain ⟨x, hxk⟩ : ∃ x, xs[k] = x := ⟨_, rfl⟩
      obtain ⟨yy, hyk⟩ : ∃ y, ts[k] = y := ⟨_, rfl⟩
      have hvx : valX x = true := by rw [← hxk]; exact unhide HV k hlt
      have hty : typX yy := by rw [← hyk]; exact (unhide HT).1 k hlt2
      have HQ := hide (fun (q : fitX x yy = true) j (hj : j < xs.length) (hj' : j < ts.length) (hjk : j < k + 1) => (by
        by_cases e : j < k
        · exact unhide hall j hj hj' e
        · obtain rfl : j = k := by omega
          rw [hxk, hyk]
          exact q : fitX xs[j] ts[j] = true))
      have HN := hide (fun (q : fitX x yy = false) (a : RowIs xs ts) => (by
        have := (a.2.2 k hlt hlt2).2.2
        rw [hxk, hyk, q] at this
        exact Bool.false_ne_true this : False))
      rw [hxk] at c0 c1 c2 c3 c4 c5 c6 c7 c8 hx
      rw [hyk] at d0 d1 d2
      clear hxk hyk hu hv hall
      obtain ⟨K, D, C⟩ := yy
      simp only at d0 d1 d2
      have CF := fun W (h : Below wr.heap.size wr W) => specFits_any W x.k x.y x.n ao x.l cap x.sc x.d x.mo x.da x.t K D C (hx.later h) hty (fit_lim hvx)
      have HFX : fitX x (K, D, C) = fitB x.k x.sc x.l K D C := rfl
      rw [← HFX] at CF
      generalize fitX x (K, D, C) = g at *
      have CF := hide CF
      have Stab := hide (fun (w' : World) (h : Below wr.heap.size wr w') => (⟨at_later h c0, at_later h c1, at_later h c2, at_later h c3, at_later h c4, at_later h c5, at_later h c6, at_later h c7, at_later h c8, at_later h d0, at_later h d1, at_later h d2⟩ : w'.cell? ⟨b, off + k * 9, none⟩ = some (.int .i64 x.k) ∧ w'.cell? ⟨b, off + k * 9 + 1, none⟩ = some (.bool x.y) ∧ w'.cell? ⟨b, off + k * 9 + 2, none⟩ = some (.bool x.n) ∧ w'.cell? ⟨b, off + k * 9 + 3, none⟩ = some (.slice ao x.l.length cap) ∧ w'.cell? ⟨b, off + k * 9 + 4, none⟩ = some (.int .i64 x.sc) ∧ w'.cell? ⟨b, off + k * 9 + 5, none⟩ = some (.int .i64 x.d) ∧ w'.cell? ⟨b, off + k * 9 + 6, none⟩ = some (.int .i64 x.mo) ∧ w'.cell? ⟨b, off + k * 9 + 7, none⟩ = some (.int .i64 x.da) ∧ w'.cell? ⟨b, off + k * 9 + 8, none⟩ = some (.string x.t) ∧ w'.cell? ⟨b', off' + k * 3, none⟩ = some (.int .i64 K) ∧ w'.cell? ⟨b', off' + k * 3 + 1, none⟩ = some (.int .i64 D) ∧ w'.cell? ⟨b', off' + k * 3 + 2, none⟩ = some (.int .i64 C)))
      clear hx hvx hty HFX
      cases g
      · have HN2 := hide (unhide HN (by first | exact rfl | exact trivial))
        clear HQ HN
        go_wp2
        go_region_held3 (fun w' => w'.cell? ⟨b, off + k * 9, none⟩ = some (.int .i64 x.k) ∧ w'.cell? ⟨b, off + k * 9 + 1, none⟩ = some (.bool x.y) ∧ w'.cell? ⟨b, off + k * 9 + 2, none⟩ = some (.bool x.n) ∧ w'.cell? ⟨b, off + k * 9 + 3, none⟩ = some (.slice ao x.l.length cap) ∧ w'.cell? ⟨b, off + k * 9 + 4, none⟩ = some (.int .i64 x.sc) ∧ w'.cell? ⟨b, off + k * 9 + 5, none⟩ = some (.int .i64 x.d) ∧ w'.cell? ⟨b, off + k * 9 + 6, none⟩ = some (.int .i64 x.mo) ∧ w'.cell? ⟨b, off + k * 9 + 7, none⟩ = some (.int .i64 x.da) ∧ w'.cell? ⟨b, off + k * 9 + 8, none⟩ = some (.string x.t) ∧ w'.cell? ⟨b', off' + k * 3, none⟩ = some (.int .i64 K) ∧ w'.cell? ⟨b', off' + k * 3 + 1, none⟩ = some (.int .i64 D) ∧ w'.cell? ⟨b', off' + k * 3 + 2, none⟩ = some (.int .i64 C))
          (first | exact unhide Stab _ (Below.refl _ _).drew | (refine unhide Stab _ ?_; assumption))
          (first | (go_at_call 22; refine (unhide CF _ (Below.refl _ _).drew).mono ?_; rintro e w3 ⟨rfl, b3⟩; have B3 : Below wr.heap.size wr w3 := (Below.refl _ _).drew.trans b3))
        go_wp2
        go_ret
        exact ⟨⟨false, rfl, ⟨(fun q => by cases q), (fun q => (unhide HN2 q).elim)⟩⟩, hbel.trans (B3.mono hbel.size)⟩
      · have HQ2 := hide (unhide HQ (by first | exact rfl | exact trivial))
        clear HQ HN
        go_wp2
        go_region_held3 (fun w' => w'.cell? ⟨b, off + k * 9, none⟩ = some (.int .i64 x.k) ∧ w'.cell? ⟨b, off + k * 9 + 1, none⟩ = some (.bool x.y) ∧ w'.cell? ⟨b, off + k * 9 + 2, none⟩ = some (.bool x.n) ∧ w'.cell? ⟨b, off + k * 9 + 3, none⟩ = some (.slice ao x.l.length cap) ∧ w'.cell? ⟨b, off + k * 9 + 4, none⟩ = some (.int .i64 x.sc) ∧ w'.cell? ⟨b, off + k * 9 + 5, none⟩ = some (.int .i64 x.d) ∧ w'.cell? ⟨b, off + k * 9 + 6, none⟩ = some (.int .i64 x.mo) ∧ w'.cell? ⟨b, off + k * 9 + 7, none⟩ = some (.int .i64 x.da) ∧ w'.cell? ⟨b, off + k * 9 + 8, none⟩ = some (.string x.t) ∧ w'.cell? ⟨b', off' + k * 3, none⟩ = some (.int .i64 K) ∧ w'.cell? ⟨b', off' + k * 3 + 1, none⟩ = some (.int .i64 D) ∧ w'.cell? ⟨b', off' + k * 3 + 2, none⟩ = some (.int .i64 C))
          (first | exact unhide Stab _ (Below.refl _ _).drew | (refine unhide Stab _ ?_; assumption))
          (first | (go_at_call 22; refine (unhide CF _ (Below.refl _ _).drew).mono ?_; rintro e w3 ⟨rfl, b3⟩; have B3 : Below wr.heap.size wr w3 := (Below.refl _ _).drew.trans b3))
        go_wp2
        go_roundw
        case rel => exact ⟨k + 1, by omega, by go_num, HQ2, hbel.trans (B3.mono hbel.size)⟩
        case measure => simp [intOf]; omega
    · have HR := hide (show RowIs xs ts from ⟨(unhide HT).2, unhide HL, fun i h h' => ⟨unhide HV i h, (unhide HT).1 i h', unhide hall i h h' (by omega)⟩⟩)
      clear hall hu hv
      go_wp2
      go_ret
      exact ⟨⟨true, rfl, ⟨(fun _ => unhide HR), (fun _ => rfl)⟩⟩, hbel⟩

theorem specRowOk_any (w : World) (u v : Value) (ts : List (Int × Int × Int)) (xs : List Vl) (hu : ReadsT w u ts) (hv : ReadsV w v xs) :
    Calls Tryd.prog 13 #[u, v] w fun e w' => (∃ r : Bool, e = .returned (.bool r) ∧ (r = true ↔ RowIs xs ts)) ∧ Below w.heap.size w w' := by
  have C := hide (l6Ok_any w u v ts xs hu hv)
  obtain ⟨ao', b', off', cap', rfl, hu⟩ := hu
  obtain ⟨ao, b, off, cap, rfl, hv⟩ := hv
  clear hu hv
  go_enter Tryd.func13, Tryd.ntmps13
  go_wp2_with fail
  refine (unhide C).mono ?_
  rintro e w1 ⟨⟨r, rfl, q⟩, b1⟩
  have Q := hide q
  clear q C
  go_wp2
  go_ret
  exact ⟨⟨r, rfl, unhide Q⟩, b1⟩

end Go.Proofs.YtnegndajejhflaaDoor
