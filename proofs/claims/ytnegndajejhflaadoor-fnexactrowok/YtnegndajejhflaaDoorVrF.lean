/- Whether a row is of its types: RowOk of the program, by a contract. -/
import Derived.Test.YtnegndajejhflaaDoorVrE
namespace Go.Proofs.YtnegndajejhflaaDoor
open Go.RowKit
set_option maxRecDepth 100000
set_option linter.unusedSimpArgs false
set_option linter.unusedVariables false

def fitsX (x : Vl) (y : Int × Int × Int) : Bool := fitsB x.k x.y x.n x.l x.sc x.d x.mo x.da x.t y.1 y.2.1 y.2.2
/-- What holdPaired says of a row and its types. -/
def PairIs (xs : List Vl) (ts : List (Int × Int × Int)) : Prop := xs.length = ts.length ∧ ∀ i (h : i < xs.length) (h' : i < ts.length), fitsX xs[i] ts[i] = true

set_option maxHeartbeats 4000000 in
theorem holdP_any (w : World) (u v : Value) (ts : List (Int × Int × Int)) (xs : List Vl) (hu : ReadsT w u ts) (hv : ReadsV w v xs) (tt : Tab w) :
    Calls Tryd.prog 31 #[v, u, .func (.func 9) #[] #[]] w fun e w' => (∃ r : Bool, e = .returned (.bool r) ∧ (r = true ↔ PairIs xs ts)) ∧ Below w.heap.size w w' := by
  obtain ⟨ao', b', off', cap', rfl, hu⟩ := hu
  obtain ⟨ao, b, off, cap, rfl, hv⟩ := hv
  have h1 := hu.le
  have h2 := hu.big
  have h3 := hv.le
  have h4 := hv.big
  unfold maxLen at h2 h4
  by_cases hlen : xs.length = ts.length
  case neg =>
    have hne : ((xs.length : Int) != (ts.length : Int)) = true := by simp; omega
    have HN := hide (show ¬ PairIs xs ts from fun a => hlen a.1)
    clear hu hv hlen
    go_enter Tryd.func31, Tryd.ntmps31
    go_wp2
    go_ret
    exact ⟨⟨false, rfl, ⟨(fun q => by cases q), (fun q => (unhide HN q).elim)⟩⟩, Below.refl _ _⟩
  have hne : ((xs.length : Int) != (ts.length : Int)) = false := by simp; omega
  have hle1 : xs.length ≤ ts.length := by omega
  have hle2 : ts.length ≤ xs.length := by omega
  have HL := hide hlen
  clear hlen
  go_enter Tryd.func31, Tryd.ntmps31
  go_wp2
  go_loopw [16] (fun i wr => ∃ (k : Nat), k ≤ xs.length ∧ i = .int .i64 k ∧ Hid (∀ j (h : j < xs.length) (h' : j < ts.length), j < k → fitsX xs[j] ts[j] = true) ∧ Below w.heap.size w wr)
    (fun i _ => xs.length - (intOf i).toNat)
  case atStart => exact ⟨0, Nat.zero_le _, rfl, hide (fun j _ _ q => absurd q (Nat.not_lt_zero _)), Below.refl _ _⟩
  case round =>
    obtain ⟨k, hk, rfl, hall, hbel⟩ := hrel
    by_cases hlt : k < xs.length
    · have hlt2 : k < ts.length := by omega
      obtain ⟨ao, cap, ⟨c0, c1, c2, c3, c4, c5, c6, c7, c8⟩, hx, htx⟩ := (hv.cell k hlt).later hbel
      obtain ⟨d0, d1, d2⟩ := (hu.later hbel).cell k hlt2
      have hat := hv.at_ (by omega)
      have hat' := hu.at_ (by omega)
      subst hat hat'
      obtain ⟨x, hxk⟩ : ∃ x, xs[k] = x := ⟨_, rfl⟩
      obtain ⟨yy, hyk⟩ : ∃ y, ts[k] = y := ⟨_, rfl⟩
      have HQ := hide (fun (q : fitsX x yy = true) j (hj : j < xs.length) (hj' : j < ts.length) (hjk : j < k + 1) => (by
        by_cases e : j < k
        · exact unhide hall j hj hj' e
        · obtain rfl : j = k := by omega
          rw [hxk, hyk]
          exact q : fitsX xs[j] ts[j] = true))
      have HN := hide (fun (q : fitsX x yy = false) (a : PairIs xs ts) => (by
        have := a.2 k hlt hlt2
        rw [hxk, hyk, q] at this
        exact Bool.false_ne_true this : False))
      rw [hxk] at c0 c1 c2 c3 c4 c5 c6 c7 c8 hx htx
      rw [hyk] at d0 d1 d2
      clear hxk hyk hu hv hall
      obtain ⟨K, D, C⟩ := yy
      simp only at d0 d1 d2
      have CF := fun W (h : Below wr.heap.size wr W) => implValueFits_any W x.k x.y x.n ao x.l cap x.sc x.d x.mo x.da x.t K D C htx (hx.later h) (tt.later (hbel.trans (h.mono hbel.size)))
      have HFX : fitsX x (K, D, C) = fitsB x.k x.y x.n x.l x.sc x.d x.mo x.da x.t K D C := rfl
      rw [← HFX] at CF
      generalize fitsX x (K, D, C) = g at *
      have CF := hide CF
      have BA : Below wr.heap.size wr (wr.alloc (.cells #[.int .i64 x.k, .bool x.y, .bool x.n, .slice ao x.l.length cap, .int .i64 x.sc, .int .i64 x.d, .int .i64 x.mo, .int .i64 x.da, .string x.t] 40)) := (Below.refl _ _).alloc (Nat.le_refl _) _
      have VX := V9.new wr (.int .i64 x.k) (.bool x.y) (.bool x.n) (.slice ao x.l.length cap) (.int .i64 x.sc) (.int .i64 x.d) (.int .i64 x.mo) (.int .i64 x.da) (.string x.t) 40
      have e0 := at_later BA d0
      have e1 := at_later BA d1
      have e2 := at_later BA d2
      clear hx htx HFX
      go_wp2
      generalize wr.alloc (.cells #[.int .i64 x.k, .bool x.y, .bool x.n, .slice ao x.l.length cap, .int .i64 x.sc, .int .i64 x.d, .int .i64 x.mo, .int .i64 x.da, .string x.t] 40) = H at *
      have Stab := hide (fun (w' : World) (h : Below H.heap.size H w') => (⟨(VX.later h).c0, (VX.later h).c1, (VX.later h).c2, (VX.later h).c3, (VX.later h).c4, (VX.later h).c5, (VX.later h).c6, (VX.later h).c7, (VX.later h).c8, at_later h e0, at_later h e1, at_later h e2⟩ : w'.cell? ⟨wr.heap.size, 0, none⟩ = some (.int .i64 x.k) ∧ w'.cell? ⟨wr.heap.size, 1, none⟩ = some (.bool x.y) ∧ w'.cell? ⟨wr.heap.size, 2, none⟩ = some (.bool x.n) ∧ w'.cell? ⟨wr.heap.size, 3, none⟩ = some (.slice ao x.l.length cap) ∧ w'.cell? ⟨wr.heap.size, 4, none⟩ = some (.int .i64 x.sc) ∧ w'.cell? ⟨wr.heap.size, 5, none⟩ = some (.int .i64 x.d) ∧ w'.cell? ⟨wr.heap.size, 6, none⟩ = some (.int .i64 x.mo) ∧ w'.cell? ⟨wr.heap.size, 7, none⟩ = some (.int .i64 x.da) ∧ w'.cell? ⟨wr.heap.size, 8, none⟩ = some (.string x.t) ∧ w'.cell? ⟨b', off' + k * 3, none⟩ = some (.int .i64 K) ∧ w'.cell? ⟨b', off' + k * 3 + 1, none⟩ = some (.int .i64 D) ∧ w'.cell? ⟨b', off' + k * 3 + 2, none⟩ = some (.int .i64 C)))
      cases g
      · have HN2 := hide (unhide HN (by first | exact rfl | exact trivial))
        clear HQ HN
        go_region_held3 (fun w' => w'.cell? ⟨wr.heap.size, 0, none⟩ = some (.int .i64 x.k) ∧ w'.cell? ⟨wr.heap.size, 1, none⟩ = some (.bool x.y) ∧ w'.cell? ⟨wr.heap.size, 2, none⟩ = some (.bool x.n) ∧ w'.cell? ⟨wr.heap.size, 3, none⟩ = some (.slice ao x.l.length cap) ∧ w'.cell? ⟨wr.heap.size, 4, none⟩ = some (.int .i64 x.sc) ∧ w'.cell? ⟨wr.heap.size, 5, none⟩ = some (.int .i64 x.d) ∧ w'.cell? ⟨wr.heap.size, 6, none⟩ = some (.int .i64 x.mo) ∧ w'.cell? ⟨wr.heap.size, 7, none⟩ = some (.int .i64 x.da) ∧ w'.cell? ⟨wr.heap.size, 8, none⟩ = some (.string x.t) ∧ w'.cell? ⟨b', off' + k * 3, none⟩ = some (.int .i64 K) ∧ w'.cell? ⟨b', off' + k * 3 + 1, none⟩ = some (.int .i64 D) ∧ w'.cell? ⟨b', off' + k * 3 + 2, none⟩ = some (.int .i64 C))
          (first | exact unhide Stab _ (Below.refl _ _).drew | (refine unhide Stab _ ?_; assumption))
          (first | (go_at_call 9; refine (unhide CF _ BA.drew).mono ?_; rintro e w3 ⟨rfl, b3⟩; have B3 : Below H.heap.size H w3 := (Below.refl _ _).drew.trans b3))
        go_wp2
        go_ret
        have B4 := BA.trans (B3.mono BA.size)
        exact ⟨⟨false, rfl, ⟨(fun q => by cases q), (fun q => (unhide HN2 q).elim)⟩⟩, hbel.trans (B4.mono hbel.size)⟩
      · have HQ2 := hide (unhide HQ (by first | exact rfl | exact trivial))
        clear HQ HN
        go_region_held3 (fun w' => w'.cell? ⟨wr.heap.size, 0, none⟩ = some (.int .i64 x.k) ∧ w'.cell? ⟨wr.heap.size, 1, none⟩ = some (.bool x.y) ∧ w'.cell? ⟨wr.heap.size, 2, none⟩ = some (.bool x.n) ∧ w'.cell? ⟨wr.heap.size, 3, none⟩ = some (.slice ao x.l.length cap) ∧ w'.cell? ⟨wr.heap.size, 4, none⟩ = some (.int .i64 x.sc) ∧ w'.cell? ⟨wr.heap.size, 5, none⟩ = some (.int .i64 x.d) ∧ w'.cell? ⟨wr.heap.size, 6, none⟩ = some (.int .i64 x.mo) ∧ w'.cell? ⟨wr.heap.size, 7, none⟩ = some (.int .i64 x.da) ∧ w'.cell? ⟨wr.heap.size, 8, none⟩ = some (.string x.t) ∧ w'.cell? ⟨b', off' + k * 3, none⟩ = some (.int .i64 K) ∧ w'.cell? ⟨b', off' + k * 3 + 1, none⟩ = some (.int .i64 D) ∧ w'.cell? ⟨b', off' + k * 3 + 2, none⟩ = some (.int .i64 C))
          (first | exact unhide Stab _ (Below.refl _ _).drew | (refine unhide Stab _ ?_; assumption))
          (first | (go_at_call 9; refine (unhide CF _ BA.drew).mono ?_; rintro e w3 ⟨rfl, b3⟩; have B3 : Below H.heap.size H w3 := (Below.refl _ _).drew.trans b3))
        go_wp2
        have B4 := BA.trans (B3.mono BA.size)
        go_roundw
        case rel => exact ⟨k + 1, by omega, by go_num, HQ2, hbel.trans (B4.mono hbel.size)⟩
        case measure => simp [intOf]; omega
    · have HR := hide (show PairIs xs ts from ⟨unhide HL, fun i h h' => unhide hall i h h' (by omega)⟩)
      clear hall hu hv
      go_wp2
      go_ret
      exact ⟨⟨true, rfl, ⟨(fun _ => unhide HR), (fun _ => rfl)⟩⟩, hbel⟩

theorem pair_row {xs : List Vl} {ts : List (Int × Int × Int)} (h : 1 ≤ ts.length ∧ ts.length ≤ 4) : PairIs xs ts ↔ RowIs xs ts := by
  constructor
  · intro a
    refine ⟨h, a.1, fun i h1 h2 => ?_⟩
    have b := a.2 i h1 h2
    unfold fitsX fitsB at b
    rw [Bool.and_eq_true, Bool.and_eq_true, decide_eq_true_eq] at b
    exact b
  · intro a
    refine ⟨a.2.1, fun i h1 h2 => ?_⟩
    have b := a.2.2 i h1 h2
    unfold fitsX fitsB
    rw [Bool.and_eq_true, Bool.and_eq_true, decide_eq_true_eq]
    exact b

theorem implRowOk_any (w : World) (u v : Value) (ts : List (Int × Int × Int)) (xs : List Vl) (hu : ReadsT w u ts) (hv : ReadsV w v xs) (tt : Tab w) :
    Calls Tryd.prog 16 #[u, v] w fun e w' => (∃ r : Bool, e = .returned (.bool r) ∧ (r = true ↔ RowIs xs ts)) ∧ Below w.heap.size w w' := by
  have C := hide (holdP_any w u v ts xs hu hv tt)
  obtain ⟨ao', b', off', cap', rfl, hu⟩ := hu
  obtain ⟨ao, b, off, cap, rfl, hv⟩ := hv
  have h1 := hu.le
  have h2 := hu.big
  unfold maxLen at h2
  clear hu hv
  by_cases hz : 1 ≤ ts.length
  case neg =>
    have k1 : decide ((ts.length : Int) < 1) = true := by simp; omega
    have HN := hide (show ¬ RowIs xs ts from fun a => hz a.1.1)
    clear hz C
    go_enter Tryd.func16, Tryd.ntmps16
    go_wp2
    go_ret
    exact ⟨⟨false, rfl, ⟨(fun q => by cases q), (fun q => (unhide HN q).elim)⟩⟩, Below.refl _ _⟩
  have k1 : decide ((ts.length : Int) < 1) = false := by simp; omega
  by_cases hy : ts.length ≤ 4
  case neg =>
    have k2 : decide ((4 : Int) < (ts.length : Int)) = true := by simp; omega
    have HN := hide (show ¬ RowIs xs ts from fun a => hy a.1.2)
    clear hz hy C
    go_enter Tryd.func16, Tryd.ntmps16
    go_wp2
    go_ret
    exact ⟨⟨false, rfl, ⟨(fun q => by cases q), (fun q => (unhide HN q).elim)⟩⟩, Below.refl _ _⟩
  have k2 : decide ((4 : Int) < (ts.length : Int)) = false := by simp; omega
  have HP := hide (pair_row (xs := xs) (ts := ts) ⟨hz, hy⟩)
  clear hz hy
  go_enter Tryd.func16, Tryd.ntmps16
  go_wp2_with fail
  refine (unhide C).mono ?_
  rintro e w1 ⟨⟨r, rfl, q⟩, b1⟩
  have Q := hide q
  clear q C
  go_wp2
  go_ret
  exact ⟨⟨r, rfl, (unhide Q).trans (unhide HP)⟩, b1⟩

end Go.Proofs.YtnegndajejhflaaDoor
