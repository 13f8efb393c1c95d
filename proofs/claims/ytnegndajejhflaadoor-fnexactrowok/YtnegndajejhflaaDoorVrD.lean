/- Whether a row is of its types: the specification's RowOk, by a contract. -/
import Derived.Test.YtnegndajejhflaaDoorVrC
import Derived.Test.YtnegndajejhflaaDoorVlF
import Derived.Test.YtnegndajejhflaaDoorSpanK
namespace Go.Proofs.YtnegndajejhflaaDoor
open Go.RowKit
set_option maxRecDepth 100000
set_option linter.unusedSimpArgs false
set_option linter.unusedVariables false

def valX (x : Vl) : Bool := valB x.k x.y x.n x.l x.sc x.d x.mo x.da x.t
def typX (x : Int × Int × Int) : Prop := TypeIs x.1 x.2.1 x.2.2
def fitX (x : Vl) (y : Int × Int × Int) : Bool := fitB x.k x.sc x.l y.1 y.2.1 y.2.2
/-- A row is of its types. -/
def RowIs (xs : List Vl) (ts : List (Int × Int × Int)) : Prop :=
  (1 ≤ ts.length ∧ ts.length ≤ 4) ∧ xs.length = ts.length ∧ ∀ i (h : i < xs.length) (h' : i < ts.length), valX xs[i] = true ∧ typX ts[i] ∧ fitX xs[i] ts[i] = true

set_option maxHeartbeats 2000000 in
theorem typesOk_any (w : World) (v : Value) (ts : List (Int × Int × Int)) (hr : ReadsT w v ts) :
    Calls Tryd.prog 47 #[v] w fun e w' => (∃ r : Bool, e = .returned (.bool r) ∧ (r = true ↔ (∀ j (h : j < ts.length), typX ts[j]) ∧ 1 ≤ ts.length ∧ ts.length ≤ 4)) ∧ Below w.heap.size w w' := by
  obtain ⟨ao, b, off, cap, rfl, hr⟩ := hr
  have hb := hr.le
  have hm := hr.big
  unfold maxLen at hm
  go_enter Tryd.func47, Tryd.ntmps47
  go_wp2
  go_loopw [3] (fun i wr => ∃ (k : Nat), k ≤ ts.length ∧ i = .int .i64 k ∧ Hid (∀ j (h : j < ts.length), j < k → typX ts[j]) ∧ Below w.heap.size w wr)
    (fun i _ => ts.length - (intOf i).toNat)
  case atStart => exact ⟨0, Nat.zero_le _, rfl, hide (fun j _ q => absurd q (Nat.not_lt_zero _)), Below.refl _ _⟩
  case round =>
    obtain ⟨k, hk, rfl, hall, hbel⟩ := hrel
    by_cases hlt : k < ts.length
    · obtain ⟨c0, c1, c2⟩ := (hr.later hbel).cell k hlt
      have hat := hr.at_ (by omega)
      subst hat
      obtain ⟨x, hxk⟩ : ∃ x, ts[k] = x := ⟨_, rfl⟩
      have HXK := hide hxk
      rw [hxk] at c0 c1 c2
      have CO := specL4TypeOk_any wr x.1 x.2.1 x.2.2
      by_cases hi : typX x
      · rw [show decide (TypeIs x.1 x.2.1 x.2.2) = true from decide_eq_true hi] at CO
        have CO := hide CO
        have HI := hide hi
        clear hr hxk hi
        go_wp2_with fail
        refine (unhide CO).mono ?_
        rintro e w1 ⟨rfl, hw⟩
        have b1 : Below wr.heap.size wr w1 := by subst hw; exact (Below.refl _ _).alloc (Nat.le_refl _) _
        clear hw CO
        go_wp2
        go_roundw
        case rel =>
          refine ⟨k + 1, by omega, by go_num, hide (fun j hj hjk => ?_), hbel.trans (b1.mono hbel.size)⟩
          by_cases e : j < k
          · exact unhide hall j hj e
          · obtain rfl : j = k := by omega
            rw [unhide HXK]
            exact unhide HI
        case measure => simp [intOf]; omega
      · rw [show decide (TypeIs x.1 x.2.1 x.2.2) = false from decide_eq_false hi] at CO
        have CO := hide CO
        have HI := hide hi
        clear hr hxk hi
        go_wp2_with fail
        refine (unhide CO).mono ?_
        rintro e w1 ⟨rfl, hw⟩
        have b1 : Below wr.heap.size wr w1 := by subst hw; exact (Below.refl _ _).alloc (Nat.le_refl _) _
        clear hw CO
        go_wp2
        go_ret
        refine ⟨⟨false, rfl, ⟨(fun q => by cases q), (fun q => ?_)⟩⟩, hbel.trans (b1.mono hbel.size)⟩
        exact absurd (by have := q.1 k hlt; rwa [unhide HXK] at this) (unhide HI)
    · have HF := hide (fun j (hj : j < ts.length) => unhide hall j hj (by omega))
      have CI := hide (fun W => inK_any W (ts.length : Int) 1 4)
      clear hall hr
      go_wp2_with fail
      refine (unhide CI _).mono ?_
      rintro e w1 ⟨rfl, hw⟩
      subst hw
      clear CI
      generalize hdd : decide ((1 : Int) ≤ (ts.length : Int) ∧ (ts.length : Int) ≤ 4) = dd
      have HD := hide hdd
      clear hdd
      go_wp2
      go_ret
      refine ⟨⟨dd, rfl, ⟨fun q => ⟨unhide HF, ?_⟩, fun q => ?_⟩⟩, hbel⟩
      · have h := unhide HD
        rw [q, decide_eq_true_eq] at h
        omega
      · rw [← unhide HD, decide_eq_true_eq]
        omega

set_option maxHeartbeats 2000000 in
theorem rowOk5_any (w : World) (v : Value) (xs : List Vl) (hr : ReadsV w v xs) :
    Calls Tryd.prog 48 #[v] w fun e w' => (∃ r : Bool, e = .returned (.bool r) ∧ (r = true ↔ ∀ j (h : j < xs.length), valX xs[j] = true)) ∧ Below w.heap.size w w' := by
  obtain ⟨ao, b, off, cap, rfl, hr⟩ := hr
  have hb := hr.le
  have hm := hr.big
  unfold maxLen at hm
  go_enter Tryd.func48, Tryd.ntmps48
  go_wp2
  go_loopw [3] (fun i wr => ∃ (k : Nat), k ≤ xs.length ∧ i = .int .i64 k ∧ Hid (∀ j (h : j < xs.length), j < k → valX xs[j] = true) ∧ Below w.heap.size w wr)
    (fun i _ => xs.length - (intOf i).toNat)
  case atStart => exact ⟨0, Nat.zero_le _, rfl, hide (fun j _ q => absurd q (Nat.not_lt_zero _)), Below.refl _ _⟩
  case round =>
    obtain ⟨k, hk, rfl, hall, hbel⟩ := hrel
    by_cases hlt : k < xs.length
    · obtain ⟨ax, cx, ⟨c0, c1, c2, c3, c4, c5, c6, c7, c8⟩, hx, htx⟩ := (hr.cell k hlt).later hbel
      have hat := hr.at_ (by omega)
      subst hat
      obtain ⟨x, hxk⟩ : ∃ x, xs[k] = x := ⟨_, rfl⟩
      have HXK := hide hxk
      rw [hxk] at c0 c1 c2 c3 c4 c5 c6 c7 c8 htx hx
      have CO := specL4Ok_any wr x.k x.y x.n ax x.l cx x.sc x.d x.mo x.da x.t htx hx
      have HV : valX x = valB x.k x.y x.n x.l x.sc x.d x.mo x.da x.t := rfl
      rw [← HV] at CO
      clear HV hr hxk hx htx
      have HQ := hide (fun (q : valX x = true) j (hj : j < xs.length) (hjk : j < k + 1) => (by
        by_cases e : j < k
        · exact unhide hall j hj e
        · obtain rfl : j = k := by omega
          rw [unhide HXK]
          exact q : valX xs[j] = true))
      have HN := hide (fun (q : valX x = false) (a : ∀ j (h : j < xs.length), valX xs[j] = true) => (by
        have := a k hlt
        rw [unhide HXK, q] at this
        exact Bool.false_ne_true this : False))
      generalize valX x = g at *
      have CO := hide CO
      clear hall HXK
      cases g
      · go_wp2_with fail
        refine (unhide CO).mono ?_
        rintro e w1 ⟨rfl, b1⟩
        have HN2 := hide (unhide HN (by first | exact rfl | exact trivial))
        clear CO HQ HN
        go_wp2
        go_ret
        exact ⟨⟨false, rfl, ⟨(fun q => by cases q), (fun q => (unhide HN2 q).elim)⟩⟩, hbel.trans (b1.mono hbel.size)⟩
      · go_wp2_with fail
        refine (unhide CO).mono ?_
        rintro e w1 ⟨rfl, b1⟩
        have HQ2 := hide (unhide HQ (by first | exact rfl | exact trivial))
        clear CO HQ HN
        go_wp2
        go_roundw
        case rel => exact ⟨k + 1, by omega, by go_num, HQ2, hbel.trans (b1.mono hbel.size)⟩
        case measure => simp [intOf]; omega
    · have HF := hide (fun j (hj : j < xs.length) => unhide hall j hj (by omega))
      clear hall hr
      go_wp2
      go_ret
      exact ⟨⟨true, rfl, ⟨(fun _ => unhide HF), (fun _ => rfl)⟩⟩, hbel⟩

end Go.Proofs.YtnegndajejhflaaDoor
