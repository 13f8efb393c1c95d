/- A text between quotes that is read: how far. Plain mathematics. A text between quotes that is read: the specification's l4Unquote, by a contract. A value read of a text: the specification's l4Get, by contracts. -/
import Derived.Test.YtdklikicngmkbaaGreatDoorH14
import Derived.Test.YtdklikicngmkbaaGreatDoorG28
import Derived.Test.YtdklikicngmkbaaGreatDoorH06
namespace Go.Proofs.YtdklikicngmkbaaGreatDoor
open Go.RowKit
set_option linter.unusedSimpArgs false
set_option linter.unusedVariables false

/-- What was read up to a place, and what it says. -/
def UQ (s : ByteArray) (i : Nat) (o : ByteArray) : Prop := s.data.toList.take i = 39 :: dbl o.data.toList

theorem quo_list (t : ByteArray) : (quoteT t).data.toList = 39 :: (dbl t.data.toList ++ [39]) := rfl

theorem uq_start {s : ByteArray} (hs : quotB s = true) : UQ s 1 ⟨#[]⟩ := by
  have h := cat_fst (c := 39) (quotB_iff.1 hs) (by decide)
  unfold UQ
  have e := congrArg (fun x : ByteArray => x.data.toList) h
  simp only [ByteArray.data_append, Array.toList_append] at e
  rw [← e]
  rfl

theorem byte_at {s : ByteArray} {i : Nat} (h : i < s.size) {c : UInt8} (hc : s[i].toNat = c.toNat) : s.data.toList[i]'(by simpa using h) = c := by
  rw [bytes_at s i h]
  exact UInt8.toNat_inj.1 hc

theorem o_snoc (o : ByteArray) {s : ByteArray} {i : Nat} (h : i < s.size) : (o ++ s.extract i (i + 1)).data.toList = o.data.toList ++ [s.data.toList[i]'(by simpa using h)] := by
  rw [q_one h, ByteArray.data_append, Array.toList_append, bytes_at s i h]

theorem uq_other {s o : ByteArray} {i : Nat} (h : UQ s i o) (hi : i < s.size) (hc : s[i].toNat ≠ 39) : UQ s (i + 1) (o ++ s.extract i (i + 1)) := by
  unfold UQ at *
  have hl : i < s.data.toList.length := by simpa using hi
  have hne : s.data.toList[i] ≠ (39 : UInt8) := fun q => hc (by rw [← bytes_at s i hi, q]; rfl)
  rw [List.take_succ_eq_append_getElem hl, h, o_snoc o hi, dbl_app, dbl_o hne, dbl_nil]
  rfl

theorem uq_two {s o : ByteArray} {i : Nat} (h : UQ s i o) (hi : i + 1 < s.size) (hc : s[i].toNat = 39) (hd : s[i + 1].toNat = 39) : UQ s (i + 1 + 1) (o ++ s.extract (i + 1) (i + 1 + 1)) := by
  unfold UQ at *
  have hl : i < s.data.toList.length := by simp; omega
  have hl1 : i + 1 < s.data.toList.length := by simpa using hi
  have e0 := byte_at (c := 39) (show i < s.size by omega) hc
  have e1 := byte_at (c := 39) hi hd
  rw [List.take_succ_eq_append_getElem hl1, List.take_succ_eq_append_getElem hl, h, o_snoc o hi, e0, e1, dbl_app, dbl_q, dbl_nil]
  simp

theorem uq_nxt {t o : List UInt8} {j : Nat} (h : (dbl t ++ [39]).take j = dbl o) (hj : j < (dbl t).length) (hc : (dbl t)[j] = 39) : ∃ k : j + 1 < (dbl t).length, (dbl t)[j + 1] = 39 := by
  rw [List.take_append_of_le_length (by omega)] at h
  have e : dbl t = dbl o ++ (dbl t).drop j := by rw [← h, List.take_append_drop]
  obtain ⟨t', h1, -⟩ := dbl_split o t _ e
  have h2 := List.drop_eq_getElem_cons hj
  rw [hc] at h2
  obtain ⟨R', h3⟩ := dbl_odd (h1.symm.trans h2)
  have hk : j + 1 < (dbl t).length := by
    apply Classical.byContradiction
    intro k
    rw [List.drop_of_length_le (by omega)] at h3
    cases h3
  refine ⟨hk, ?_⟩
  have h4 := List.drop_eq_getElem_cons hk
  rw [h3] at h4
  exact (List.cons.inj h4).1.symm

theorem quo_size (t : ByteArray) : (quoteT t).size = (dbl t.data.toList).length + 2 := by
  have := congrArg List.length (quo_list t)
  simpa using this

theorem uq_next {s o t : ByteArray} {i : Nat} (h : UQ s i o) (ht : quoteT t = s) (hi : i + 1 < s.size) (h0 : 0 < i) (hc : s[i].toNat = 39) : i + 1 + 1 < s.size ∧ ∀ k : i + 1 < s.size, s[i + 1].toNat = 39 := by
  unfold UQ at h
  obtain ⟨j, rfl⟩ : ∃ j, i = j + 1 := ⟨i - 1, by omega⟩
  have e0 := byte_at (c := 39) (show j + 1 < s.size by omega) hc
  have zn : s.size = (dbl t.data.toList).length + 2 := by rw [← ht, quo_size]
  have sl : s.data.toList = 39 :: (dbl t.data.toList ++ [39]) := by rw [← ht, quo_list]
  have g : ∀ (k : Nat) (hk : k < (dbl t.data.toList).length) (hk2 : k + 1 < s.data.toList.length), s.data.toList[k + 1] = (dbl t.data.toList)[k] := fun k hk hk2 => by
    simp only [sl, List.getElem_cons_succ]
    rw [List.getElem_append_left hk]
  rw [sl, List.take_succ_cons, List.cons.injEq] at h
  have hj : j < (dbl t.data.toList).length := by omega
  obtain ⟨k, e1⟩ := uq_nxt h.2 hj (by rw [← g j hj (by simp; omega)]; exact e0)
  refine ⟨by omega, fun k2 => ?_⟩
  rw [← bytes_at s _ k2, g (j + 1) k (by simp; omega), e1]
  rfl

theorem uq_end {s o : ByteArray} {n : Nat} (h : UQ s n o) (hn : s.size = n + 1) (hc : ∀ k : n < s.size, s[n].toNat = 39) : quoteT o = s := by
  unfold UQ at h
  refine bytes_eqD ?_
  have hl : n < s.data.toList.length := by simp; omega
  have e : s.data.toList = s.data.toList.take n ++ [s.data.toList[n]] := by
    rw [← List.take_succ_eq_append_getElem hl, List.take_of_length_le (by simp; omega)]
  rw [quo_list, e, h, byte_at (c := 39) (by omega) (hc (by omega))]
  rfl

theorem uq_last {s t : ByteArray} {n : Nat} (ht : quoteT t = s) (hn : s.size = n + 1) : 1 ≤ n ∧ ∀ k : n < s.size, s[n].toNat = 39 := by
  have zn : s.size = (dbl t.data.toList).length + 2 := by rw [← ht, quo_size]
  refine ⟨by omega, fun k => ?_⟩
  have sl : s.data.toList = 39 :: (dbl t.data.toList ++ [39]) := by rw [← ht, quo_list]
  rw [← bytes_at s _ k]
  simp only [sl]
  obtain ⟨m, rfl⟩ : ∃ m, n = m + 1 := ⟨n - 1, by omega⟩
  rw [List.getElem_cons_succ, List.getElem_append_right (by omega)]
  simp

theorem quote_inj {a b : ByteArray} (h : quoteT a = quoteT b) : a = b := by
  have q3 := congrArg (fun x : ByteArray => x.data.toList) h
  simp only [quo_list, List.cons.injEq, true_and, List.append_cancel_right_eq] at q3
  exact bytes_eqD (dbl_inj q3)

theorem uq_size {s o : ByteArray} {i : Nat} (h : UQ s i o) : o.size ≤ i := by
  unfold UQ at h
  have e := congrArg List.length h
  have hd : ∀ l : List UInt8, l.length ≤ (dbl l).length := fun l => by
    induction l with
    | nil => exact Nat.zero_le _
    | cons x r ih =>
      by_cases e : x = 39
      · subst e; rw [dbl_q]; simp; omega
      · rw [dbl_o e]; simp; omega
  have := hd o.data.toList
  rw [List.length_take, List.length_cons] at e
  have : o.data.toList.length = o.size := by simp
  omega

/-- What l4Unquote answers. -/
def GivesU (w : World) (s : ByteArray) (e : Ending) (w' : World) : Prop :=
  ∃ (x : ByteArray) (ok : Bool), e = .returned (.tuple #[.string x, .bool ok]) ∧ Below w.heap.size w w' ∧ ((ok = true ∧ textB x = true ∧ quoteT x = s) ∨ (ok = false ∧ ∀ t, textB t = true → quoteT t ≠ s))

end Go.Proofs.YtdklikicngmkbaaGreatDoor

namespace Go.Proofs.YtdklikicngmkbaaGreatDoor
open Go.RowKit
set_option maxRecDepth 100000
set_option linter.unusedSimpArgs false
set_option linter.unusedVariables false

theorem gu_no {w w' : World} {s x : ByteArray} (b : Below w.heap.size w w') (h : ∀ t, textB t = true → quoteT t ≠ s) : GivesU w s (.returned (.tuple #[.string x, .bool false])) w' := ⟨x, false, rfl, b, .inr ⟨rfl, h⟩⟩
theorem gu_yes {w w' : World} {s x : ByteArray} (b : Below w.heap.size w w') (h : textB x = true) (k : quoteT x = s) : GivesU w s (.returned (.tuple #[.string x, .bool true])) w' := ⟨x, true, rfl, b, .inl ⟨rfl, h, k⟩⟩

set_option maxHeartbeats 2000000 in
theorem l4Unquote_any (w : World) (s : ByteArray) (hs : s.size ≤ 2000000) (hq : quotB s = true) :
    Calls Tryz.prog 82 #[.string s] w (GivesU w s) := by
  have hp : 0 < s.size := by
    apply Nat.pos_of_ne_zero
    intro z
    have := quotB_iff.1 hq
    unfold fstB at this
    rw [dif_neg (by omega)] at this
    omega
  obtain ⟨n, hn⟩ : ∃ n, s.size = n + 1 := ⟨s.size - 1, by omega⟩
  have hn' : n < s.size := by omega
  have hw0 : IntKind.i64.wrap ((s.size : Int) - 1) = (n : Int) := by rw [IntKind.wrap_i64]; omega
  have hw1 : (s.size : Int) - 1 = (n : Int) := by omega
  have HS := hide (uq_start hq)
  have h39 : s[0].toNat = 39 := by
    have := quotB_iff.1 hq
    unfold fstB at this
    rw [dif_pos hp] at this
    exact this
  have HL := hide (fun t (ht : quoteT t = s) => uq_last ht hn)
  have HEnd := hide (fun o (h : UQ s n o) hc => uq_end h hn hc)
  clear hq
  have HZ := hide hn
  have hlen : (s.size : Int) = (n : Int) + 1 := by omega
  clear hn
  go_enter Tryz.func82, Tryz.ntmps82
  go_wp2
  go_loopw [4, 5] (fun oo ii wr => ∃ (i : Nat) (q : ByteArray), ii = .int .i64 i ∧ oo = .string q ∧ 1 ≤ i ∧ (i ≤ n ∨ i = 1) ∧ Hid (UQ s i q) ∧ q.size ≤ i ∧ Below w.heap.size w wr) (fun _ ii _ => s.size - (intOf ii).toNat)
  case atStart => exact ⟨1, _, rfl, rfl, Nat.le_refl _, .inr rfl, HS, by decide, Below.refl _ _⟩
  case round =>
    obtain ⟨i, q, rfl, rfl, h1i, hi, hq, hz, hbel⟩ := hrel
    by_cases h : i < n
    · have w5 : IntKind.i64.wrap ((i : Int) + 1) = (i : Int) + 1 := by rw [IntKind.wrap_i64]; omega
      have w6 : IntKind.i64.wrap ((i : Int) + 1 + 1) = (i : Int) + 1 + 1 := by rw [IntKind.wrap_i64]; omega
      have hlt : i < s.size := by omega
      have hlt1 : i + 1 < s.size := by omega
      have f0 : decide ((i : Int) < (n : Int)) = true := decide_eq_true (by omega)
      have k3 : (0 : Int) ≤ (i : Int) := by omega
      have k4 : (0 : Int) ≤ (i : Int) + 1 := by omega
      have z1 : ¬ (9223372036854775807 < q.size + 1) := by omega
      obtain ⟨c, hc⟩ : ∃ c, s[i].toNat = c := ⟨_, rfl⟩
      obtain ⟨c1, hc1⟩ : ∃ c1, s[i + 1].toNat = c1 := ⟨_, rfl⟩
      have HC := hide hc
      have HC1 := hide hc1
      by_cases h1 : c = 39
      · have t1 : ((c : Int) == 39) = true := by simp [h1]
        have HNX := hide (fun t (ht : quoteT t = s) => uq_next (unhide hq) ht hlt1 (by omega) (by rw [unhide HC]; exact h1))
        by_cases h2 : i + 1 < n
        · have f1 : decide ((n : Int) ≤ (i : Int) + 1) = false := decide_eq_false (by omega)
          by_cases h3 : c1 = 39
          · have t2 : ((c1 : Int) != 39) = false := by simp [h3]
            have HQ := hide (uq_two (unhide hq) hlt1 (by rw [unhide HC]; exact h1) (by rw [unhide HC1]; exact h3))
            have xs1 : (s.extract (i + 1) (i + 1 + 1)).size = 1 := by rw [ByteArray.size_extract]; omega
            have HSz := hide (show (q ++ s.extract (i + 1) (i + 1 + 1)).size ≤ i + 1 + 1 by rw [ByteArray.size_append, xs1]; omega)
            have k1 : (i : Int) + 1 + 1 ≤ (s.size : Int) := by omega
            have k2 : (i : Int) + 1 ≤ (i : Int) + 1 + 1 := by omega
            clear h1 hq HNX h3
            go_wp2
            go_roundw
            case rel => exact ⟨i + 1 + 1, _, by simp, rfl, by omega, by omega, HQ, unhide HSz, hbel⟩
            case measure => simp only [intOf]; omega
          · have t2 : ((c1 : Int) != 39) = true := by simp; omega
            have E := hide (show ∀ t, textB t = true → quoteT t ≠ s from fun t _ ht => h3 (by rw [← unhide HC1]; exact (unhide HNX t ht).2 hlt1))
            clear h1 hq HNX h3
            go_wp2
            go_ret2
            exact gu_no hbel (unhide E)
        · have f1 : decide ((n : Int) ≤ (i : Int) + 1) = true := decide_eq_true (by omega)
          have E := hide (show ∀ t, textB t = true → quoteT t ≠ s from fun t _ ht => h2 (by have := (unhide HNX t ht).1; have := unhide HZ; omega))
          clear h1 hq HNX
          go_wp2
          go_ret2
          exact gu_no hbel (unhide E)
      · have t1 : ((c : Int) == 39) = false := by rw [beq_eq_false_iff_ne]; omega
        have HQ := hide (uq_other (unhide hq) hlt (by rw [unhide HC]; exact h1))
        have xs1 : (s.extract i (i + 1)).size = 1 := by rw [ByteArray.size_extract]; omega
        have HSz := hide (show (q ++ s.extract i (i + 1)).size ≤ i + 1 by rw [ByteArray.size_append, xs1]; omega)
        have k1 : (i : Int) + 1 ≤ (s.size : Int) := by omega
        have k2 : (i : Int) ≤ (i : Int) + 1 := by omega
        clear h1 hq
        go_wp2
        go_roundw
        case rel => exact ⟨i + 1, _, by simp, rfl, by omega, by omega, HQ, unhide HSz, hbel⟩
        case measure => simp only [intOf]; omega
    · have f0 : decide ((i : Int) < (n : Int)) = false := decide_eq_false (by omega)
      by_cases h0 : n = 0
      · have f1 : decide ((2 : Int) ≤ (s.size : Int)) = false := decide_eq_false (by omega)
        have E := hide (show ∀ t, textB t = true → quoteT t ≠ s from fun t _ ht => absurd (unhide HL t ht).1 (by omega))
        clear hq
        go_wp2
        go_ret2
        exact gu_no hbel (unhide E)
      · obtain rfl : i = n := by omega
        have f1 : decide ((2 : Int) ≤ (s.size : Int)) = true := decide_eq_true (by omega)
        obtain ⟨c, hc⟩ : ∃ c, s[i].toNat = c := ⟨_, rfl⟩
        have HC := hide hc
        by_cases h1 : c = 39
        · have t1 : ((c : Int) == 39) = true := by simp [h1]
          have HQ := hide (unhide HEnd q (unhide hq) (fun _ => by rw [unhide HC]; exact h1))
          have CT := hide (fun W => specText_any W q (by unfold maxLen; omega))
          clear h1 hq
          go_wp2_with fail
          refine (unhide CT _).mono ?_
          rintro e w2 ⟨rfl, b2⟩
          cases hb : textB q with
          | true =>
            have HB := hide hb
            clear hb CT
            go_wp2
            go_ret2
            exact gu_yes (hbel.trans (b2.mono hbel.size)) (unhide HB) (unhide HQ)
          | false =>
            have E := hide (show ∀ t, textB t = true → quoteT t ≠ s from fun t ht e => by
              have := quote_inj (e.trans (unhide HQ).symm)
              rw [this, hb] at ht
              cases ht)
            clear hb CT
            go_wp2
            go_ret2
            exact gu_no (hbel.trans (b2.mono hbel.size)) (unhide E)
        · have t1 : ((c : Int) == 39) = false := by rw [beq_eq_false_iff_ne]; omega
          have E := hide (show ∀ t, textB t = true → quoteT t ≠ s from fun t _ ht => h1 (by rw [← unhide HC]; exact (unhide HL t ht).2 hn'))
          clear h1 hq
          go_wp2
          go_ret2
          exact gu_no hbel (unhide E)

end Go.Proofs.YtdklikicngmkbaaGreatDoor

namespace Go.Proofs.YtdklikicngmkbaaGreatDoor
open Go.RowKit
set_option maxRecDepth 100000
set_option linter.unusedSimpArgs false
set_option linter.unusedVariables false

theorem gv_none {w w' : World} {s : ByteArray} (b : Below w.heap.size w w') (h : ∀ U, ¬ VT s U) : GivesV w s (.returned (.tuple #[.agg #[.int .i64 0, .bool false, .bool false, .slice none 0 0, .int .i64 0, .int .i64 0, .int .i64 0, .int .i64 0, .string ⟨#[]⟩], .bool false])) w' :=
  ⟨V0, none, 0, false, rfl, Own.nil _ _, b, .inr ⟨rfl, rfl, h⟩⟩
theorem gv_some {w w' : World} {s : ByteArray} (V : Vl) {ao : Option Addr} {cap : Nat} (o : Own w.heap.size w' (.slice ao V.l.length cap) V.l) (b : Below w.heap.size w w') (h : VT s V) :
    GivesV w s (.returned (.tuple #[.agg #[.int .i64 V.k, .bool V.y, .bool V.n, .slice ao V.l.length cap, .int .i64 V.sc, .int .i64 V.d, .int .i64 V.mo, .int .i64 V.da, .string V.t], .bool true])) w' := ⟨V, ao, cap, true, rfl, o, b, .inl ⟨rfl, h⟩⟩

theorem null_eq {s : ByteArray} (h : (s.toList == [110, 117, 108, 108]) = true) : s = ⟨#[110, 117, 108, 108]⟩ := by
  have h := beq_iff_eq.1 h
  rw [ByteArray.toList_eq] at h
  exact bytes_of h

set_option maxHeartbeats 1000000 in
theorem get_null (w : World) (s : ByteArray) (h : (s.toList == [110, 117, 108, 108]) = true) : Calls Tryz.prog 42 #[.string s] w (GivesV w s) := by
  have E := hide (show VT s V0 by rw [null_eq h]; exact vt_0)
  go_enter Tryz.func42, Tryz.ntmps42
  go_wp2
  refine bodyPost_ret (v := .tuple #[.agg #[.int .i64 0, .bool false, .bool false, .slice none 0 0, .int .i64 0, .int .i64 0, .int .i64 0, .int .i64 0, .string ⟨#[]⟩], .bool true]) (by simp [results, Tryz.results42, go_sem]) rfl (gv_some (V0) (Own.nil _ _) ((Below.refl _ _).alloc (Nat.le_refl _) _) (unhide E))

set_option maxHeartbeats 1000000 in
theorem get_empty (w : World) (s : ByteArray) (h : (s.toList == [110, 117, 108, 108]) = false) (h0 : s.size = 0) : Calls Tryz.prog 42 #[.string s] w (GivesV w s) := by
  have E := hide (show ∀ U, ¬ VT s U from fun U k => vt_none h0 k)
  have he : s.toList.isEmpty = true := by rw [empty_size]; simpa using h0
  clear h0
  go_enter Tryz.func42, Tryz.ntmps42
  go_wp2
  refine bodyPost_ret (v := .tuple #[.agg #[.int .i64 0, .bool false, .bool false, .slice none 0 0, .int .i64 0, .int .i64 0, .int .i64 0, .int .i64 0, .string ⟨#[]⟩], .bool false]) (by simp [results, Tryz.results42, go_sem]) rfl (gv_none ((Below.refl _ _).alloc (Nat.le_refl _) _) (unhide E))

set_option maxHeartbeats 1000000 in
theorem get_day (w : World) (s : ByteArray) (hs : s.size ≤ 2000000) (h : (s.toList == [110, 117, 108, 108]) = false) (h0 : 0 < s.size) (h1 : s[0].toNat = 64) : Calls Tryz.prog 42 #[.string s] w (GivesV w s) := by
  have he : s.toList.isEmpty = false := by rw [empty_size]; exact decide_eq_false (by omega)
  have ha : atB s = true := by rw [atB_iff]; unfold fstB; rw [dif_pos h0]; exact h1
  have C := hide (fun W => l3Get_any W (atRest s) (by unfold atRest; rw [if_pos ha, ByteArray.size_extract]; unfold maxLen; omega))
  have HY := hide (fun (k : dayG (atRest s) ≠ 0) => is_3 ha (dayG_is k))
  have HN := hide (fun (k : dayG (atRest s) = 0) U (u : VT s U) => show False by
    obtain ⟨d, -, hd⟩ := one_3 ha u
    have := dayG_of hd
    have := hd.1
    unfold IsDay at this
    omega)
  have hr : atRest s = s.extract 1 s.size := by unfold atRest; rw [if_pos ha]
  rw [hr] at C HY HN
  clear ha hr
  have l1 : (1 : Int) ≤ s.size := by omega
  generalize dayG (s.extract 1 s.size) = g at *
  go_enter Tryz.func42, Tryz.ntmps42
  go_wp2_with fail
  refine (unhide C _).mono ?_
  rintro e w1 ⟨rfl, hw⟩
  subst hw
  by_cases hg : g = 0
  · have t0 : (g == 0) = true := by simp [hg]
    go_wp2
    have E := hide (unhide HN hg)
    refine bodyPost_ret (v := .tuple #[.agg #[.int .i64 0, .bool false, .bool false, .slice none 0 0, .int .i64 0, .int .i64 0, .int .i64 0, .int .i64 0, .string ⟨#[]⟩], .bool false]) (by simp [results, Tryz.results42, go_sem]) rfl (gv_none ((Below.refl _ _).alloc (Nat.le_refl _) _) (unhide E))
  · have t0 : (g == 0) = false := by simp [hg]
    go_wp2
    have E := hide (unhide HY hg)
    refine bodyPost_ret (v := .tuple #[.agg #[.int .i64 3, .bool false, .bool false, .slice none 0 0, .int .i64 0, .int .i64 g, .int .i64 0, .int .i64 0, .string ⟨#[]⟩], .bool true]) (by simp [results, Tryz.results42, go_sem]) rfl (gv_some (V3 g) (Own.nil _ _) ((Below.refl _ _).alloc (Nat.le_refl _) _) (unhide E))

set_option maxHeartbeats 4000000 in
theorem get_span (w : World) (s : ByteArray) (hs : s.size ≤ 2000000) (h : (s.toList == [110, 117, 108, 108]) = false) (h0 : 0 < s.size) (h1 : s[0].toNat = 35) : Calls Tryz.prog 42 #[.string s] w (GivesV w s) := by
  have he : s.toList.isEmpty = false := by rw [empty_size]; exact decide_eq_false (by omega)
  have ha : hashB s = true := by rw [hashB_iff]; unfold fstB; rw [dif_pos h0]; exact h1
  have C := hide (fun W => l3SpanGet_any W (hashRest s) (by unfold hashRest; rw [if_pos ha, ByteArray.size_extract]; unfold maxLen; omega))
  have HY := hide (fun m d (k : SpT (hashRest s) m d) => is_4 ha k)
  have HN := hide (fun (k : ∀ a b, ¬ SpT (hashRest s) a b) U (u : VT s U) => show False by
    obtain ⟨m, d, -, hd⟩ := one_4 ha u
    exact k m d hd)
  have hr : hashRest s = s.extract 1 s.size := by unfold hashRest; rw [if_pos ha]
  rw [hr] at C HY HN
  clear ha hr
  have l1 : (1 : Int) ≤ s.size := by omega
  have K0 := V9.new w (.int .i64 0) (.bool false) (.bool false) (.slice none 0 0) (.int .i64 0) (.int .i64 0) (.int .i64 0) (.int .i64 0) (.string ⟨#[]⟩) 31
  have B0 : Below w.heap.size w (w.alloc (.cells #[.int .i64 0, .bool false, .bool false, .slice none 0 0, .int .i64 0, .int .i64 0, .int .i64 0, .int .i64 0, .string ⟨#[]⟩] 31)) := (Below.refl _ _).alloc (Nat.le_refl _) _
  go_enter Tryz.func42, Tryz.ntmps42
  go_wp2_with fail
  refine (unhide C _).mono ?_
  rintro e w1 ⟨m, d, ok, rfl, b1, hcase⟩
  have HC := hide hcase
  have K1 := K0.later b1
  have B1 := B0.trans (b1.mono B0.size)
  clear hcase C K0 B0 b1
  obtain ⟨c0, c1, c2, c3, c4, c5, c6, c7, c8, f0, f1, f2, f3, f4, f5, f6, f7, f8, lt9⟩ := id K1
  cases ok
  · have E : Hid (∀ U, ¬ VT s U) := by
      rcases unhide HC with ⟨q, -⟩ | ⟨-, -, -, q⟩
      · cases q
      · exact unhide HN q
    clear HC HN HY
    go_wp2
    have R := (((((((((K1.put0 (.int .i64 0)).put1 (.bool false)).put2 (.bool false)).put3 (.slice none 0 0)).put4 (.int .i64 0)).put5 (.int .i64 0)).put6 (.int .i64 0)).put7 (.int .i64 0)).put8 (.string ⟨#[]⟩))
    have BB := (((((((((B1.setCell (p := ⟨w.heap.size, 0, none⟩) (Nat.le_refl _) (.int .i64 0)).setCell (p := ⟨w.heap.size, 1, none⟩) (Nat.le_refl _) (.bool false)).setCell (p := ⟨w.heap.size, 2, none⟩) (Nat.le_refl _) (.bool false)).setCell (p := ⟨w.heap.size, 3, none⟩) (Nat.le_refl _) (.slice none 0 0)).setCell (p := ⟨w.heap.size, 4, none⟩) (Nat.le_refl _) (.int .i64 0)).setCell (p := ⟨w.heap.size, 5, none⟩) (Nat.le_refl _) (.int .i64 0)).setCell (p := ⟨w.heap.size, 6, none⟩) (Nat.le_refl _) (.int .i64 0)).setCell (p := ⟨w.heap.size, 7, none⟩) (Nat.le_refl _) (.int .i64 0)).setCell (p := ⟨w.heap.size, 8, none⟩) (Nat.le_refl _) (.string ⟨#[]⟩))
    generalize (((((((((w1.setCell ⟨w.heap.size, 0, none⟩ (.int .i64 0)).setCell ⟨w.heap.size, 1, none⟩ (.bool false)).setCell ⟨w.heap.size, 2, none⟩ (.bool false)).setCell ⟨w.heap.size, 3, none⟩ (.slice none 0 0)).setCell ⟨w.heap.size, 4, none⟩ (.int .i64 0)).setCell ⟨w.heap.size, 5, none⟩ (.int .i64 0)).setCell ⟨w.heap.size, 6, none⟩ (.int .i64 0)).setCell ⟨w.heap.size, 7, none⟩ (.int .i64 0)).setCell ⟨w.heap.size, 8, none⟩ (.string ⟨#[]⟩)) = W9 at *
    have R := R.later ((Below.refl _ _).alloc (Nat.le_refl _) (.cells #[.int .i64 m, .int .i64 d] 29))
    have BB := BB.alloc BB.size (.cells #[.int .i64 m, .int .i64 d] 29)
    obtain ⟨r0, r1, r2, r3, r4, r5, r6, r7, r8, -, -, -, -, -, -, -, -, -, -⟩ := id R
    refine bodyPost_ret (v := .tuple #[.agg #[.int .i64 0, .bool false, .bool false, .slice none 0 0, .int .i64 0, .int .i64 0, .int .i64 0, .int .i64 0, .string ⟨#[]⟩], .bool false]) (by simp [results, Tryz.results42, go_sem, r0, r1, r2, r3, r4, r5, r6, r7, r8]) rfl (gv_none BB (unhide E))
  · have E : Hid (VT s (V4 m d)) := by
      rcases unhide HC with ⟨-, q⟩ | ⟨q, -⟩
      · exact unhide HY m d q
      · cases q
    clear HC HN HY
    go_wp2
    have R := (((((((((K1.put0 (.int .i64 4)).put1 (.bool false)).put2 (.bool false)).put3 (.slice none 0 0)).put4 (.int .i64 0)).put5 (.int .i64 0)).put6 (.int .i64 m)).put7 (.int .i64 d)).put8 (.string ⟨#[]⟩))
    have BB := (((((((((B1.setCell (p := ⟨w.heap.size, 0, none⟩) (Nat.le_refl _) (.int .i64 4)).setCell (p := ⟨w.heap.size, 1, none⟩) (Nat.le_refl _) (.bool false)).setCell (p := ⟨w.heap.size, 2, none⟩) (Nat.le_refl _) (.bool false)).setCell (p := ⟨w.heap.size, 3, none⟩) (Nat.le_refl _) (.slice none 0 0)).setCell (p := ⟨w.heap.size, 4, none⟩) (Nat.le_refl _) (.int .i64 0)).setCell (p := ⟨w.heap.size, 5, none⟩) (Nat.le_refl _) (.int .i64 0)).setCell (p := ⟨w.heap.size, 6, none⟩) (Nat.le_refl _) (.int .i64 m)).setCell (p := ⟨w.heap.size, 7, none⟩) (Nat.le_refl _) (.int .i64 d)).setCell (p := ⟨w.heap.size, 8, none⟩) (Nat.le_refl _) (.string ⟨#[]⟩))
    generalize (((((((((w1.setCell ⟨w.heap.size, 0, none⟩ (.int .i64 4)).setCell ⟨w.heap.size, 1, none⟩ (.bool false)).setCell ⟨w.heap.size, 2, none⟩ (.bool false)).setCell ⟨w.heap.size, 3, none⟩ (.slice none 0 0)).setCell ⟨w.heap.size, 4, none⟩ (.int .i64 0)).setCell ⟨w.heap.size, 5, none⟩ (.int .i64 0)).setCell ⟨w.heap.size, 6, none⟩ (.int .i64 m)).setCell ⟨w.heap.size, 7, none⟩ (.int .i64 d)).setCell ⟨w.heap.size, 8, none⟩ (.string ⟨#[]⟩)) = W9 at *
    have R := R.later ((Below.refl _ _).alloc (Nat.le_refl _) (.cells #[.int .i64 m, .int .i64 d] 29))
    have BB := BB.alloc BB.size (.cells #[.int .i64 m, .int .i64 d] 29)
    obtain ⟨r0, r1, r2, r3, r4, r5, r6, r7, r8, -, -, -, -, -, -, -, -, -, -⟩ := id R
    refine bodyPost_ret (v := .tuple #[.agg #[.int .i64 4, .bool false, .bool false, .slice none 0 0, .int .i64 0, .int .i64 0, .int .i64 m, .int .i64 d, .string ⟨#[]⟩], .bool true]) (by simp [results, Tryz.results42, go_sem, r0, r1, r2, r3, r4, r5, r6, r7, r8]) rfl (gv_some (V4 m d) (Own.nil _ _) BB (unhide E))

set_option maxHeartbeats 4000000 in
theorem get_quote (w : World) (s : ByteArray) (hs : s.size ≤ 2000000) (h : (s.toList == [110, 117, 108, 108]) = false) (h0 : 0 < s.size) (h1 : s[0].toNat = 39) : Calls Tryz.prog 42 #[.string s] w (GivesV w s) := by
  have he : s.toList.isEmpty = false := by rw [empty_size]; exact decide_eq_false (by omega)
  have ha : quotB s = true := by rw [quotB_iff]; unfold fstB; rw [dif_pos h0]; exact h1
  have C := hide (fun W => l4Unquote_any W s hs ha)
  have HY := hide (fun t (k : textB t = true) (e : quoteT t = s) => vt_5 k e)
  have HN := hide (fun (k : ∀ t, textB t = true → quoteT t ≠ s) U (u : VT s U) => show False by
    obtain ⟨t, -, k1, k2⟩ := one_5 ha u
    exact k t k1 k2)
  clear ha
  have K0 := V9.new w (.int .i64 0) (.bool false) (.bool false) (.slice none 0 0) (.int .i64 0) (.int .i64 0) (.int .i64 0) (.int .i64 0) (.string ⟨#[]⟩) 31
  have B0 : Below w.heap.size w (w.alloc (.cells #[.int .i64 0, .bool false, .bool false, .slice none 0 0, .int .i64 0, .int .i64 0, .int .i64 0, .int .i64 0, .string ⟨#[]⟩] 31)) := (Below.refl _ _).alloc (Nat.le_refl _) _
  go_enter Tryz.func42, Tryz.ntmps42
  go_wp2_with fail
  refine (unhide C _).mono ?_
  rintro e w1 ⟨x, ok, rfl, b1, hcase⟩
  have HC := hide hcase
  have K1 := K0.later b1
  have B1 := B0.trans (b1.mono B0.size)
  clear hcase C K0 B0 b1
  obtain ⟨c0, c1, c2, c3, c4, c5, c6, c7, c8, f0, f1, f2, f3, f4, f5, f6, f7, f8, lt9⟩ := id K1
  cases ok
  · have E : Hid (∀ U, ¬ VT s U) := by
      rcases unhide HC with ⟨q, -⟩ | ⟨-, q⟩
      · cases q
      · exact unhide HN q
    clear HC HN HY
    go_wp2
    have R := (((((((((K1.put0 (.int .i64 0)).put1 (.bool false)).put2 (.bool false)).put3 (.slice none 0 0)).put4 (.int .i64 0)).put5 (.int .i64 0)).put6 (.int .i64 0)).put7 (.int .i64 0)).put8 (.string ⟨#[]⟩))
    have BB := (((((((((B1.setCell (p := ⟨w.heap.size, 0, none⟩) (Nat.le_refl _) (.int .i64 0)).setCell (p := ⟨w.heap.size, 1, none⟩) (Nat.le_refl _) (.bool false)).setCell (p := ⟨w.heap.size, 2, none⟩) (Nat.le_refl _) (.bool false)).setCell (p := ⟨w.heap.size, 3, none⟩) (Nat.le_refl _) (.slice none 0 0)).setCell (p := ⟨w.heap.size, 4, none⟩) (Nat.le_refl _) (.int .i64 0)).setCell (p := ⟨w.heap.size, 5, none⟩) (Nat.le_refl _) (.int .i64 0)).setCell (p := ⟨w.heap.size, 6, none⟩) (Nat.le_refl _) (.int .i64 0)).setCell (p := ⟨w.heap.size, 7, none⟩) (Nat.le_refl _) (.int .i64 0)).setCell (p := ⟨w.heap.size, 8, none⟩) (Nat.le_refl _) (.string ⟨#[]⟩))
    generalize (((((((((w1.setCell ⟨w.heap.size, 0, none⟩ (.int .i64 0)).setCell ⟨w.heap.size, 1, none⟩ (.bool false)).setCell ⟨w.heap.size, 2, none⟩ (.bool false)).setCell ⟨w.heap.size, 3, none⟩ (.slice none 0 0)).setCell ⟨w.heap.size, 4, none⟩ (.int .i64 0)).setCell ⟨w.heap.size, 5, none⟩ (.int .i64 0)).setCell ⟨w.heap.size, 6, none⟩ (.int .i64 0)).setCell ⟨w.heap.size, 7, none⟩ (.int .i64 0)).setCell ⟨w.heap.size, 8, none⟩ (.string ⟨#[]⟩)) = W9 at *
    obtain ⟨r0, r1, r2, r3, r4, r5, r6, r7, r8, -, -, -, -, -, -, -, -, -, -⟩ := id R
    refine bodyPost_ret (v := .tuple #[.agg #[.int .i64 0, .bool false, .bool false, .slice none 0 0, .int .i64 0, .int .i64 0, .int .i64 0, .int .i64 0, .string ⟨#[]⟩], .bool false]) (by simp [results, Tryz.results42, go_sem, r0, r1, r2, r3, r4, r5, r6, r7, r8]) rfl (gv_none BB (unhide E))
  · have E : Hid (VT s (V5 x)) := by
      rcases unhide HC with ⟨-, q, q2⟩ | ⟨q, -⟩
      · exact unhide HY x q q2
      · cases q
    clear HC HN HY
    go_wp2
    have R := (((((((((K1.put0 (.int .i64 5)).put1 (.bool false)).put2 (.bool false)).put3 (.slice none 0 0)).put4 (.int .i64 0)).put5 (.int .i64 0)).put6 (.int .i64 0)).put7 (.int .i64 0)).put8 (.string x))
    have BB := (((((((((B1.setCell (p := ⟨w.heap.size, 0, none⟩) (Nat.le_refl _) (.int .i64 5)).setCell (p := ⟨w.heap.size, 1, none⟩) (Nat.le_refl _) (.bool false)).setCell (p := ⟨w.heap.size, 2, none⟩) (Nat.le_refl _) (.bool false)).setCell (p := ⟨w.heap.size, 3, none⟩) (Nat.le_refl _) (.slice none 0 0)).setCell (p := ⟨w.heap.size, 4, none⟩) (Nat.le_refl _) (.int .i64 0)).setCell (p := ⟨w.heap.size, 5, none⟩) (Nat.le_refl _) (.int .i64 0)).setCell (p := ⟨w.heap.size, 6, none⟩) (Nat.le_refl _) (.int .i64 0)).setCell (p := ⟨w.heap.size, 7, none⟩) (Nat.le_refl _) (.int .i64 0)).setCell (p := ⟨w.heap.size, 8, none⟩) (Nat.le_refl _) (.string x))
    generalize (((((((((w1.setCell ⟨w.heap.size, 0, none⟩ (.int .i64 5)).setCell ⟨w.heap.size, 1, none⟩ (.bool false)).setCell ⟨w.heap.size, 2, none⟩ (.bool false)).setCell ⟨w.heap.size, 3, none⟩ (.slice none 0 0)).setCell ⟨w.heap.size, 4, none⟩ (.int .i64 0)).setCell ⟨w.heap.size, 5, none⟩ (.int .i64 0)).setCell ⟨w.heap.size, 6, none⟩ (.int .i64 0)).setCell ⟨w.heap.size, 7, none⟩ (.int .i64 0)).setCell ⟨w.heap.size, 8, none⟩ (.string x)) = W9 at *
    obtain ⟨r0, r1, r2, r3, r4, r5, r6, r7, r8, -, -, -, -, -, -, -, -, -, -⟩ := id R
    refine bodyPost_ret (v := .tuple #[.agg #[.int .i64 5, .bool false, .bool false, .slice none 0 0, .int .i64 0, .int .i64 0, .int .i64 0, .int .i64 0, .string x], .bool true]) (by simp [results, Tryz.results42, go_sem, r0, r1, r2, r3, r4, r5, r6, r7, r8]) rfl (gv_some (V5 x) (Own.nil _ _) BB (unhide E))

theorem tru_eq {s : ByteArray} (h : (s.toList == [116, 114, 117, 101]) = true) : s = truT true := by
  have h := beq_iff_eq.1 h
  rw [ByteArray.toList_eq] at h
  exact bytes_of h
theorem fal_eq {s : ByteArray} (h : (s.toList == [102, 97, 108, 115, 101]) = true) : s = truT false := by
  have h := beq_iff_eq.1 h
  rw [ByteArray.toList_eq] at h
  exact bytes_of h
theorem not_tru {s : ByteArray} (h : (s.toList == [116, 114, 117, 101]) = false) (k : (s.toList == [102, 97, 108, 115, 101]) = false) (y : Bool) : s ≠ truT y := by
  intro e
  cases y
  · rw [e, ByteArray.toList_eq] at k; revert k; decide
  · rw [e, ByteArray.toList_eq] at h; revert h; decide
theorem not_null {s : ByteArray} (h : (s.toList == [110, 117, 108, 108]) = false) : s ≠ ⟨#[110, 117, 108, 108]⟩ := by
  intro e
  rw [e, ByteArray.toList_eq] at h; revert h; decide
theorem none_tf {s : ByteArray} (hf : fstB s = 116 ∨ fstB s = 102) (h : (s.toList == [116, 114, 117, 101]) = false) (k : (s.toList == [102, 97, 108, 115, 101]) = false) {U : Vl} (u : VT s U) : False := by
  rcases vt_shape u with ⟨-, e⟩ | ⟨y, -, e⟩ | ⟨n, l, sc, -, a, b⟩ | ⟨d, -, -, e⟩ | ⟨mo, da, -, -, e⟩ | ⟨t, -, -, e⟩
  · rw [e, fst_null] at hf; omega
  · exact not_tru h k y e
  · have := num_fst a b; omega
  · rw [← e, show (⟨#[64]⟩ : ByteArray) = ⟨([64] : List UInt8).toArray⟩ from rfl, fst_cat] at hf; rcases hf with hf | hf <;> cases hf
  · rw [← e, show (⟨#[35]⟩ : ByteArray) = ⟨([35] : List UInt8).toArray⟩ from rfl, fst_cat] at hf; rcases hf with hf | hf <;> cases hf
  · rw [← e, fst_quo] at hf; omega

set_option maxHeartbeats 4000000 in
theorem get_truth (w : World) (s : ByteArray) (h : (s.toList == [110, 117, 108, 108]) = false) (h0 : 0 < s.size) (c : Nat) (hc : s[0].toNat = c) (h1 : c = 116 ∨ c = 102) : Calls Tryz.prog 42 #[.string s] w (GivesV w s) := by
  have he : s.toList.isEmpty = false := by rw [empty_size]; exact decide_eq_false (by omega)
  have HF := hide (show fstB s = c by unfold fstB; rw [dif_pos h0]; exact hc)
  have g0 : ((c : Int) == 64) = false := by rw [beq_eq_false_iff_ne]; omega
  have g1 : ((c : Int) == 35) = false := by rw [beq_eq_false_iff_ne]; omega
  have g2 : ((c : Int) == 39) = false := by rw [beq_eq_false_iff_ne]; omega
  cases ht : s.toList == [116, 114, 117, 101] with
  | true =>
    have E := hide (show VT s (V1 true) by rw [tru_eq ht]; exact vt_1 true)
    rcases h1 with h1 | h1
    · have g3 : ((c : Int) == 116) = true := by rw [beq_iff_eq]; omega
      have g4 : ((c : Int) == 102) = false := by rw [beq_eq_false_iff_ne]; omega
      clear h1
      go_enter Tryz.func42, Tryz.ntmps42
      go_wp2
      refine bodyPost_ret (v := .tuple #[.agg #[.int .i64 1, .bool true, .bool false, .slice none 0 0, .int .i64 0, .int .i64 0, .int .i64 0, .int .i64 0, .string ⟨#[]⟩], .bool true]) (by simp [results, Tryz.results42, go_sem]) rfl (gv_some (V1 true) (Own.nil _ _) ((Below.refl _ _).alloc (Nat.le_refl _) _) (unhide E))
    · have g3 : ((c : Int) == 102) = true := by rw [beq_iff_eq]; omega
      have g4 : ((c : Int) == 116) = false := by rw [beq_eq_false_iff_ne]; omega
      clear h1
      go_enter Tryz.func42, Tryz.ntmps42
      go_wp2
      refine bodyPost_ret (v := .tuple #[.agg #[.int .i64 1, .bool true, .bool false, .slice none 0 0, .int .i64 0, .int .i64 0, .int .i64 0, .int .i64 0, .string ⟨#[]⟩], .bool true]) (by simp [results, Tryz.results42, go_sem]) rfl (gv_some (V1 true) (Own.nil _ _) ((Below.refl _ _).alloc (Nat.le_refl _) _) (unhide E))
  | false =>
    cases hf : s.toList == [102, 97, 108, 115, 101] with
    | true =>
      have E := hide (show VT s (V1 false) by rw [fal_eq hf]; exact vt_1 false)
      rcases h1 with h1 | h1
      · have g3 : ((c : Int) == 116) = true := by rw [beq_iff_eq]; omega
        have g4 : ((c : Int) == 102) = false := by rw [beq_eq_false_iff_ne]; omega
        clear h1
        go_enter Tryz.func42, Tryz.ntmps42
        go_wp2
        refine bodyPost_ret (v := .tuple #[.agg #[.int .i64 1, .bool false, .bool false, .slice none 0 0, .int .i64 0, .int .i64 0, .int .i64 0, .int .i64 0, .string ⟨#[]⟩], .bool true]) (by simp [results, Tryz.results42, go_sem]) rfl (gv_some (V1 false) (Own.nil _ _) ((Below.refl _ _).alloc (Nat.le_refl _) _) (unhide E))
      · have g3 : ((c : Int) == 102) = true := by rw [beq_iff_eq]; omega
        have g4 : ((c : Int) == 116) = false := by rw [beq_eq_false_iff_ne]; omega
        clear h1
        go_enter Tryz.func42, Tryz.ntmps42
        go_wp2
        refine bodyPost_ret (v := .tuple #[.agg #[.int .i64 1, .bool false, .bool false, .slice none 0 0, .int .i64 0, .int .i64 0, .int .i64 0, .int .i64 0, .string ⟨#[]⟩], .bool true]) (by simp [results, Tryz.results42, go_sem]) rfl (gv_some (V1 false) (Own.nil _ _) ((Below.refl _ _).alloc (Nat.le_refl _) _) (unhide E))
    | false =>
      have E := hide (fun U (u : VT s U) => none_tf (by rw [unhide HF]; exact h1) ht hf u)
      rcases h1 with h1 | h1
      · have g3 : ((c : Int) == 116) = true := by rw [beq_iff_eq]; omega
        have g4 : ((c : Int) == 102) = false := by rw [beq_eq_false_iff_ne]; omega
        clear h1
        go_enter Tryz.func42, Tryz.ntmps42
        go_wp2
        refine bodyPost_ret (v := .tuple #[.agg #[.int .i64 0, .bool false, .bool false, .slice none 0 0, .int .i64 0, .int .i64 0, .int .i64 0, .int .i64 0, .string ⟨#[]⟩], .bool false]) (by simp [results, Tryz.results42, go_sem]) rfl (gv_none ((Below.refl _ _).alloc (Nat.le_refl _) _) (unhide E))
      · have g3 : ((c : Int) == 102) = true := by rw [beq_iff_eq]; omega
        have g4 : ((c : Int) == 116) = false := by rw [beq_eq_false_iff_ne]; omega
        clear h1
        go_enter Tryz.func42, Tryz.ntmps42
        go_wp2
        refine bodyPost_ret (v := .tuple #[.agg #[.int .i64 0, .bool false, .bool false, .slice none 0 0, .int .i64 0, .int .i64 0, .int .i64 0, .int .i64 0, .string ⟨#[]⟩], .bool false]) (by simp [results, Tryz.results42, go_sem]) rfl (gv_none ((Below.refl _ _).alloc (Nat.le_refl _) _) (unhide E))

theorem l4Num_any (w : World) (n : Bool) (ao : Option Addr) (N cap : Nat) (sc : Int) : Calls Tryz.prog 84 #[.agg #[.bool n, .slice ao N cap, .int .i64 sc]] w fun e w' => e = .returned (.agg #[.int .i64 2, .bool false, .bool n, .slice ao N cap, .int .i64 sc, .int .i64 0, .int .i64 0, .int .i64 0, .string ⟨#[]⟩]) ∧ Below w.heap.size w w' := by
  go_enter Tryz.func84, Tryz.ntmps84
  go_wp2
  refine bodyPost_ret (v := .agg #[.int .i64 2, .bool false, .bool n, .slice ao N cap, .int .i64 sc, .int .i64 0, .int .i64 0, .int .i64 0, .string ⟨#[]⟩]) (by simp [results, Tryz.results84, go_sem]) rfl ⟨rfl, ?_⟩
  exact ((Below.refl _ _).alloc (Nat.le_refl _) _).alloc (by simp) _

set_option maxHeartbeats 4000000 in
theorem get_num (w : World) (s : ByteArray) (hs : s.size ≤ 2000000) (h : (s.toList == [110, 117, 108, 108]) = false) (h0 : 0 < s.size) (c : Nat) (hc : s[0].toNat = c) (k0 : c ≠ 64) (k1 : c ≠ 35) (k2 : c ≠ 39) (k3 : c ≠ 116) (k4 : c ≠ 102) : Calls Tryz.prog 42 #[.string s] w (GivesV w s) := by
  have he : s.toList.isEmpty = false := by rw [empty_size]; exact decide_eq_false (by omega)
  have hf : fstB s = c := by unfold fstB; rw [dif_pos h0]; exact hc
  have g0 : ((c : Int) == 64) = false := by rw [beq_eq_false_iff_ne]; omega
  have g1 : ((c : Int) == 35) = false := by rw [beq_eq_false_iff_ne]; omega
  have g2 : ((c : Int) == 39) = false := by rw [beq_eq_false_iff_ne]; omega
  have g3 : ((c : Int) == 116) = false := by rw [beq_eq_false_iff_ne]; omega
  have g4 : ((c : Int) == 102) = false := by rw [beq_eq_false_iff_ne]; omega
  obtain ⟨d, hd⟩ := dot_is (restB s)
  have C := fun W => l2Get_any W s d hd (by unfold maxLen; omega)
  obtain ⟨O, hO⟩ : ∃ O, dgetR (negB s) ((restB s).extract 0 d) (partOf (restB s) d) (decide (d < (restB s).size)) = O := ⟨_, rfl⟩
  have HG := num_get hd hO
  rw [hO] at C
  have HY := hide (fun (k : O.2.2.2 = true) => vt_2 (HG.1 k).1 (HG.1 k).2)
  have HN := hide (fun (k : O.2.2.2 = false) U (u : VT s U) => show False by
    obtain ⟨n, l, sc, -, a, b⟩ := one_2 (not_null h) (fun y e => by rw [e, fst_tru] at hf; split at hf <;> omega) (by rw [Bool.eq_false_iff]; intro q; have := atB_iff.1 q; omega) (by rw [Bool.eq_false_iff]; intro q; have := hashB_iff.1 q; omega) (by rw [Bool.eq_false_iff]; intro q; have := quotB_iff.1 q; omega) u
    have := HG.2.2 n l sc a b
    rw [this] at k
    cases k)
  clear hO HG hf k0 k1 k2 k3 k4 hd
  have C := hide C
  obtain ⟨on, ol, os, ok⟩ := O
  have K0 := V9.new w (.int .i64 0) (.bool false) (.bool false) (.slice none 0 0) (.int .i64 0) (.int .i64 0) (.int .i64 0) (.int .i64 0) (.string ⟨#[]⟩) 31
  have B0 : Below w.heap.size w (w.alloc (.cells #[.int .i64 0, .bool false, .bool false, .slice none 0 0, .int .i64 0, .int .i64 0, .int .i64 0, .int .i64 0, .string ⟨#[]⟩] 31)) := (Below.refl _ _).alloc (Nat.le_refl _) _
  go_enter Tryz.func42, Tryz.ntmps42
  go_wp2_with fail
  refine (unhide C _).mono ?_
  rintro e w1 ⟨ao, cap, rfl, o1, b1⟩
  have K1 := K0.later b1
  have B1 := B0.trans (b1.mono B0.size)
  clear C K0 B0 b1
  obtain ⟨c0, c1, c2, c3, c4, c5, c6, c7, c8, f0, f1, f2, f3, f4, f5, f6, f7, f8, lt9⟩ := id K1
  cases ok
  · have E := hide (unhide HN rfl)
    clear HN HY o1
    go_wp2
    have R := (((((((((K1.put0 (.int .i64 0)).put1 (.bool false)).put2 (.bool false)).put3 (.slice none 0 0)).put4 (.int .i64 0)).put5 (.int .i64 0)).put6 (.int .i64 0)).put7 (.int .i64 0)).put8 (.string ⟨#[]⟩))
    have BB := (((((((((B1.setCell (p := ⟨w.heap.size, 0, none⟩) (Nat.le_refl _) (.int .i64 0)).setCell (p := ⟨w.heap.size, 1, none⟩) (Nat.le_refl _) (.bool false)).setCell (p := ⟨w.heap.size, 2, none⟩) (Nat.le_refl _) (.bool false)).setCell (p := ⟨w.heap.size, 3, none⟩) (Nat.le_refl _) (.slice none 0 0)).setCell (p := ⟨w.heap.size, 4, none⟩) (Nat.le_refl _) (.int .i64 0)).setCell (p := ⟨w.heap.size, 5, none⟩) (Nat.le_refl _) (.int .i64 0)).setCell (p := ⟨w.heap.size, 6, none⟩) (Nat.le_refl _) (.int .i64 0)).setCell (p := ⟨w.heap.size, 7, none⟩) (Nat.le_refl _) (.int .i64 0)).setCell (p := ⟨w.heap.size, 8, none⟩) (Nat.le_refl _) (.string ⟨#[]⟩))
    generalize (((((((((w1.setCell ⟨w.heap.size, 0, none⟩ (.int .i64 0)).setCell ⟨w.heap.size, 1, none⟩ (.bool false)).setCell ⟨w.heap.size, 2, none⟩ (.bool false)).setCell ⟨w.heap.size, 3, none⟩ (.slice none 0 0)).setCell ⟨w.heap.size, 4, none⟩ (.int .i64 0)).setCell ⟨w.heap.size, 5, none⟩ (.int .i64 0)).setCell ⟨w.heap.size, 6, none⟩ (.int .i64 0)).setCell ⟨w.heap.size, 7, none⟩ (.int .i64 0)).setCell ⟨w.heap.size, 8, none⟩ (.string ⟨#[]⟩)) = W9 at *
    have R := R.later ((Below.refl _ _).alloc (Nat.le_refl _) (.cells #[.bool on, .slice ao ol.length cap, .int .i64 os] 27))
    have BB := BB.alloc BB.size (.cells #[.bool on, .slice ao ol.length cap, .int .i64 os] 27)
    obtain ⟨r0, r1, r2, r3, r4, r5, r6, r7, r8, -, -, -, -, -, -, -, -, -, -⟩ := id R
    refine bodyPost_ret (v := .tuple #[.agg #[.int .i64 0, .bool false, .bool false, .slice none 0 0, .int .i64 0, .int .i64 0, .int .i64 0, .int .i64 0, .string ⟨#[]⟩], .bool false]) (by simp [results, Tryz.results42, go_sem, r0, r1, r2, r3, r4, r5, r6, r7, r8]) rfl (gv_none BB (unhide E))
  · have E := hide (unhide HY rfl)
    clear HN HY c0 c1 c2 c3 c4 c5 c6 c7 c8 f0 f1 f2 f3 f4 f5 f6 f7 f8 lt9
    have K2 := K1.later ((Below.refl _ _).alloc (Nat.le_refl _) (.cells #[.bool on, .slice ao ol.length cap, .int .i64 os] 27))
    have B2 := B1.alloc B1.size (.cells #[.bool on, .slice ao ol.length cap, .int .i64 os] 27)
    have o2 := (o1.later ((Below.refl _ _).alloc (Nat.le_refl _) (.cells #[.bool on, .slice ao ol.length cap, .int .i64 os] 27))).mono (B' := w.heap.size + 1) (by simp)
    clear K1 B1 o1
    go_wp2_with fail
    refine (l4Num_any _ on ao ol.length cap os).mono ?_
    rintro e w3 ⟨rfl, b3⟩
    have K3 := K2.later b3
    have B3 := B2.trans (b3.mono B2.size)
    have o3 := o2.later b3
    clear K2 B2 o2 b3
    obtain ⟨c0, c1, c2, c3, c4, c5, c6, c7, c8, f0, f1, f2, f3, f4, f5, f6, f7, f8, lt9⟩ := id K3
    go_wp2
    have R := (((((((((K3.put0 (.int .i64 2)).put1 (.bool false)).put2 (.bool on)).put3 (.slice ao ol.length cap)).put4 (.int .i64 os)).put5 (.int .i64 0)).put6 (.int .i64 0)).put7 (.int .i64 0)).put8 (.string ⟨#[]⟩))
    have BB := (((((((((B3.setCell (p := ⟨w.heap.size, 0, none⟩) (Nat.le_refl _) (.int .i64 2)).setCell (p := ⟨w.heap.size, 1, none⟩) (Nat.le_refl _) (.bool false)).setCell (p := ⟨w.heap.size, 2, none⟩) (Nat.le_refl _) (.bool on)).setCell (p := ⟨w.heap.size, 3, none⟩) (Nat.le_refl _) (.slice ao ol.length cap)).setCell (p := ⟨w.heap.size, 4, none⟩) (Nat.le_refl _) (.int .i64 os)).setCell (p := ⟨w.heap.size, 5, none⟩) (Nat.le_refl _) (.int .i64 0)).setCell (p := ⟨w.heap.size, 6, none⟩) (Nat.le_refl _) (.int .i64 0)).setCell (p := ⟨w.heap.size, 7, none⟩) (Nat.le_refl _) (.int .i64 0)).setCell (p := ⟨w.heap.size, 8, none⟩) (Nat.le_refl _) (.string ⟨#[]⟩))
    have OO := (((((((((o3.setBelow (a := ⟨w.heap.size, 0, none⟩) (Nat.lt_succ_self _) (.int .i64 2)).setBelow (a := ⟨w.heap.size, 1, none⟩) (Nat.lt_succ_self _) (.bool false)).setBelow (a := ⟨w.heap.size, 2, none⟩) (Nat.lt_succ_self _) (.bool on)).setBelow (a := ⟨w.heap.size, 3, none⟩) (Nat.lt_succ_self _) (.slice ao ol.length cap)).setBelow (a := ⟨w.heap.size, 4, none⟩) (Nat.lt_succ_self _) (.int .i64 os)).setBelow (a := ⟨w.heap.size, 5, none⟩) (Nat.lt_succ_self _) (.int .i64 0)).setBelow (a := ⟨w.heap.size, 6, none⟩) (Nat.lt_succ_self _) (.int .i64 0)).setBelow (a := ⟨w.heap.size, 7, none⟩) (Nat.lt_succ_self _) (.int .i64 0)).setBelow (a := ⟨w.heap.size, 8, none⟩) (Nat.lt_succ_self _) (.string ⟨#[]⟩))
    generalize (((((((((w3.setCell ⟨w.heap.size, 0, none⟩ (.int .i64 2)).setCell ⟨w.heap.size, 1, none⟩ (.bool false)).setCell ⟨w.heap.size, 2, none⟩ (.bool on)).setCell ⟨w.heap.size, 3, none⟩ (.slice ao ol.length cap)).setCell ⟨w.heap.size, 4, none⟩ (.int .i64 os)).setCell ⟨w.heap.size, 5, none⟩ (.int .i64 0)).setCell ⟨w.heap.size, 6, none⟩ (.int .i64 0)).setCell ⟨w.heap.size, 7, none⟩ (.int .i64 0)).setCell ⟨w.heap.size, 8, none⟩ (.string ⟨#[]⟩)) = W9 at *
    obtain ⟨r0, r1, r2, r3, r4, r5, r6, r7, r8, -, -, -, -, -, -, -, -, -, -⟩ := id R
    refine bodyPost_ret (v := .tuple #[.agg #[.int .i64 2, .bool false, .bool on, .slice ao ol.length cap, .int .i64 os, .int .i64 0, .int .i64 0, .int .i64 0, .string ⟨#[]⟩], .bool true]) (by simp [results, Tryz.results42, go_sem, r0, r1, r2, r3, r4, r5, r6, r7, r8]) rfl (gv_some (V2 on ol os) (OO.mono (Nat.le_succ _)) BB (unhide E))

theorem l4Get_any (w : World) (s : ByteArray) (hs : s.size ≤ 2000000) : Calls Tryz.prog 42 #[.string s] w (GivesV w s) := by
  cases h : s.toList == [110, 117, 108, 108] with
  | true => exact get_null w s h
  | false =>
    by_cases h0 : s.size = 0
    · exact get_empty w s h h0
    have hp : 0 < s.size := by omega
    by_cases k0 : s[0].toNat = 64
    · exact get_day w s hs h hp k0
    by_cases k1 : s[0].toNat = 35
    · exact get_span w s hs h hp k1
    by_cases k2 : s[0].toNat = 39
    · exact get_quote w s hs h hp k2
    by_cases k3 : s[0].toNat = 116
    · exact get_truth w s h hp _ rfl (.inl k3)
    by_cases k4 : s[0].toNat = 102
    · exact get_truth w s h hp _ rfl (.inr k4)
    exact get_num w s hs h hp _ rfl k0 k1 k2 k3 k4

end Go.Proofs.YtdklikicngmkbaaGreatDoor
