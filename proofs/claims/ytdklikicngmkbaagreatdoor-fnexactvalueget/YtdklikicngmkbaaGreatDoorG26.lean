/- A text between quotes that is read: how far. Plain mathematics. A text between quotes that is read: the specification's l4Unquote, by a contract. -/
import Derived.Test.YtdklikicngmkbaaGreatDoorVgM
namespace Go.Proofs.YtdklikicngmkbaaGreatDoor
open Go.RowKit
set_option linter.unusedSimpArgs false
set_option linter.unusedVariables false

/-- What was read up to a place, and what it says. -/
def UQ (s : ByteArray) (i : Nat) (o : ByteArray) : Prop := s.data.toList.take i = 39 :: dbl o.data.toList

theorem quo_list (t : ByteArray) : (quoteT t).data.toList = 39 :: (dbl t.data.toList ++ [39]) := rfl

theorem uq_start {s : ByteArray} (hs : quotB s = true) : UQ s 1 ⟨#[]⟩ := by
  have h := cat_fst (c := 39) (quotB_iff.1 hs) (by decide)
  unfold UQ
  have e := congrArg (fun x : ByteArray => x.data.toList) h
  simp only [ByteArray.data_append, Array.toList_append] at e
  rw [← e]
  rfl

theorem byte_at {s : ByteArray} {i : Nat} (h : i < s.size) {c : UInt8} (hc : s[i].toNat = c.toNat) : s.data.toList[i]'(by simpa using h) = c := by
  rw [bytes_at s i h]
  exact UInt8.toNat_inj.1 hc

theorem o_snoc (o : ByteArray) {s : ByteArray} {i : Nat} (h : i < s.size) : (o ++ s.extract i (i + 1)).data.toList = o.data.toList ++ [s.data.toList[i]'(by simpa using h)] := by
  rw [q_one h, ByteArray.data_append, Array.toList_append, bytes_at s i h]

theorem uq_other {s o : ByteArray} {i : Nat} (h : UQ s i o) (hi : i < s.size) (hc : s[i].toNat ≠ 39) : UQ s (i + 1) (o ++ s.extract i (i + 1)) := by
  unfold UQ at *
  have hl : i < s.data.toList.length := by simpa using hi
  have hne : s.data.toList[i] ≠ (39 : UInt8) := fun q => hc (by rw [← bytes_at s i hi, q]; rfl)
  rw [List.take_succ_eq_append_getElem hl, h, o_snoc o hi, dbl_app, dbl_o hne, dbl_nil]
  rfl

theorem uq_two {s o : ByteArray} {i : Nat} (h : UQ s i o) (hi : i + 1 < s.size) (hc : s[i].toNat = 39) (hd : s[i + 1].toNat = 39) : UQ s (i + 1 + 1) (o ++ s.extract (i + 1) (i + 1 + 1)) := by
  unfold UQ at *
  have hl : i < s.data.toList.length := by simp; omega
  have hl1 : i + 1 < s.data.toList.length := by simpa using hi
  have e0 := byte_at (c := 39) (show i < s.size by omega) hc
  have e1 := byte_at (c := 39) hi hd
  rw [List.take_succ_eq_append_getElem hl1, List.take_succ_eq_append_getElem hl, h, o_snoc o hi, e0, e1, dbl_app, dbl_q, dbl_nil]
  simp

theorem uq_nxt {t o : List UInt8} {j : Nat} (h : (dbl t ++ [39]).take j = dbl o) (hj : j < (dbl t).length) (hc : (dbl t)[j] = 39) : ∃ k : j + 1 < (dbl t).length, (dbl t)[j + 1] = 39 := by
  rw [List.take_append_of_le_length (by omega)] at h
  have e : dbl t = dbl o ++ (dbl t).drop j := by rw [← h, List.take_append_drop]
  obtain ⟨t', h1, -⟩ := dbl_split o t _ e
  have h2 := List.drop_eq_getElem_cons hj
  rw [hc] at h2
  obtain ⟨R', h3⟩ := dbl_odd (h1.symm.trans h2)
  have hk : j + 1 < (dbl t).length := by
    apply Classical.byContradiction
    intro k
    rw [List.drop_of_length_le (by omega)] at h3
    cases h3
  refine ⟨hk, ?_⟩
  have h4 := List.drop_eq_getElem_cons hk
  rw [h3] at h4
  exact (List.cons.inj h4).1.symm

theorem quo_size (t : ByteArray) : (quoteT t).size = (dbl t.data.toList).length + 2 := by
  have := congrArg List.length (quo_list t)
  simpa using this

theorem uq_next {s o t : ByteArray} {i : Nat} (h : UQ s i o) (ht : quoteT t = s) (hi : i + 1 < s.size) (h0 : 0 < i) (hc : s[i].toNat = 39) : i + 1 + 1 < s.size ∧ ∀ k : i + 1 < s.size, s[i + 1].toNat = 39 := by
  unfold UQ at h
  obtain ⟨j, rfl⟩ : ∃ j, i = j + 1 := ⟨i - 1, by omega⟩
  have e0 := byte_at (c := 39) (show j + 1 < s.size by omega) hc
  have zn : s.size = (dbl t.data.toList).length + 2 := by rw [← ht, quo_size]
  have sl : s.data.toList = 39 :: (dbl t.data.toList ++ [39]) := by rw [← ht, quo_list]
  have g : ∀ (k : Nat) (hk : k < (dbl t.data.toList).length) (hk2 : k + 1 < s.data.toList.length), s.data.toList[k + 1] = (dbl t.data.toList)[k] := fun k hk hk2 => by
    simp only [sl, List.getElem_cons_succ]
    rw [List.getElem_append_left hk]
  rw [sl, List.take_succ_cons, List.cons.injEq] at h
  have hj : j < (dbl t.data.toList).length := by omega
  obtain ⟨k, e1⟩ := uq_nxt h.2 hj (by rw [← g j hj (by simp; omega)]; exact e0)
  refine ⟨by omega, fun k2 => ?_⟩
  rw [← bytes_at s _ k2, g (j + 1) k (by simp; omega), e1]
  rfl

theorem uq_end {s o : ByteArray} {n : Nat} (h : UQ s n o) (hn : s.size = n + 1) (hc : ∀ k : n < s.size, s[n].toNat = 39) : quoteT o = s := by
  unfold UQ at h
  refine bytes_eqD ?_
  have hl : n < s.data.toList.length := by simp; omega
  have e : s.data.toList = s.data.toList.take n ++ [s.data.toList[n]] := by
    rw [← List.take_succ_eq_append_getElem hl, List.take_of_length_le (by simp; omega)]
  rw [quo_list, e, h, byte_at (c := 39) (by omega) (hc (by omega))]
  rfl

theorem uq_last {s t : ByteArray} {n : Nat} (ht : quoteT t = s) (hn : s.size = n + 1) : 1 ≤ n ∧ ∀ k : n < s.size, s[n].toNat = 39 := by
  have zn : s.size = (dbl t.data.toList).length + 2 := by rw [← ht, quo_size]
  refine ⟨by omega, fun k => ?_⟩
  have sl : s.data.toList = 39 :: (dbl t.data.toList ++ [39]) := by rw [← ht, quo_list]
  rw [← bytes_at s _ k]
  simp only [sl]
  obtain ⟨m, rfl⟩ : ∃ m, n = m + 1 := ⟨n - 1, by omega⟩
  rw [List.getElem_cons_succ, List.getElem_append_right (by omega)]
  simp

theorem quote_inj {a b : ByteArray} (h : quoteT a = quoteT b) : a = b := by
  have q3 := congrArg (fun x : ByteArray => x.data.toList) h
  simp only [quo_list, List.cons.injEq, true_and, List.append_cancel_right_eq] at q3
  exact bytes_eqD (dbl_inj q3)

theorem uq_size {s o : ByteArray} {i : Nat} (h : UQ s i o) : o.size ≤ i := by
  unfold UQ at h
  have e := congrArg List.length h
  have hd : ∀ l : List UInt8, l.length ≤ (dbl l).length := fun l => by
    induction l with
    | nil => exact Nat.zero_le _
    | cons x r ih =>
      by_cases e : x = 39
      · subst e; rw [dbl_q]; simp; omega
      · rw [dbl_o e]; simp; omega
  have := hd o.data.toList
  rw [List.length_take, List.length_cons] at e
  have : o.data.toList.length = o.size := by simp
  omega

/-- What l4Unquote answers. -/
def GivesU (w : World) (s : ByteArray) (e : Ending) (w' : World) : Prop :=
  ∃ (x : ByteArray) (ok : Bool), e = .returned (.tuple #[.string x, .bool ok]) ∧ Below w.heap.size w w' ∧ ((ok = true ∧ textB x = true ∧ quoteT x = s) ∨ (ok = false ∧ ∀ t, textB t = true → quoteT t ≠ s))

end Go.Proofs.YtdklikicngmkbaaGreatDoor

namespace Go.Proofs.YtdklikicngmkbaaGreatDoor
open Go.RowKit
set_option maxRecDepth 100000
set_option linter.unusedSimpArgs false
set_option linter.unusedVariables false

theorem gu_no {w w' : World} {s x : ByteArray} (b : Below w.heap.size w w') (h : ∀ t, textB t = true → quoteT t ≠ s) : GivesU w s (.returned (.tuple #[.string x, .bool false])) w' := ⟨x, false, rfl, b, .inr ⟨rfl, h⟩⟩
theorem gu_yes {w w' : World} {s x : ByteArray} (b : Below w.heap.size w w') (h : textB x = true) (k : quoteT x = s) : GivesU w s (.returned (.tuple #[.string x, .bool true])) w' := ⟨x, true, rfl, b, .inl ⟨rfl, h, k⟩⟩

set_option maxHeartbeats 2000000 in
theorem l4Unquote_any (w : World) (s : ByteArray) (hs : s.size ≤ 2000000) (hq : quotB s = true) :
    Calls Tryz.prog 82 #[.string s] w (GivesU w s) := by
  have hp : 0 < s.size := by
    apply Nat.pos_of_ne_zero
    intro z
    have := quotB_iff.1 hq
    unfold fstB at this
    rw [dif_neg (by omega)] at this
    omega
  obtain ⟨n, hn⟩ : ∃ n, s.size = n + 1 := ⟨s.size - 1, by omega⟩
  have hn' : n < s.size := by omega
  have hw0 : IntKind.i64.wrap ((s.size : Int) - 1) = (n : Int) := by rw [IntKind.wrap_i64]; omega
  have hw1 : (s.size : Int) - 1 = (n : Int) := by omega
  have HS := hide (uq_start hq)
  have h39 : s[0].toNat = 39 := by
    have := quotB_iff.1 hq
    unfold fstB at this
    rw [dif_pos hp] at this
    exact this
  have HL := hide (fun t (ht : quoteT t = s) => uq_last ht hn)
  have HEnd := hide (fun o (h : UQ s n o) hc => uq_end h hn hc)
  clear hq
  have HZ := hide hn
  have hlen : (s.size : Int) = (n : Int) + 1 := by omega
  clear hn
  go_enter Tryz.func82, Tryz.ntmps82
  go_wp2
  go_loopw [4, 5] (fun oo ii wr => ∃ (i : Nat) (q : ByteArray), ii = .int .i64 i ∧ oo = .string q ∧ 1 ≤ i ∧ (i ≤ n ∨ i = 1) ∧ Hid (UQ s i q) ∧ q.size ≤ i ∧ Below w.heap.size w wr) (fun _ ii _ => s.size - (intOf ii).toNat)
  case atStart => exact ⟨1, _, rfl, rfl, Nat.le_refl _, .inr rfl, HS, by decide, Below.refl _ _⟩
  case round =>
    obtain ⟨i, q, rfl, rfl, h1i, hi, hq, hz, hbel⟩ := hrel
    by_cases h : i < n
    · have w5 : IntKind.i64.wrap ((i : Int) + 1) = (i : Int) + 1 := by rw [IntKind.wrap_i64]; omega
      have w6 : IntKind.i64.wrap ((i : Int) + 1 + 1) = (i : Int) + 1 + 1 := by rw [IntKind.wrap_i64]; omega
      have hlt : i < s.size := by omega
      have hlt1 : i + 1 < s.size := by omega
      have f0 : decide ((i : Int) < (n : Int)) = true := decide_eq_true (by omega)
      have k3 : (0 : Int) ≤ (i : Int) := by omega
      have k4 : (0 : Int) ≤ (i : Int) + 1 := by omega
      have z1 : ¬ (9223372036854775807 < q.size + 1) := by omega
      obtain ⟨c, hc⟩ : ∃ c, s[i].toNat = c := ⟨_, rfl⟩
      obtain ⟨c1, hc1⟩ : ∃ c1, s[i + 1].toNat = c1 := ⟨_, rfl⟩
      have HC := hide hc
      have HC1 := hide hc1
      by_cases h1 : c = 39
      · have t1 : ((c : Int) == 39) = true := by simp [h1]
        have HNX := hide (fun t (ht : quoteT t = s) => uq_next (unhide hq) ht hlt1 (by omega) (by rw [unhide HC]; exact h1))
        by_cases h2 : i + 1 < n
        · have f1 : decide ((n : Int) ≤ (i : Int) + 1) = false := decide_eq_false (by omega)
          by_cases h3 : c1 = 39
          · have t2 : ((c1 : Int) != 39) = false := by simp [h3]
            have HQ := hide (uq_two (unhide hq) hlt1 (by rw [unhide HC]; exact h1) (by rw [unhide HC1]; exact h3))
            have xs1 : (s.extract (i + 1) (i + 1 + 1)).size = 1 := by rw [ByteArray.size_extract]; omega
            have HSz := hide (show (q ++ s.extract (i + 1) (i + 1 + 1)).size ≤ i + 1 + 1 by rw [ByteArray.size_append, xs1]; omega)
            have k1 : (i : Int) + 1 + 1 ≤ (s.size : Int) := by omega
            have k2 : (i : Int) + 1 ≤ (i : Int) + 1 + 1 := by omega
            clear h1 hq HNX h3
            go_wp2
            go_roundw
            case rel => exact ⟨i + 1 + 1, _, by simp, rfl, by omega, by omega, HQ, unhide HSz, hbel⟩
            case measure => simp only [intOf]; omega
          · have t2 : ((c1 : Int) != 39) = true := by simp; omega
            have E := hide (show ∀ t, textB t = true → quoteT t ≠ s from fun t _ ht => h3 (by rw [← unhide HC1]; exact (unhide HNX t ht).2 hlt1))
            clear h1 hq HNX h3
            go_wp2
            go_ret2
            exact gu_no hbel (unhide E)
        · have f1 : decide ((n : Int) ≤ (i : Int) + 1) = true := decide_eq_true (by omega)
          have E := hide (show ∀ t, textB t = true → quoteT t ≠ s from fun t _ ht => h2 (by have := (unhide HNX t ht).1; have := unhide HZ; omega))
          clear h1 hq HNX
          go_wp2
          go_ret2
          exact gu_no hbel (unhide E)
      · have t1 : ((c : Int) == 39) = false := by rw [beq_eq_false_iff_ne]; omega
        have HQ := hide (uq_other (unhide hq) hlt (by rw [unhide HC]; exact h1))
        have xs1 : (s.extract i (i + 1)).size = 1 := by rw [ByteArray.size_extract]; omega
        have HSz := hide (show (q ++ s.extract i (i + 1)).size ≤ i + 1 by rw [ByteArray.size_append, xs1]; omega)
        have k1 : (i : Int) + 1 ≤ (s.size : Int) := by omega
        have k2 : (i : Int) ≤ (i : Int) + 1 := by omega
        clear h1 hq
        go_wp2
        go_roundw
        case rel => exact ⟨i + 1, _, by simp, rfl, by omega, by omega, HQ, unhide HSz, hbel⟩
        case measure => simp only [intOf]; omega
    · have f0 : decide ((i : Int) < (n : Int)) = false := decide_eq_false (by omega)
      by_cases h0 : n = 0
      · have f1 : decide ((2 : Int) ≤ (s.size : Int)) = false := decide_eq_false (by omega)
        have E := hide (show ∀ t, textB t = true → quoteT t ≠ s from fun t _ ht => absurd (unhide HL t ht).1 (by omega))
        clear hq
        go_wp2
        go_ret2
        exact gu_no hbel (unhide E)
      · obtain rfl : i = n := by omega
        have f1 : decide ((2 : Int) ≤ (s.size : Int)) = true := decide_eq_true (by omega)
        obtain ⟨c, hc⟩ : ∃ c, s[i].toNat = c := ⟨_, rfl⟩
        have HC := hide hc
        by_cases h1 : c = 39
        · have t1 : ((c : Int) == 39) = true := by simp [h1]
          have HQ := hide (unhide HEnd q (unhide hq) (fun _ => by rw [unhide HC]; exact h1))
          have CT := hide (fun W => specText_any W q (by unfold maxLen; omega))
          clear h1 hq
          go_wp2_with fail
          refine (unhide CT _).mono ?_
          rintro e w2 ⟨rfl, b2⟩
          cases hb : textB q with
          | true =>
            have HB := hide hb
            clear hb CT
            go_wp2
            go_ret2
            exact gu_yes (hbel.trans (b2.mono hbel.size)) (unhide HB) (unhide HQ)
          | false =>
            have E := hide (show ∀ t, textB t = true → quoteT t ≠ s from fun t ht e => by
              have := quote_inj (e.trans (unhide HQ).symm)
              rw [this, hb] at ht
              cases ht)
            clear hb CT
            go_wp2
            go_ret2
            exact gu_no (hbel.trans (b2.mono hbel.size)) (unhide E)
        · have t1 : ((c : Int) == 39) = false := by rw [beq_eq_false_iff_ne]; omega
          have E := hide (show ∀ t, textB t = true → quoteT t ≠ s from fun t _ ht => h1 (by rw [← unhide HC]; exact (unhide HL t ht).2 hn'))
          clear h1 hq
          go_wp2
          go_ret2
          exact gu_no hbel (unhide E)

end Go.Proofs.YtdklikicngmkbaaGreatDoor
