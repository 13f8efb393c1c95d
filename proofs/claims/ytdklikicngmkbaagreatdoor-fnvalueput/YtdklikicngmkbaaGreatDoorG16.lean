/- The number of a text: the specification's l1Num and l1Int by contracts. A text that is cut at a byte: strings.Cut by a contract. -/
import Derived.Test.YtdklikicngmkbaaGreatDoorG14
import Derived.Test.YtdklikicngmkbaaGreatDoorG15
import Derived.Test.YtdklikicngmkbaaGreatDoorShelf
import Derived.Test.YtdklikicngmkbaaGreatDoorG01
import Derived.WalkKit
import Derived.WalkSmall
import Derived.Deep.QuietTactic
import Derived.BigQuiet
namespace Go.Proofs.YtdklikicngmkbaaGreatDoor
open Go.RowKit
set_option maxRecDepth 100000

theorem figV_val {s : ByteArray} : ∀ (k : Nat), k ≤ s.size → figV s 0 k = val10 (s.data.toList.take k)
  | 0, _ => by simp [figV, val10]
  | k + 1, h => by
    have hk : k < s.data.toList.length := by simp; omega
    have hb : bt s k = s.data.toList[k].toNat := by rw [bt_at (by omega)]; simp [ByteArray.getElem_eq_getElem_data]
    rw [List.take_succ_eq_append_getElem hk, val10_snoc, ← figV_val k (by omega), ← hb]
    simp [figV]

theorem areF_list {s : ByteArray} (h : AreF s 0 s.size) : ∀ c ∈ s.data.toList, IsD c := by
  intro c hc
  obtain ⟨i, hi, rfl⟩ := List.getElem_of_mem hc
  have hi' : i < s.size := by simpa using hi
  have := h i hi'
  rw [Nat.zero_add, bt_at hi'] at this
  unfold IsD
  have e : s.data.toList[i] = s[i] := by simp [ByteArray.getElem_eq_getElem_data]
  rw [e]
  exact this

theorem areF_of {s : ByteArray} (h : ∀ c ∈ s.data.toList, IsD c) : AreF s 0 s.size := by
  intro j hj
  rw [Nat.zero_add, bt_at hj]
  have e : s.data.toList[j]'(by simpa using hj) = s[j] := by simp [ByteArray.getElem_eq_getElem_data]
  have := h _ (List.getElem_mem (l := s.data.toList) (show j < s.data.toList.length by simpa using hj))
  rw [e] at this
  exact this

/-- A text is a number below 10^9. -/
def NumT (s : ByteArray) (n : Nat) : Prop := s.data.toList = Lib.decDigits n ∧ n < 10 ^ 9

theorem numT_of {s : ByteArray} (h1 : 1 ≤ s.size) (h9 : s.size ≤ 9) (ha : AreF s 0 s.size) (hl : s.size = 1 ∨ bt s 0 ≠ 48) : NumT s (figV s 0 s.size) := by
  have hs : s.data.toList.length = s.size := by simp
  have hv : figV s 0 s.size = val10 s.data.toList := by rw [figV_val _ (Nat.le_refl _)]; congr 1; rw [← hs]; exact List.take_length
  obtain ⟨e, -⟩ := dd_back (s.size - 1) s.data.toList (by omega) (areF_list ha) (by
    rcases hl with hl | hl
    · left; omega
    · right
      intro e
      apply hl
      have h0 : 0 < s.data.toList.length := by omega
      rw [bt_at (by omega)]
      have : s.data.toList[0] = s[0] := by simp [ByteArray.getElem_eq_getElem_data]
      rw [← this]
      rw [List.head?_eq_getElem?, List.getElem?_eq_getElem h0, Option.some.injEq] at e
      rw [e]
      rfl)
  rw [hv]
  refine ⟨e.symm, ?_⟩
  rw [dec_len _ 9 (by decide), e]
  omega

theorem numT_back {s : ByteArray} {n : Nat} (h : NumT s n) : 1 ≤ s.size ∧ s.size ≤ 9 ∧ AreF s 0 s.size ∧ (s.size = 1 ∨ bt s 0 ≠ 48) ∧ figV s 0 s.size = n := by
  obtain ⟨e, hn⟩ := h
  have hs : s.data.toList.length = s.size := by simp
  obtain ⟨a, b, c, d⟩ := dd_all n
  have hlen := (dec_len n 9 (by decide)).1 hn
  have hpos := dec_pos n
  rw [← e] at a b c d hlen hpos
  have hv : figV s 0 s.size = val10 s.data.toList := by rw [figV_val _ (Nat.le_refl _)]; congr 1; rw [← hs]; exact List.take_length
  refine ⟨by omega, by omega, areF_of a, ?_, by rw [hv, b]⟩
  by_cases h0 : 0 < n
  · right
    intro k
    apply d h0
    rw [bt_at (by omega)] at k
    have : s.data.toList[0] = s[0] := by simp [ByteArray.getElem_eq_getElem_data]
    rw [List.head?_eq_getElem?, List.getElem?_eq_getElem (by omega), Option.some.injEq, this]
    exact UInt8.toNat_inj.1 k
  · left
    have : n = 0 := by omega
    subst this
    rw [dd1 (by decide)] at e
    rw [← hs, e]
    rfl

set_option maxHeartbeats 1000000 in
theorem l1Num_yes (w : World) (s : ByteArray) (n : Nat) (h : NumT s n) :
    Calls Tryz.prog 178 #[.string s] w fun e w' => e = .returned (.int .i64 n) ∧ w' = w := by
  obtain ⟨h1, h9, ha, hl, hv⟩ := numT_back h
  clear h
  go_enter Tryz.func178, Tryz.ntmps178
  go_wp2
  go_loopw [3, 4] (fun nn ii wr => ∃ i k : Nat, nn = .int .i64 k ∧ ii = .int .i64 i ∧ i ≤ s.size ∧ Hid (k = figV s 0 i) ∧ wr = w) (fun _ ii _ => s.size - (intOf ii).toNat)
  case atStart => exact ⟨0, 0, rfl, rfl, Nat.zero_le _, rfl, rfl⟩
  case round =>
    obtain ⟨i, k, rfl, rfl, hi, hk, rfl⟩ := hrel
    by_cases h : i < s.size
    · have hd := ha i h
      rw [Nat.zero_add, bt_at h] at hd
      have hlt : figV s 0 i < 10 ^ i := figV_lt _ (fun j hj => ha j (by omega))
      have hp : 10 ^ i ≤ 10 ^ 8 := Nat.pow_le_pow_right (by decide) (by omega)
      have hkb : k < 10 ^ 8 := by rw [unhide hk]; omega
      have HN := hide (show k * 10 + (s[i].toNat - 48) = figV s 0 (i + 1) by
        show _ = figV s 0 i * 10 + (bt s (0 + i) - 48)
        rw [← unhide hk, Nat.zero_add, bt_at h])
      clear hlt hp
      obtain ⟨c, hc⟩ : ∃ c, s[i].toNat = c := ⟨_, rfl⟩
      rw [hc] at hd HN
      obtain ⟨h48, h57⟩ := hd
      have g1 : decide ((c : Int) < 48) = false := by simp; omega
      have g2 : decide (57 < (c : Int)) = false := by simp; omega
      have g3 : decide ((9 : Int) ≤ (i : Int)) = false := by simp; omega
      have w1 : IntKind.u8.wrap ((c : Int) - 48) = (c : Int) - 48 := by rw [IntKind.wrap_u8]; omega
      have w2 : IntKind.i64.wrap ((c : Int) - 48) = (c : Int) - 48 := by rw [IntKind.wrap_i64]; omega
      have w3 : IntKind.i64.wrap ((k : Int) * 10) = (k : Int) * 10 := by rw [IntKind.wrap_i64]; omega
      have w4 : IntKind.i64.wrap ((k : Int) * 10 + ((c : Int) - 48)) = (k : Int) * 10 + ((c : Int) - 48) := by rw [IntKind.wrap_i64]; omega
      have w5 : IntKind.i64.wrap ((i : Int) + 1) = (i : Int) + 1 := by rw [IntKind.wrap_i64]; omega
      go_wp2
      go_roundw
      case rel => exact ⟨i + 1, k * 10 + (c - 48), by simp; omega, by simp, by omega, HN, trivial⟩
      case measure => simp only [intOf]; omega
    · have e : i = s.size := by omega
      have E := hide (show k = n by rw [unhide hk, e, hv])
      have k0 : ((s.size : Int) == 0) = false := by rw [beq_eq_false_iff_ne]; omega
      by_cases k1 : s.size = 1
      · have k2 : decide ((1 : Int) < (s.size : Int)) = false := by simp; omega
        clear e k1
        go_wp2
        go_ret
        exact ⟨congrArg (fun x : Nat => Ending.returned (.int .i64 (x : Int))) (unhide E), rfl⟩
      · have k2 : decide ((1 : Int) < (s.size : Int)) = true := by simp; omega
        have hp0 : 0 < s.size := by omega
        have h48 : s[0].toNat ≠ 48 := by
          rcases hl with hl | hl
          · exact absurd hl k1
          · rwa [bt_at hp0] at hl
        have k3 : ((s[0].toNat : Int) == 48) = false := by rw [beq_eq_false_iff_ne]; omega
        clear e k1
        go_wp2
        go_ret
        exact ⟨congrArg (fun x : Nat => Ending.returned (.int .i64 (x : Int))) (unhide E), rfl⟩

set_option maxHeartbeats 1000000 in
theorem l1Num_no (w : World) (s : ByteArray) (hs : s.size ≤ maxLen) (h : ∀ n, ¬ NumT s n) :
    Calls Tryz.prog 178 #[.string s] w fun e w' => e = .returned (.int .i64 (-1)) ∧ w' = w := by
  unfold maxLen at hs
  have HN := hide (fun (a : 1 ≤ s.size) (b : s.size ≤ 9) (c : AreF s 0 s.size) (d : s.size = 1 ∨ bt s 0 ≠ 48) => h _ (numT_of a b c d))
  clear h
  go_enter Tryz.func178, Tryz.ntmps178
  go_wp2
  go_loopw [3, 4] (fun nn ii wr => ∃ i k : Nat, nn = .int .i64 k ∧ ii = .int .i64 i ∧ i ≤ s.size ∧ i ≤ 9 ∧ Hid (k = figV s 0 i ∧ AreF s 0 i) ∧ wr = w) (fun _ ii _ => s.size - (intOf ii).toNat)
  case atStart => exact ⟨0, 0, rfl, rfl, Nat.zero_le _, by omega, ⟨rfl, fun j hj => absurd hj (Nat.not_lt_zero _)⟩, rfl⟩
  case round =>
    obtain ⟨i, k, rfl, rfl, hi, hi9, hk, rfl⟩ := hrel
    by_cases h : i < s.size
    · obtain ⟨c, hc⟩ : ∃ c, s[i].toNat = c := ⟨_, rfl⟩
      by_cases h48 : c < 48
      · have g1 : decide ((c : Int) < 48) = true := by simp; omega
        clear HN
        go_wp2
        go_ret
        exact ⟨rfl, rfl⟩
      have g1 : decide ((c : Int) < 48) = false := by simp; omega
      by_cases h57 : 57 < c
      · have g2 : decide (57 < (c : Int)) = true := by simp; omega
        clear HN
        go_wp2
        go_ret
        exact ⟨rfl, rfl⟩
      have g2 : decide (57 < (c : Int)) = false := by simp; omega
      by_cases h9 : 9 ≤ i
      · have g3 : decide ((9 : Int) ≤ (i : Int)) = true := by simp; omega
        clear HN
        go_wp2
        go_ret
        exact ⟨rfl, rfl⟩
      have g3 : decide ((9 : Int) ≤ (i : Int)) = false := by simp; omega
      have hlt : figV s 0 i < 10 ^ i := figV_lt _ (unhide hk).2
      have hp : 10 ^ i ≤ 10 ^ 8 := Nat.pow_le_pow_right (by decide) (by omega)
      have hkb : k < 10 ^ 8 := by rw [(unhide hk).1]; omega
      have HK := hide (show k * 10 + (c - 48) = figV s 0 (i + 1) ∧ AreF s 0 (i + 1) by
        refine ⟨?_, fun j hj => ?_⟩
        · show _ = figV s 0 i * 10 + (bt s (0 + i) - 48)
          rw [← (unhide hk).1, Nat.zero_add, bt_at h, hc]
        · by_cases q : j < i
          · exact (unhide hk).2 j q
          · obtain rfl : j = i := by omega
            rw [Nat.zero_add, bt_at h, hc]
            omega)
      clear hlt hp
      have w1 : IntKind.u8.wrap ((c : Int) - 48) = (c : Int) - 48 := by rw [IntKind.wrap_u8]; omega
      have w2 : IntKind.i64.wrap ((c : Int) - 48) = (c : Int) - 48 := by rw [IntKind.wrap_i64]; omega
      have w3 : IntKind.i64.wrap ((k : Int) * 10) = (k : Int) * 10 := by rw [IntKind.wrap_i64]; omega
      have w4 : IntKind.i64.wrap ((k : Int) * 10 + ((c : Int) - 48)) = (k : Int) * 10 + ((c : Int) - 48) := by rw [IntKind.wrap_i64]; omega
      have w5 : IntKind.i64.wrap ((i : Int) + 1) = (i : Int) + 1 := by rw [IntKind.wrap_i64]; omega
      go_wp2
      go_roundw
      case rel => exact ⟨i + 1, k * 10 + (c - 48), by simp; omega, by simp, by omega, by omega, HK, trivial⟩
      case measure => simp only [intOf]; omega
    · have e : i = s.size := by omega
      have ha : AreF s 0 s.size := by rw [← e]; exact (unhide hk).2
      by_cases k0 : s.size = 0
      · have k1 : ((s.size : Int) == 0) = true := by simp [k0]
        clear e ha HN k0
        go_wp2
        go_ret
        exact ⟨rfl, rfl⟩
      have k1 : ((s.size : Int) == 0) = false := by rw [beq_eq_false_iff_ne]; omega
      have hp0 : 0 < s.size := by omega
      have k2 : decide ((1 : Int) < (s.size : Int)) = true := by
        by_cases q : s.size = 1
        · exact (unhide HN (by omega) (by omega) ha (.inl q)).elim
        · simp; omega
      have k3 : ((s[0].toNat : Int) == 48) = true := by
        by_cases q : bt s 0 = 48
        · rw [bt_at hp0] at q
          simp [q]
        · exact (unhide HN (by omega) (by omega) ha (.inr q)).elim
      clear e ha HN k0
      go_wp2
      go_ret
      exact ⟨rfl, rfl⟩

end Go.Proofs.YtdklikicngmkbaaGreatDoor

namespace Go.Proofs.YtdklikicngmkbaaGreatDoor
open Go.RowKit
set_option maxRecDepth 100000

/-- The place of the first dot; the size, if there is none. -/
def CAt (c : UInt8) (s : ByteArray) (d : Nat) : Prop := d ≤ s.size ∧ (∀ j (h : j < s.size), j < d → s[j].toNat ≠ c.toNat) ∧ (∀ h : d < s.size, s[d].toNat = c.toNat)

theorem CAt.same {c : UInt8} {s : ByteArray} {d e : Nat} (h : CAt c s d) (k : CAt c s e) : d = e := by
  obtain ⟨h1, h2, h3⟩ := h
  obtain ⟨k1, k2, k3⟩ := k
  rcases Nat.lt_trichotomy d e with c | c | c
  · exact absurd (h3 (by omega)) (k2 d (by omega) c)
  · exact c
  · exact absurd (k3 (by omega)) (h2 e (by omega) c)

theorem cat_is (c : UInt8) (s : ByteArray) : ∃ d, CAt c s d := by
  have key : ∀ n, n ≤ s.size → (∃ d, CAt c s d) ∨ ∀ j (h : j < s.size), j < n → s[j].toNat ≠ c.toNat := by
    intro n
    induction n with
    | zero => intro _; exact .inr (fun j _ h => absurd h (Nat.not_lt_zero _))
    | succ n ih =>
      intro hn
      rcases ih (by omega) with h | h
      · exact .inl h
      · by_cases e : s[n].toNat = c.toNat
        · exact .inl ⟨n, by omega, h, fun _ => e⟩
        · refine .inr (fun j hj hjn => ?_)
          by_cases c : j < n
          · exact h j hj c
          · obtain rfl : j = n := by omega
            exact e
  rcases key s.size (Nat.le_refl _) with h | h
  · exact h
  · exact ⟨s.size, Nat.le_refl _, h, fun k => absurd k (Nat.lt_irrefl _)⟩

theorem ix_cat {c : UInt8} {s : ByteArray} {d : Nat} (h : CAt c s d) : Lib.indexByte s.data.toList c = if d < s.size then (d : Int) else -1 := by
  have hl : s.data.toList.length = s.size := by simp
  have hge := Lib.indexByte_ge s.data.toList c
  have at_ : ∀ k (hk : k < s.size), s.data.toList[k]? = some s[k] := fun k hk => by rw [List.getElem?_eq_getElem (by omega)]; simp [ByteArray.getElem_eq_getElem_data]
  by_cases hv : Lib.indexByte s.data.toList c = -1
  · rw [hv, if_neg]
    intro hd
    have := Lib.indexByte_none hv d
    rw [at_ d hd] at this
    exact this (congrArg some (UInt8.toNat_inj.1 (h.2.2 hd)))
  · obtain ⟨o, ho⟩ := Int.eq_ofNat_of_zero_le (show 0 ≤ Lib.indexByte s.data.toList c by omega)
    obtain ⟨k1, k2⟩ := Lib.indexByte_some ho
    have hos : o < s.size := by
      have := (List.getElem?_eq_some_iff.1 k1).1
      omega
    have hD : CAt c s o := by
      refine ⟨by omega, fun j hj hjo e => ?_, fun _ => ?_⟩
      · apply k2 j hjo
        rw [at_ j hj]
        exact congrArg some (UInt8.toNat_inj.1 e)
      · rw [at_ o hos] at k1
        have := Option.some.inj k1
        rw [this]
    obtain rfl := h.same hD
    rw [ho, if_pos hos]

/-- What stands behind the dot. -/
def partC (s : ByteArray) (d : Nat) : ByteArray := if d < s.size then s.extract (d + 1) s.size else ⟨#[]⟩

theorem liteCutC_any (w : World) (c : UInt8) (s : ByteArray) (d : Nat) (hd : CAt c s d) (hs : s.size ≤ maxLen) :
    Calls Tryz.prog 170 #[.string s, .string ⟨#[c]⟩] w fun e w' => e = .returned (.tuple #[.string (s.extract 0 d), .string (partC s d), .bool (decide (d < s.size))]) ∧ Below w.heap.size w w' := by
  unfold maxLen at hs
  have C := hide (fun W => Tryz.stringslite_Index_one s c W)
  rw [ix_cat hd] at C
  have hle := hd.1
  clear hd
  by_cases h : d < s.size
  · rw [if_pos h] at C
    have HP := hide (show partC s d = s.extract (d + 1) s.size by unfold partC; rw [if_pos h])
    have HB := hide (show decide (d < s.size) = true by simpa using h)
    have hk1 : (d : Int) + 1 ≤ (s.size : Int) := by omega
    have hk2 : (0 : Int) ≤ (d : Int) + 1 := by omega
    have hk3 : IntKind.i64.wrap ((d : Int) + 1) ≤ (s.size : Int) := by rw [IntKind.wrap_i64]; omega
    have hk4 : (0 : Int) ≤ IntKind.i64.wrap ((d : Int) + 1) := by rw [IntKind.wrap_i64]; omega
    have hk5 : (d : Int) ≤ (s.size : Int) := by omega
    go_enter Tryz.func170, Tryz.ntmps170
    go_wp2_with fail
    refine (unhide C _).mono ?_
    rintro e w1 ⟨rfl, rfl⟩
    go_wp2
    go_quiet (fail)
    go_wp2
    go_ret3
    exact ⟨by rw [unhide HP, unhide HB]; rfl, below_draws (Below.refl _ _) _⟩
  · rw [if_neg h] at C
    have HP := hide (show partC s d = ⟨#[]⟩ by unfold partC; rw [if_neg h])
    have HB := hide (show decide (d < s.size) = false by simpa using h)
    have HS := hide (show s.extract 0 d = s by
      have e : d = s.size := by omega
      rw [e]
      exact ByteArray.extract_zero_size)
    go_enter Tryz.func170, Tryz.ntmps170
    go_wp2_with fail
    refine (unhide C _).mono ?_
    rintro e w1 ⟨rfl, rfl⟩
    go_wp2
    go_ret3
    exact ⟨by rw [unhide HP, unhide HB, unhide HS]; rfl, Below.refl _ _⟩

theorem cutC_any (w : World) (c : UInt8) (s : ByteArray) (d : Nat) (hd : CAt c s d) (hs : s.size ≤ maxLen) :
    Calls Tryz.prog 118 #[.string s, .string ⟨#[c]⟩] w fun e w' => e = .returned (.tuple #[.string (s.extract 0 d), .string (partC s d), .bool (decide (d < s.size))]) ∧ Below w.heap.size w w' := by
  have C := hide (fun W => liteCutC_any W c s d hd hs)
  clear hd
  unfold maxLen at hs
  generalize s.extract 0 d = a at *
  generalize partC s d = b at *
  generalize decide (d < s.size) = c at *
  go_enter Tryz.func118, Tryz.ntmps118
  go_wp2_with fail
  refine (unhide C _).mono ?_
  rintro e w1 ⟨rfl, b1⟩
  go_wp2
  go_ret3
  exact ⟨rfl, b1⟩

end Go.Proofs.YtdklikicngmkbaaGreatDoor
