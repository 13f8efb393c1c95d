/- A sign ahead of a text, cut off: @, # and the quote. A minus ahead of a text, cut off. Where the dot of a text is: l2Dot and strings.Cut, by contracts. signed by a contract; the number of a sign and limbs. -/
import Derived.Test.YtdklikicngmkbaaGreatDoorG20
import Derived.Test.YtdklikicngmkbaaGreatDoorShelf
import Derived.Lib.IndexLaws
import Derived.Deep.RegionWith
namespace Go.Proofs.YtdklikicngmkbaaGreatDoor
open Go.RowKit

/-- A text begins with an at sign. -/
def atB (s : ByteArray) : Bool := decide (fstB s = 64)

/-- What stands behind it. -/
def atRest (s : ByteArray) : ByteArray := if atB s = true then s.extract 1 s.size else s

theorem at_pre {s : ByteArray} (h : 0 < s.size) : ((s.extract 0 1).toList == [64]) = atB s := by
  have e : (s.extract 0 1).toList = [s[0]] := by
    have hb := bytes_at s 0 h
    rw [ByteArray.toList_eq, ByteArray.data_extract, Array.toList_extract]
    cases hc : s.data.toList with
    | nil =>
      have : s.data.toList.length = s.size := by simp
      rw [hc] at this
      simp at this
      omega
    | cons x t =>
      simp only [hc, List.getElem_cons_zero] at hb
      simp [hb]
  have f : fstB s = s[0].toNat := by unfold fstB; rw [dif_pos h]
  unfold atB
  rw [e, f]
  by_cases k : s[0].toNat = 64
  · have : s[0] = 64 := UInt8.toNat_inj.1 k
    simp [this]
  · have : s[0] ≠ 64 := fun e => k (by rw [e]; rfl)
    simp [k, this]

theorem at_no {s : ByteArray} (h : s.size = 0) : atB s = false := by
  unfold atB fstB
  rw [dif_neg (by omega)]
  rfl

theorem cut_at (w : World) (s : ByteArray) (hs : s.size ≤ maxLen) :
    Calls Tryz.prog 73 #[.string s, .string ⟨#[64]⟩] w fun e w' => e = .returned (.tuple #[.string (atRest s), .bool (atB s)]) ∧ w' = w := by
  unfold maxLen at hs
  by_cases h0 : s.size = 0
  · have HN := hide (at_no h0)
    have HR := hide (show atRest s = s by unfold atRest; rw [unhide HN, if_neg (by simp)])
    go_enter Tryz.func73, Tryz.ntmps73
    go_wp2
    go_ret2
    exact ⟨by rw [unhide HN, unhide HR]; rfl, rfl⟩
  · have hp : 0 < s.size := by omega
    have HP := at_pre hp
    cases hn : atB s with
    | false =>
      rw [hn] at HP
      have HN := hide hn
      have HR := hide (show atRest s = s by unfold atRest; rw [hn, if_neg (by simp)])
      clear hn
      go_enter Tryz.func73, Tryz.ntmps73
      go_wp2
      go_ret2
      exact ⟨by rw [unhide HR]; rfl, rfl⟩
    | true =>
      rw [hn] at HP
      have HN := hide hn
      have HR := hide (show atRest s = s.extract 1 s.size by unfold atRest; rw [hn, if_pos rfl])
      clear hn
      go_enter Tryz.func73, Tryz.ntmps73
      go_wp2
      go_ret2
      exact ⟨by rw [unhide HR]; rfl, rfl⟩

/-- A text begins with a hash. -/
def hashB (s : ByteArray) : Bool := decide (fstB s = 35)

/-- What stands behind it. -/
def hashRest (s : ByteArray) : ByteArray := if hashB s = true then s.extract 1 s.size else s

theorem hash_pre {s : ByteArray} (h : 0 < s.size) : ((s.extract 0 1).toList == [35]) = hashB s := by
  have e : (s.extract 0 1).toList = [s[0]] := by
    have hb := bytes_at s 0 h
    rw [ByteArray.toList_eq, ByteArray.data_extract, Array.toList_extract]
    cases hc : s.data.toList with
    | nil =>
      have : s.data.toList.length = s.size := by simp
      rw [hc] at this
      simp at this
      omega
    | cons x t =>
      simp only [hc, List.getElem_cons_zero] at hb
      simp [hb]
  have f : fstB s = s[0].toNat := by unfold fstB; rw [dif_pos h]
  unfold hashB
  rw [e, f]
  by_cases k : s[0].toNat = 35
  · have : s[0] = 35 := UInt8.toNat_inj.1 k
    simp [this]
  · have : s[0] ≠ 35 := fun e => k (by rw [e]; rfl)
    simp [k, this]

theorem hash_no {s : ByteArray} (h : s.size = 0) : hashB s = false := by
  unfold hashB fstB
  rw [dif_neg (by omega)]
  rfl

theorem cut_hash (w : World) (s : ByteArray) (hs : s.size ≤ maxLen) :
    Calls Tryz.prog 73 #[.string s, .string ⟨#[35]⟩] w fun e w' => e = .returned (.tuple #[.string (hashRest s), .bool (hashB s)]) ∧ w' = w := by
  unfold maxLen at hs
  by_cases h0 : s.size = 0
  · have HN := hide (hash_no h0)
    have HR := hide (show hashRest s = s by unfold hashRest; rw [unhide HN, if_neg (by simp)])
    go_enter Tryz.func73, Tryz.ntmps73
    go_wp2
    go_ret2
    exact ⟨by rw [unhide HN, unhide HR]; rfl, rfl⟩
  · have hp : 0 < s.size := by omega
    have HP := hash_pre hp
    cases hn : hashB s with
    | false =>
      rw [hn] at HP
      have HN := hide hn
      have HR := hide (show hashRest s = s by unfold hashRest; rw [hn, if_neg (by simp)])
      clear hn
      go_enter Tryz.func73, Tryz.ntmps73
      go_wp2
      go_ret2
      exact ⟨by rw [unhide HR]; rfl, rfl⟩
    | true =>
      rw [hn] at HP
      have HN := hide hn
      have HR := hide (show hashRest s = s.extract 1 s.size by unfold hashRest; rw [hn, if_pos rfl])
      clear hn
      go_enter Tryz.func73, Tryz.ntmps73
      go_wp2
      go_ret2
      exact ⟨by rw [unhide HR]; rfl, rfl⟩

/-- A text begins with a quote. -/
def quotB (s : ByteArray) : Bool := decide (fstB s = 39)

/-- What stands behind it. -/
def quotRest (s : ByteArray) : ByteArray := if quotB s = true then s.extract 1 s.size else s

theorem quot_pre {s : ByteArray} (h : 0 < s.size) : ((s.extract 0 1).toList == [39]) = quotB s := by
  have e : (s.extract 0 1).toList = [s[0]] := by
    have hb := bytes_at s 0 h
    rw [ByteArray.toList_eq, ByteArray.data_extract, Array.toList_extract]
    cases hc : s.data.toList with
    | nil =>
      have : s.data.toList.length = s.size := by simp
      rw [hc] at this
      simp at this
      omega
    | cons x t =>
      simp only [hc, List.getElem_cons_zero] at hb
      simp [hb]
  have f : fstB s = s[0].toNat := by unfold fstB; rw [dif_pos h]
  unfold quotB
  rw [e, f]
  by_cases k : s[0].toNat = 39
  · have : s[0] = 39 := UInt8.toNat_inj.1 k
    simp [this]
  · have : s[0] ≠ 39 := fun e => k (by rw [e]; rfl)
    simp [k, this]

theorem quot_no {s : ByteArray} (h : s.size = 0) : quotB s = false := by
  unfold quotB fstB
  rw [dif_neg (by omega)]
  rfl

theorem cut_quot (w : World) (s : ByteArray) (hs : s.size ≤ maxLen) :
    Calls Tryz.prog 73 #[.string s, .string ⟨#[39]⟩] w fun e w' => e = .returned (.tuple #[.string (quotRest s), .bool (quotB s)]) ∧ w' = w := by
  unfold maxLen at hs
  by_cases h0 : s.size = 0
  · have HN := hide (quot_no h0)
    have HR := hide (show quotRest s = s by unfold quotRest; rw [unhide HN, if_neg (by simp)])
    go_enter Tryz.func73, Tryz.ntmps73
    go_wp2
    go_ret2
    exact ⟨by rw [unhide HN, unhide HR]; rfl, rfl⟩
  · have hp : 0 < s.size := by omega
    have HP := quot_pre hp
    cases hn : quotB s with
    | false =>
      rw [hn] at HP
      have HN := hide hn
      have HR := hide (show quotRest s = s by unfold quotRest; rw [hn, if_neg (by simp)])
      clear hn
      go_enter Tryz.func73, Tryz.ntmps73
      go_wp2
      go_ret2
      exact ⟨by rw [unhide HR]; rfl, rfl⟩
    | true =>
      rw [hn] at HP
      have HN := hide hn
      have HR := hide (show quotRest s = s.extract 1 s.size by unfold quotRest; rw [hn, if_pos rfl])
      clear hn
      go_enter Tryz.func73, Tryz.ntmps73
      go_wp2
      go_ret2
      exact ⟨by rw [unhide HR]; rfl, rfl⟩

end Go.Proofs.YtdklikicngmkbaaGreatDoor

namespace Go.Proofs.YtdklikicngmkbaaGreatDoor
open Go.RowKit


/-- A text begins with a minus. -/
def negB (s : ByteArray) : Bool := decide (fstB s = 45)

/-- What stands behind the minus. -/
def restB (s : ByteArray) : ByteArray := if negB s = true then s.extract 1 s.size else s

theorem neg_pre {s : ByteArray} (h : 0 < s.size) : ((s.extract 0 1).toList == [45]) = negB s := by
  have e : (s.extract 0 1).toList = [s[0]] := by
    have hb := bytes_at s 0 h
    rw [ByteArray.toList_eq, ByteArray.data_extract, Array.toList_extract]
    cases hc : s.data.toList with
    | nil =>
      have : s.data.toList.length = s.size := by simp
      rw [hc] at this
      simp at this
      omega
    | cons x t =>
      simp only [hc, List.getElem_cons_zero] at hb
      simp [hb]
  have f : fstB s = s[0].toNat := by unfold fstB; rw [dif_pos h]
  unfold negB
  rw [e, f]
  by_cases k : s[0].toNat = 45
  · have : s[0] = 45 := UInt8.toNat_inj.1 k
    simp [this]
  · have : s[0] ≠ 45 := fun e => k (by rw [e]; rfl)
    simp [k, this]

theorem neg_no {s : ByteArray} (h : s.size = 0) : negB s = false := by
  unfold negB fstB
  rw [dif_neg (by omega)]
  rfl

theorem cutMinus_any (w : World) (s : ByteArray) (hs : s.size ≤ maxLen) :
    Calls Tryz.prog 73 #[.string s, .string ⟨#[45]⟩] w fun e w' => e = .returned (.tuple #[.string (restB s), .bool (negB s)]) ∧ w' = w := by
  unfold maxLen at hs
  by_cases h0 : s.size = 0
  · have HN := hide (neg_no h0)
    have HR := hide (show restB s = s by unfold restB; rw [unhide HN, if_neg (by simp)])
    go_enter Tryz.func73, Tryz.ntmps73
    go_wp2
    go_ret2
    exact ⟨by rw [unhide HN, unhide HR]; rfl, rfl⟩
  · have hp : 0 < s.size := by omega
    have HP := neg_pre hp
    cases hn : negB s with
    | false =>
      rw [hn] at HP
      have HN := hide hn
      have HR := hide (show restB s = s by unfold restB; rw [hn, if_neg (by simp)])
      clear hn
      go_enter Tryz.func73, Tryz.ntmps73
      go_wp2
      go_ret2
      exact ⟨by rw [unhide HR]; rfl, rfl⟩
    | true =>
      rw [hn] at HP
      have HN := hide hn
      have HR := hide (show restB s = s.extract 1 s.size by unfold restB; rw [hn, if_pos rfl])
      clear hn
      go_enter Tryz.func73, Tryz.ntmps73
      go_wp2
      go_ret2
      exact ⟨by rw [unhide HR]; rfl, rfl⟩

-- TAIL

end Go.Proofs.YtdklikicngmkbaaGreatDoor

namespace Go.Proofs.YtdklikicngmkbaaGreatDoor
open Go.RowKit
set_option maxRecDepth 100000

/-- The place of the first dot; the size, if there is none. -/
def DotAt (s : ByteArray) (d : Nat) : Prop := d ≤ s.size ∧ (∀ j (h : j < s.size), j < d → s[j].toNat ≠ 46) ∧ (∀ h : d < s.size, s[d].toNat = 46)

theorem DotAt.same {s : ByteArray} {d e : Nat} (h : DotAt s d) (k : DotAt s e) : d = e := by
  obtain ⟨h1, h2, h3⟩ := h
  obtain ⟨k1, k2, k3⟩ := k
  rcases Nat.lt_trichotomy d e with c | c | c
  · exact absurd (h3 (by omega)) (k2 d (by omega) c)
  · exact c
  · exact absurd (k3 (by omega)) (h2 e (by omega) c)

theorem dot_is (s : ByteArray) : ∃ d, DotAt s d := by
  have key : ∀ n, n ≤ s.size → (∃ d, DotAt s d) ∨ ∀ j (h : j < s.size), j < n → s[j].toNat ≠ 46 := by
    intro n
    induction n with
    | zero => intro _; exact .inr (fun j _ h => absurd h (Nat.not_lt_zero _))
    | succ n ih =>
      intro hn
      rcases ih (by omega) with h | h
      · exact .inl h
      · by_cases e : s[n].toNat = 46
        · exact .inl ⟨n, by omega, h, fun _ => e⟩
        · refine .inr (fun j hj hjn => ?_)
          by_cases c : j < n
          · exact h j hj c
          · obtain rfl : j = n := by omega
            exact e
  rcases key s.size (Nat.le_refl _) with h | h
  · exact h
  · exact ⟨s.size, Nat.le_refl _, h, fun k => absurd k (Nat.lt_irrefl _)⟩

theorem l2Dot_any (w : World) (s : ByteArray) (d : Nat) (hd : DotAt s d) (hs : s.size ≤ maxLen) :
    Calls Tryz.prog 133 #[.string s] w fun e w' => e = .returned (.int .i64 d) ∧ w' = w := by
  unfold maxLen at hs
  have HD := hide hd
  clear hd
  go_enter Tryz.func133, Tryz.ntmps133
  go_wp2
  go_loopw [3] (fun ii wr => ∃ i : Nat, ii = .int .i64 i ∧ i ≤ d ∧ wr = w) (fun ii _ => d - (intOf ii).toNat)
  case atStart => exact ⟨0, rfl, Nat.zero_le _, rfl⟩
  case round =>
    obtain ⟨i, rfl, hi, rfl⟩ := hrel
    have hds := (unhide HD).1
    by_cases h : i < d
    · have hne := (unhide HD).2.1 i (by omega) h
      have hb : ((s[i].toNat : Int) != 46) = true := by rw [bne_iff_ne]; omega
      have his : i < s.size := by omega
      clear hne
      go_wp2
      go_roundw
      case rel => exact ⟨i + 1, rfl, by omega, trivial⟩
      case measure => simp only [intOf]; omega
    · have e : i = d := by omega
      have HE := hide e
      by_cases hs2 : i < s.size
      · have hb : ((s[i].toNat : Int) != 46) = false := by
          have h3 := (unhide HD).2.2 (by omega)
          subst e
          rw [bne_eq_false_iff_eq]
          omega
        clear e
        go_wp2
        go_ret
        exact ⟨by rw [← unhide HE]; rfl, rfl⟩
      · clear e
        go_wp2
        go_ret
        exact ⟨by rw [← unhide HE]; rfl, rfl⟩

theorem ix_dot {s : ByteArray} {d : Nat} (h : DotAt s d) : Lib.indexByte s.data.toList 46 = if d < s.size then (d : Int) else -1 := by
  have hl : s.data.toList.length = s.size := by simp
  have hge := Lib.indexByte_ge s.data.toList 46
  have at_ : ∀ k (hk : k < s.size), s.data.toList[k]? = some s[k] := fun k hk => by rw [List.getElem?_eq_getElem (by omega)]; rw [bytes_at s k hk]
  by_cases hv : Lib.indexByte s.data.toList 46 = -1
  · rw [hv, if_neg]
    intro hd
    have := Lib.indexByte_none hv d
    rw [at_ d hd] at this
    exact this (congrArg some (UInt8.toNat_inj.1 (h.2.2 hd)))
  · obtain ⟨o, ho⟩ := Int.eq_ofNat_of_zero_le (show 0 ≤ Lib.indexByte s.data.toList 46 by omega)
    obtain ⟨k1, k2⟩ := Lib.indexByte_some ho
    have hos : o < s.size := by
      have := (List.getElem?_eq_some_iff.1 k1).1
      omega
    have hD : DotAt s o := by
      refine ⟨by omega, fun j hj hjo e => ?_, fun _ => ?_⟩
      · apply k2 j hjo
        rw [at_ j hj]
        exact congrArg some (UInt8.toNat_inj.1 e)
      · rw [at_ o hos] at k1
        have := Option.some.inj k1
        rw [this]
        rfl
    obtain rfl := h.same hD
    rw [ho, if_pos hos]

/-- What stands behind the dot. -/
def partOf (s : ByteArray) (d : Nat) : ByteArray := if d < s.size then s.extract (d + 1) s.size else ⟨#[]⟩

theorem liteCut_any (w : World) (s : ByteArray) (d : Nat) (hd : DotAt s d) (hs : s.size ≤ maxLen) :
    Calls Tryz.prog 170 #[.string s, .string ⟨#[46]⟩] w fun e w' => e = .returned (.tuple #[.string (s.extract 0 d), .string (partOf s d), .bool (decide (d < s.size))]) ∧ Below w.heap.size w w' := by
  unfold maxLen at hs
  have C := hide (fun W => Tryz.stringslite_Index_one s 46 W)
  rw [ix_dot hd] at C
  have hle := hd.1
  clear hd
  by_cases h : d < s.size
  · rw [if_pos h] at C
    have HP := hide (show partOf s d = s.extract (d + 1) s.size by unfold partOf; rw [if_pos h])
    have HB := hide (show decide (d < s.size) = true by simpa using h)
    have hk1 : (d : Int) + 1 ≤ (s.size : Int) := by omega
    have hk2 : (0 : Int) ≤ (d : Int) + 1 := by omega
    have hk3 : IntKind.i64.wrap ((d : Int) + 1) ≤ (s.size : Int) := by rw [IntKind.wrap_i64]; omega
    have hk4 : (0 : Int) ≤ IntKind.i64.wrap ((d : Int) + 1) := by rw [IntKind.wrap_i64]; omega
    have hk5 : (d : Int) ≤ (s.size : Int) := by omega
    go_enter Tryz.func170, Tryz.ntmps170
    go_wp2_with fail
    refine (unhide C _).mono ?_
    rintro e w1 ⟨rfl, rfl⟩
    go_wp2
    go_quiet (fail)
    go_wp2
    go_ret3
    exact ⟨by rw [unhide HP, unhide HB]; rfl, below_draws (Below.refl _ _) _⟩
  · rw [if_neg h] at C
    have HP := hide (show partOf s d = ⟨#[]⟩ by unfold partOf; rw [if_neg h])
    have HB := hide (show decide (d < s.size) = false by simpa using h)
    have HS := hide (show s.extract 0 d = s by
      have e : d = s.size := by omega
      rw [e]
      exact ByteArray.extract_zero_size)
    go_enter Tryz.func170, Tryz.ntmps170
    go_wp2_with fail
    refine (unhide C _).mono ?_
    rintro e w1 ⟨rfl, rfl⟩
    go_wp2
    go_ret3
    exact ⟨by rw [unhide HP, unhide HB, unhide HS]; rfl, Below.refl _ _⟩

theorem cutDot_any (w : World) (s : ByteArray) (d : Nat) (hd : DotAt s d) (hs : s.size ≤ maxLen) :
    Calls Tryz.prog 118 #[.string s, .string ⟨#[46]⟩] w fun e w' => e = .returned (.tuple #[.string (s.extract 0 d), .string (partOf s d), .bool (decide (d < s.size))]) ∧ Below w.heap.size w w' := by
  have C := hide (fun W => liteCut_any W s d hd hs)
  clear hd
  unfold maxLen at hs
  generalize s.extract 0 d = a at *
  generalize partOf s d = b at *
  generalize decide (d < s.size) = c at *
  go_enter Tryz.func118, Tryz.ntmps118
  go_wp2_with fail
  refine (unhide C _).mono ?_
  rintro e w1 ⟨rfl, b1⟩
  go_wp2
  go_ret3
  exact ⟨rfl, b1⟩

end Go.Proofs.YtdklikicngmkbaaGreatDoor

namespace Go.Proofs.YtdklikicngmkbaaGreatDoor
open Go.RowKit
set_option maxRecDepth 100000




/-- What 'signed' answers: the limbs that it was given, or none, if they are none. -/
theorem signed_any (w : World) (neg : Bool) (ao : Option Addr) (n cap : Nat) :
    Calls Tryz.prog 123 #[.bool neg, .slice ao n cap] w fun e w' => e = .returned (if n = 0 then .agg #[.bool false, .slice none 0 0] else .agg #[.bool neg, .slice ao n cap]) ∧ Below w.heap.size w w' := by
  by_cases h : n = 0
  · rw [if_pos h]
    have h' : ((n : Int) == 0) = true := by simp [h]
    have hn : n ≤ 9223372036854775807 := by omega
    clear h
    go_enter Tryz.func123, Tryz.ntmps123
    go_wp2
    refine bodyPost_ret (v := .agg #[.bool false, .slice none 0 0]) (by simp [results, Tryz.results123, go_sem]) rfl ⟨rfl, ?_⟩
    exact (Below.refl _ _).alloc (Nat.le_refl _) _
  · rw [if_neg h]
    have h' : ((n : Int) == 0) = false := by simp [h]
    go_enter Tryz.func123, Tryz.ntmps123
    go_wp2
    refine bodyPost_ret (v := .agg #[.bool neg, .slice ao n cap]) (by simp [results, Tryz.results123, go_sem]) rfl ⟨rfl, ?_⟩
    exact (Below.refl _ _).alloc (Nat.le_refl _) _

/-- A number by its sign and its limbs' number. -/
def zof (neg : Bool) (n : Nat) : Int := if neg then -(n : Int) else n

/-- Whether a number is below 0. -/
def sg (z : Int) : Bool := decide (z < 0)

/-- From what 'signed' answers to a number of the call's own. -/
theorem signed_gives {w w1 w2 : World} {B : Nat} {neg : Bool} {ao : Option Addr} {cap n : Nat} {z : Int} (ho : Own B w1 (.slice ao (L n).length cap) (L n)) (h1 : Below w.heap.size w w1) (h2 : Below w1.heap.size w1 w2) (hz : z = zof neg n) :
    ∃ ao' cap', (if (L n).length = 0 then Value.agg #[.bool false, .slice none 0 0] else .agg #[.bool neg, .slice ao (L n).length cap]) = .agg #[.bool (sg z), .slice ao' (L z.natAbs).length cap'] ∧ Own B w2 (.slice ao' (L z.natAbs).length cap') (L z.natAbs) ∧ Below w.heap.size w w2 := by
  have hb : Below w.heap.size w w2 := h1.trans (h2.mono h1.size)
  have hna : z.natAbs = n := by subst hz; unfold zof; split <;> omega
  rw [hna]
  by_cases h : n = 0
  · subst h
    have e : z = 0 := by omega
    rw [L_zero]
    refine ⟨none, 0, ?_, Own.nil _ _, hb⟩
    simp [e, sg]
  · have hl : (L n).length ≠ 0 := fun k => h (L_len_zero.1 k)
    rw [if_neg hl]
    refine ⟨ao, cap, ?_, ho.later h2, hb⟩
    have : sg z = neg := by
      subst hz
      unfold sg zof
      cases neg <;> simp <;> omega
    rw [this]

end Go.Proofs.YtdklikicngmkbaaGreatDoor
