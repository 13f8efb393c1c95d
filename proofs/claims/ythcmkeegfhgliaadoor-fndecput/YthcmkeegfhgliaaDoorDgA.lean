/- Where the dot of a text is: l2Dot and strings.Cut, by contracts. -/
import Derived.Test.YthcmkeegfhgliaaDoorGtC
import Derived.Test.YthcmkeegfhgliaaDoorShelf
import Derived.Lib.IndexLaws
namespace Go.Proofs.YthcmkeegfhgliaaDoor
open Go.RowKit
set_option maxRecDepth 100000

/-- The place of the first dot; the size, if there is none. -/
def DotAt (s : ByteArray) (d : Nat) : Prop := d ≤ s.size ∧ (∀ j (h : j < s.size), j < d → s[j].toNat ≠ 46) ∧ (∀ h : d < s.size, s[d].toNat = 46)

theorem DotAt.same {s : ByteArray} {d e : Nat} (h : DotAt s d) (k : DotAt s e) : d = e := by
  obtain ⟨h1, h2, h3⟩ := h
  obtain ⟨k1, k2, k3⟩ := k
  rcases Nat.lt_trichotomy d e with c | c | c
  · exact absurd (h3 (by omega)) (k2 d (by omega) c)
  · exact c
  · exact absurd (k3 (by omega)) (h2 e (by omega) c)

theorem dot_is (s : ByteArray) : ∃ d, DotAt s d := by
  have key : ∀ n, n ≤ s.size → (∃ d, DotAt s d) ∨ ∀ j (h : j < s.size), j < n → s[j].toNat ≠ 46 := by
    intro n
    induction n with
    | zero => intro _; exact .inr (fun j _ h => absurd h (Nat.not_lt_zero _))
    | succ n ih =>
      intro hn
      rcases ih (by omega) with h | h
      · exact .inl h
      · by_cases e : s[n].toNat = 46
        · exact .inl ⟨n, by omega, h, fun _ => e⟩
        · refine .inr (fun j hj hjn => ?_)
          by_cases c : j < n
          · exact h j hj c
          · obtain rfl : j = n := by omega
            exact e
  rcases key s.size (Nat.le_refl _) with h | h
  · exact h
  · exact ⟨s.size, Nat.le_refl _, h, fun k => absurd k (Nat.lt_irrefl _)⟩

theorem l2Dot_any (w : World) (s : ByteArray) (d : Nat) (hd : DotAt s d) (hs : s.size ≤ maxLen) :
    Calls Tryd.prog 55 #[.string s] w fun e w' => e = .returned (.int .i64 d) ∧ w' = w := by
  unfold maxLen at hs
  have HD := hide hd
  clear hd
  go_enter Tryd.func55, Tryd.ntmps55
  go_wp2
  go_loopw [3] (fun ii wr => ∃ i : Nat, ii = .int .i64 i ∧ i ≤ d ∧ wr = w) (fun ii _ => d - (intOf ii).toNat)
  case atStart => exact ⟨0, rfl, Nat.zero_le _, rfl⟩
  case round =>
    obtain ⟨i, rfl, hi, rfl⟩ := hrel
    have hds := (unhide HD).1
    by_cases h : i < d
    · have hne := (unhide HD).2.1 i (by omega) h
      have hb : ((s[i].toNat : Int) != 46) = true := by rw [bne_iff_ne]; omega
      have his : i < s.size := by omega
      clear hne
      go_wp2
      go_roundw
      case rel => exact ⟨i + 1, rfl, by omega, trivial⟩
      case measure => simp only [intOf]; omega
    · have e : i = d := by omega
      have HE := hide e
      by_cases hs2 : i < s.size
      · have hb : ((s[i].toNat : Int) != 46) = false := by
          have h3 := (unhide HD).2.2 (by omega)
          subst e
          rw [bne_eq_false_iff_eq]
          omega
        clear e
        go_wp2
        go_ret
        exact ⟨by rw [← unhide HE]; rfl, rfl⟩
      · clear e
        go_wp2
        go_ret
        exact ⟨by rw [← unhide HE]; rfl, rfl⟩

theorem ix_dot {s : ByteArray} {d : Nat} (h : DotAt s d) : Lib.indexByte s.data.toList 46 = if d < s.size then (d : Int) else -1 := by
  have hl : s.data.toList.length = s.size := by simp
  have hge := Lib.indexByte_ge s.data.toList 46
  have at_ : ∀ k (hk : k < s.size), s.data.toList[k]? = some s[k] := fun k hk => by rw [List.getElem?_eq_getElem (by omega)]; rw [bytes_at s k hk]
  by_cases hv : Lib.indexByte s.data.toList 46 = -1
  · rw [hv, if_neg]
    intro hd
    have := Lib.indexByte_none hv d
    rw [at_ d hd] at this
    exact this (congrArg some (UInt8.toNat_inj.1 (h.2.2 hd)))
  · obtain ⟨o, ho⟩ := Int.eq_ofNat_of_zero_le (show 0 ≤ Lib.indexByte s.data.toList 46 by omega)
    obtain ⟨k1, k2⟩ := Lib.indexByte_some ho
    have hos : o < s.size := by
      have := (List.getElem?_eq_some_iff.1 k1).1
      omega
    have hD : DotAt s o := by
      refine ⟨by omega, fun j hj hjo e => ?_, fun _ => ?_⟩
      · apply k2 j hjo
        rw [at_ j hj]
        exact congrArg some (UInt8.toNat_inj.1 e)
      · rw [at_ o hos] at k1
        have := Option.some.inj k1
        rw [this]
        rfl
    obtain rfl := h.same hD
    rw [ho, if_pos hos]

/-- What stands behind the dot. -/
def partOf (s : ByteArray) (d : Nat) : ByteArray := if d < s.size then s.extract (d + 1) s.size else ⟨#[]⟩

theorem liteCut_any (w : World) (s : ByteArray) (d : Nat) (hd : DotAt s d) (hs : s.size ≤ maxLen) :
    Calls Tryd.prog 51 #[.string s, .string ⟨#[46]⟩] w fun e w' => e = .returned (.tuple #[.string (s.extract 0 d), .string (partOf s d), .bool (decide (d < s.size))]) ∧ Below w.heap.size w w' := by
  unfold maxLen at hs
  have C := hide (fun W => Tryd.stringslite_Index_one s 46 W)
  rw [ix_dot hd] at C
  have hle := hd.1
  clear hd
  by_cases h : d < s.size
  · rw [if_pos h] at C
    have HP := hide (show partOf s d = s.extract (d + 1) s.size by unfold partOf; rw [if_pos h])
    have HB := hide (show decide (d < s.size) = true by simpa using h)
    have hk1 : (d : Int) + 1 ≤ (s.size : Int) := by omega
    have hk2 : (0 : Int) ≤ (d : Int) + 1 := by omega
    have hk3 : IntKind.i64.wrap ((d : Int) + 1) ≤ (s.size : Int) := by rw [IntKind.wrap_i64]; omega
    have hk4 : (0 : Int) ≤ IntKind.i64.wrap ((d : Int) + 1) := by rw [IntKind.wrap_i64]; omega
    have hk5 : (d : Int) ≤ (s.size : Int) := by omega
    go_enter Tryd.func51, Tryd.ntmps51
    go_wp2_with fail
    refine (unhide C _).mono ?_
    rintro e w1 ⟨rfl, rfl⟩
    go_wp2
    go_quiet (fail)
    go_wp2
    go_ret3
    exact ⟨by rw [unhide HP, unhide HB]; rfl, below_draws (Below.refl _ _) _⟩
  · rw [if_neg h] at C
    have HP := hide (show partOf s d = ⟨#[]⟩ by unfold partOf; rw [if_neg h])
    have HB := hide (show decide (d < s.size) = false by simpa using h)
    have HS := hide (show s.extract 0 d = s by
      have e : d = s.size := by omega
      rw [e]
      exact ByteArray.extract_zero_size)
    go_enter Tryd.func51, Tryd.ntmps51
    go_wp2_with fail
    refine (unhide C _).mono ?_
    rintro e w1 ⟨rfl, rfl⟩
    go_wp2
    go_ret3
    exact ⟨by rw [unhide HP, unhide HB, unhide HS]; rfl, Below.refl _ _⟩

theorem cutDot_any (w : World) (s : ByteArray) (d : Nat) (hd : DotAt s d) (hs : s.size ≤ maxLen) :
    Calls Tryd.prog 21 #[.string s, .string ⟨#[46]⟩] w fun e w' => e = .returned (.tuple #[.string (s.extract 0 d), .string (partOf s d), .bool (decide (d < s.size))]) ∧ Below w.heap.size w w' := by
  have C := hide (fun W => liteCut_any W s d hd hs)
  clear hd
  unfold maxLen at hs
  generalize s.extract 0 d = a at *
  generalize partOf s d = b at *
  generalize decide (d < s.size) = c at *
  go_enter Tryd.func21, Tryd.ntmps21
  go_wp2_with fail
  refine (unhide C _).mono ?_
  rintro e w1 ⟨rfl, b1⟩
  go_wp2
  go_ret3
  exact ⟨rfl, b1⟩

end Go.Proofs.YthcmkeegfhgliaaDoor
