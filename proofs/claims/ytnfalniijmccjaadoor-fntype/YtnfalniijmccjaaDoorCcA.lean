/- A text that is cut at a byte: strings.Cut by a contract. -/
import Derived.Test.YtnfalniijmccjaaDoorShelf
import Derived.Test.YtnfalniijmccjaaDoorBase
import Derived.WalkKit
import Derived.WalkSmall
import Derived.Deep.QuietTactic
import Derived.BigQuiet
namespace Go.Proofs.YtnfalniijmccjaaDoor
open Go.RowKit
set_option maxRecDepth 100000

/-- The place of the first dot; the size, if there is none. -/
def CAt (c : UInt8) (s : ByteArray) (d : Nat) : Prop := d ≤ s.size ∧ (∀ j (h : j < s.size), j < d → s[j].toNat ≠ c.toNat) ∧ (∀ h : d < s.size, s[d].toNat = c.toNat)

theorem CAt.same {c : UInt8} {s : ByteArray} {d e : Nat} (h : CAt c s d) (k : CAt c s e) : d = e := by
  obtain ⟨h1, h2, h3⟩ := h
  obtain ⟨k1, k2, k3⟩ := k
  rcases Nat.lt_trichotomy d e with c | c | c
  · exact absurd (h3 (by omega)) (k2 d (by omega) c)
  · exact c
  · exact absurd (k3 (by omega)) (h2 e (by omega) c)

theorem cat_is (c : UInt8) (s : ByteArray) : ∃ d, CAt c s d := by
  have key : ∀ n, n ≤ s.size → (∃ d, CAt c s d) ∨ ∀ j (h : j < s.size), j < n → s[j].toNat ≠ c.toNat := by
    intro n
    induction n with
    | zero => intro _; exact .inr (fun j _ h => absurd h (Nat.not_lt_zero _))
    | succ n ih =>
      intro hn
      rcases ih (by omega) with h | h
      · exact .inl h
      · by_cases e : s[n].toNat = c.toNat
        · exact .inl ⟨n, by omega, h, fun _ => e⟩
        · refine .inr (fun j hj hjn => ?_)
          by_cases c : j < n
          · exact h j hj c
          · obtain rfl : j = n := by omega
            exact e
  rcases key s.size (Nat.le_refl _) with h | h
  · exact h
  · exact ⟨s.size, Nat.le_refl _, h, fun k => absurd k (Nat.lt_irrefl _)⟩

theorem ix_cat {c : UInt8} {s : ByteArray} {d : Nat} (h : CAt c s d) : Lib.indexByte s.data.toList c = if d < s.size then (d : Int) else -1 := by
  have hl : s.data.toList.length = s.size := by simp
  have hge := Lib.indexByte_ge s.data.toList c
  have at_ : ∀ k (hk : k < s.size), s.data.toList[k]? = some s[k] := fun k hk => by rw [List.getElem?_eq_getElem (by omega)]; simp [ByteArray.getElem_eq_getElem_data]
  by_cases hv : Lib.indexByte s.data.toList c = -1
  · rw [hv, if_neg]
    intro hd
    have := Lib.indexByte_none hv d
    rw [at_ d hd] at this
    exact this (congrArg some (UInt8.toNat_inj.1 (h.2.2 hd)))
  · obtain ⟨o, ho⟩ := Int.eq_ofNat_of_zero_le (show 0 ≤ Lib.indexByte s.data.toList c by omega)
    obtain ⟨k1, k2⟩ := Lib.indexByte_some ho
    have hos : o < s.size := by
      have := (List.getElem?_eq_some_iff.1 k1).1
      omega
    have hD : CAt c s o := by
      refine ⟨by omega, fun j hj hjo e => ?_, fun _ => ?_⟩
      · apply k2 j hjo
        rw [at_ j hj]
        exact congrArg some (UInt8.toNat_inj.1 e)
      · rw [at_ o hos] at k1
        have := Option.some.inj k1
        rw [this]
    obtain rfl := h.same hD
    rw [ho, if_pos hos]

/-- What stands behind the dot. -/
def partC (s : ByteArray) (d : Nat) : ByteArray := if d < s.size then s.extract (d + 1) s.size else ⟨#[]⟩

theorem liteCutC_any (w : World) (c : UInt8) (s : ByteArray) (d : Nat) (hd : CAt c s d) (hs : s.size ≤ maxLen) :
    Calls Tryd.prog 83 #[.string s, .string ⟨#[c]⟩] w fun e w' => e = .returned (.tuple #[.string (s.extract 0 d), .string (partC s d), .bool (decide (d < s.size))]) ∧ Below w.heap.size w w' := by
  unfold maxLen at hs
  have C := hide (fun W => Tryd.stringslite_Index_one s c W)
  rw [ix_cat hd] at C
  have hle := hd.1
  clear hd
  by_cases h : d < s.size
  · rw [if_pos h] at C
    have HP := hide (show partC s d = s.extract (d + 1) s.size by unfold partC; rw [if_pos h])
    have HB := hide (show decide (d < s.size) = true by simpa using h)
    have hk1 : (d : Int) + 1 ≤ (s.size : Int) := by omega
    have hk2 : (0 : Int) ≤ (d : Int) + 1 := by omega
    have hk3 : IntKind.i64.wrap ((d : Int) + 1) ≤ (s.size : Int) := by rw [IntKind.wrap_i64]; omega
    have hk4 : (0 : Int) ≤ IntKind.i64.wrap ((d : Int) + 1) := by rw [IntKind.wrap_i64]; omega
    have hk5 : (d : Int) ≤ (s.size : Int) := by omega
    go_enter Tryd.func83, Tryd.ntmps83
    go_wp2_with fail
    refine (unhide C _).mono ?_
    rintro e w1 ⟨rfl, rfl⟩
    go_wp2
    go_quiet (fail)
    go_wp2
    go_ret3
    exact ⟨by rw [unhide HP, unhide HB]; rfl, below_draws (Below.refl _ _) _⟩
  · rw [if_neg h] at C
    have HP := hide (show partC s d = ⟨#[]⟩ by unfold partC; rw [if_neg h])
    have HB := hide (show decide (d < s.size) = false by simpa using h)
    have HS := hide (show s.extract 0 d = s by
      have e : d = s.size := by omega
      rw [e]
      exact ByteArray.extract_zero_size)
    go_enter Tryd.func83, Tryd.ntmps83
    go_wp2_with fail
    refine (unhide C _).mono ?_
    rintro e w1 ⟨rfl, rfl⟩
    go_wp2
    go_ret3
    exact ⟨by rw [unhide HP, unhide HB, unhide HS]; rfl, Below.refl _ _⟩

theorem cutC_any (w : World) (c : UInt8) (s : ByteArray) (d : Nat) (hd : CAt c s d) (hs : s.size ≤ maxLen) :
    Calls Tryd.prog 49 #[.string s, .string ⟨#[c]⟩] w fun e w' => e = .returned (.tuple #[.string (s.extract 0 d), .string (partC s d), .bool (decide (d < s.size))]) ∧ Below w.heap.size w w' := by
  have C := hide (fun W => liteCutC_any W c s d hd hs)
  clear hd
  unfold maxLen at hs
  generalize s.extract 0 d = a at *
  generalize partC s d = b at *
  generalize decide (d < s.size) = c at *
  go_enter Tryd.func49, Tryd.ntmps49
  go_wp2_with fail
  refine (unhide C _).mono ?_
  rintro e w1 ⟨rfl, b1⟩
  go_wp2
  go_ret3
  exact ⟨rfl, b1⟩

end Go.Proofs.YtnfalniijmccjaaDoor
