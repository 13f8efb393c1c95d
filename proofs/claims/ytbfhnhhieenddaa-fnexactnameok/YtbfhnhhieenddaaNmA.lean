/- NameOk of the specification, by a contract. -/
import Derived.Test.YtbfhnhhieenddaaNmM
import Derived.Test.YtbfhnhhieenddaaBase
import Derived.WalkKit
import Derived.WalkSpells
import Derived.WalkLawsBesides
import Derived.Deep.QuietTactic
import Derived.BigQuiet
import Derived.WalkSmall
namespace Go.Proofs.Ytbfhnhhieenddaa
open Go.RowKit
set_option maxRecDepth 100000

/-- Whether a byte is a small letter, or a figure. -/
def lowB (x : UInt8) : Prop := 97 ≤ x.toNat ∧ x.toNat ≤ 122
def fgB (x : UInt8) : Prop := 48 ≤ x.toNat ∧ x.toNat ≤ 57
instance (x : UInt8) : Decidable (lowB x) := by unfold lowB; exact inferInstance
instance (x : UInt8) : Decidable (fgB x) := by unfold fgB; exact inferInstance
/-- Whether a text is a name. -/
def nameB (s : ByteArray) : Bool := decide (1 ≤ s.size ∧ s.size ≤ 8) && (s.data.toList.all (fun x => decide (lowB x ∨ fgB x)) && (!(decide (fgB (s.data.toList.getD 0 0))) && !(wordsL.contains s.data.toList)))

theorem nm_all {s : ByteArray} (h : ∀ i (hi : i < s.size), lowB s[i] ∨ fgB s[i]) : s.data.toList.all (fun x => decide (lowB x ∨ fgB x)) = true := by
  rw [List.all_eq_true]
  intro x hx
  obtain ⟨i, hi, rfl⟩ := List.getElem_of_mem hx
  exact decide_eq_true (h i (by simpa using hi))

theorem nm_bad {s : ByteArray} (i : Nat) (hi : i < s.size) (h : ¬ (lowB s[i] ∨ fgB s[i])) : nameB s = false := by
  have : s.data.toList.all (fun x => decide (lowB x ∨ fgB x)) = false := by
    rw [List.all_eq_false]
    exact ⟨s[i], by rw [List.mem_iff_getElem]; exact ⟨i, by simpa using hi, rfl⟩, by simpa using h⟩
  unfold nameB
  rw [this]
  simp

theorem nm_first {s : ByteArray} (h0 : 0 < s.size) (h : fgB s[0]) : nameB s = false := by
  have e : s.data.toList.getD 0 0 = s[0] := by
    rw [List.getD_eq_getElem?_getD, List.getElem?_eq_getElem (by simpa using h0)]
    rfl
  unfold nameB
  rw [e]
  simp [h]

theorem nm_size {s : ByteArray} (h : ¬ (1 ≤ s.size ∧ s.size ≤ 8)) : nameB s = false := by unfold nameB; simp [h]

theorem nm_yes {s : ByteArray} (h1 : 0 < s.size) (h2 : s.size ≤ 8) (ha : ∀ i (hi : i < s.size), lowB s[i] ∨ fgB s[i]) (hf : ¬ fgB s[0]) : nameB s = !(wordsL.contains s.data.toList) := by
  have e : s.data.toList.getD 0 0 = s[0] := by
    rw [List.getD_eq_getElem?_getD, List.getElem?_eq_getElem (by simpa using h1)]
    rfl
  have h1' : 1 ≤ s.size := h1
  unfold nameB
  rw [nm_all ha, e]
  simp [h1', h2, hf]

theorem bytes_ext {x y : ByteArray} (h : x.toList = y.toList) : x = y := by
  rw [ByteArray.toList_eq, ByteArray.toList_eq] at h
  cases x; cases y
  simp only at h
  rw [Array.toList_inj.1 h]

/-- A word as a text. -/
def wordB (i : Nat) : ByteArray := ⟨(wordsL.getD i []).toArray⟩
theorem wordB_eq {i : Nat} (h : i < wordsL.length) {s : ByteArray} : wordB i = s ↔ wordsL[i] = s.data.toList := by
  unfold wordB
  rw [List.getD_eq_getElem?_getD, List.getElem?_eq_getElem h, Option.getD_some]
  constructor
  · rintro rfl; rfl
  · intro e; rw [e]

theorem words_len : wordsL.length = 40 := by decide +kernel
theorem words_small : ∀ x ∈ wordsL, x.length ≤ 8 := by decide +kernel

theorem l10Words_any (w : World) : Calls Try.prog 13 #[] w fun e w' => e = .returned (.slice (some ⟨w.heap.size, 0, none⟩) 40 40) ∧ Below w.heap.size w w' ∧ ∀ i, i < wordsL.length → w'.cell? ⟨w.heap.size, i, none⟩ = some (.string (wordB i)) := by
  have E : ∀ i (h : i < wordsL.length), (w.alloc (.cells (wordsL.map (fun x => Value.string ⟨x.toArray⟩)).toArray 9)).cell? ⟨w.heap.size, i, none⟩ = some (.string (wordB i)) := by
    intro i h
    rw [World.cell?_alloc_at _ _ _ _ (by simp)]
    unfold wordB
    rw [List.getD_eq_getElem?_getD, List.getElem?_eq_getElem h, Option.getD_some]
    simp [h]
  have HE := hide E
  clear E
  go_enter Try.func13, Try.ntmps13
  go_wp2
  go_ret
  exact ⟨rfl, (Below.refl _ _).alloc (Nat.le_refl _) _, unhide HE⟩

theorem l10Has_any (w : World) (b : Nat) (s : ByteArray) (hc : ∀ i, i < wordsL.length → w.cell? ⟨b, i, none⟩ = some (.string (wordB i))) :
    Calls Try.prog 12 #[.slice (some ⟨b, 0, none⟩) 40 40, .string s] w fun e w' => e = .returned (.bool (wordsL.contains s.data.toList)) ∧ w' = w := by
  have hl := words_len
  have HC := hide hc
  clear hc
  go_enter Try.func12, Try.ntmps12
  go_wp2
  go_loopw [5] (fun ii wr => ∃ i : Nat, ii = .int .i64 i ∧ i ≤ wordsL.length ∧ (∀ j (h : j < wordsL.length), j < i → wordsL[j] ≠ s.data.toList) ∧ wr = w) (fun ii _ => 40 - (intOf ii).toNat)
  case atStart => exact ⟨0, rfl, Nat.zero_le _, fun j _ h => absurd h (Nat.not_lt_zero _), rfl⟩
  case round =>
    obtain ⟨i, rfl, hi, hF, rfl⟩ := hrel
    have HF := hide hF
    clear hF
    by_cases h : i < wordsL.length
    · have c := unhide HC i h
      have i40 : i < 40 := by omega
      have i40' : (i : Int) < 40 := by omega
      by_cases e : wordsL[i] = s.data.toList
      · have E := hide (show wordsL.contains s.data.toList = true by rw [← e, List.contains_iff_mem]; exact List.getElem_mem h)
        rw [(wordB_eq h).2 e] at c
        go_wp2
        go_ret
        exact ⟨by rw [unhide E]; rfl, rfl⟩
      · have e1 : ¬ (wordB i = s) := fun k => e ((wordB_eq h).1 k)
        have e2 : ((wordB i).toList == s.toList) = false := by
          rw [beq_eq_false_iff_ne]
          intro k
          exact e1 (bytes_ext k)
        generalize wordB i = x at *
        go_wp2
        go_roundw
        case rel =>
          refine ⟨i + 1, rfl, by omega, fun j hj hji => ?_, trivial⟩
          by_cases hji' : j < i
          · exact unhide HF j hj hji'
          · obtain rfl : j = i := by omega
            exact e
        case measure => simp only [intOf]; omega
    · have e : i = 40 := by omega
      have E := hide (show wordsL.contains s.data.toList = false by
        rw [← Bool.not_eq_true]
        intro k
        have k' : s.data.toList ∈ wordsL := by simpa using k
        obtain ⟨j, hj, ej⟩ := List.getElem_of_mem k'
        exact unhide HF j hj (by omega) ej)
      subst e
      go_wp2
      go_ret
      exact ⟨by rw [unhide E]; rfl, rfl⟩

theorem l1In_any (w : World) (n a b : Int) : Calls Try.prog 11 #[.int .i64 n, .int .i64 a, .int .i64 b] w fun e w' => e = .returned (.bool (decide (a ≤ n ∧ n ≤ b))) ∧ w' = w := by
  by_cases h : a ≤ n
  · have h' : decide (a ≤ n) = true := by simpa using h
    by_cases k : n ≤ b
    · rw [show decide (a ≤ n ∧ n ≤ b) = true by simp [h, k]]
      go_enter Try.func11, Try.ntmps11
      go_wp2
      go_ret
      exact ⟨rfl, rfl⟩
    · rw [show decide (a ≤ n ∧ n ≤ b) = false by simp [k]]
      go_enter Try.func11, Try.ntmps11
      go_wp2
      go_ret
      exact ⟨rfl, rfl⟩
  · rw [show decide (a ≤ n ∧ n ≤ b) = false by simp [h]]
    go_enter Try.func11, Try.ntmps11
    go_wp2
    go_ret
    exact ⟨rfl, rfl⟩

theorem l10Name_any (w : World) (s : ByteArray) (hs : s.size ≤ maxLen) :
    Calls Try.prog 6 #[.string s] w fun e w' => e = .returned (.bool (nameB s)) ∧ Below w.heap.size w w' := by
  unfold maxLen at hs
  go_enter Try.func6, Try.ntmps6
  go_wp2
  go_loopw [3] (fun ii wr => ∃ i : Nat, ii = .int .i64 i ∧ i ≤ s.size ∧ (∀ j (h : j < s.size), j < i → lowB s[j] ∨ fgB s[j]) ∧ (0 < i → ∀ h : 0 < s.size, lowB s[0]) ∧ wr = w) (fun ii _ => s.size - (intOf ii).toNat)
  case atStart => exact ⟨0, rfl, Nat.zero_le _, fun j _ h => absurd h (Nat.not_lt_zero _), fun h => absurd h (Nat.not_lt_zero _), rfl⟩
  case round =>
    obtain ⟨i, rfl, hi, hF, hA, rfl⟩ := hrel
    have HF := hide hF
    have HA := hide hA
    clear hF hA
    by_cases h : i < s.size
    · by_cases hlow : lowB s[i]
      · obtain ⟨g1, g2⟩ := id hlow
        have g1' : decide ((97 : Int) ≤ s[i].toNat) = true := by simp; omega
        have g2' : decide ((s[i].toNat : Int) ≤ 122) = true := by simp; omega
        go_wp2
        go_roundw
        case rel =>
          refine ⟨i + 1, rfl, by omega, fun j hj hji => ?_, fun _ h0 => ?_, trivial⟩
          · by_cases hji' : j < i
            · exact unhide HF j hj hji'
            · obtain rfl : j = i := by omega
              exact .inl hlow
          · by_cases hi0 : 0 < i
            · exact unhide HA hi0 h0
            · obtain rfl : i = 0 := by omega
              exact hlow
        case measure => simp only [intOf]; omega
      · by_cases hi0 : i = 0
        · have E : nameB s = false := by
            by_cases hf : fgB s[i]
            · subst hi0
              exact nm_first h hf
            · exact nm_bad i h (fun k => k.elim hlow hf)
          have HE := hide E
          have i0 : ((i : Int) == 0) = true := by simp [hi0]
          clear E hi0
          unfold lowB at hlow
          by_cases g1 : 97 ≤ s[i].toNat
          · have g2 : ¬ s[i].toNat ≤ 122 := fun k => hlow ⟨g1, k⟩
            have g2' : decide ((s[i].toNat : Int) ≤ 122) = false := by simp; omega
            have g1' : decide ((97 : Int) ≤ s[i].toNat) = true := by simp; omega
            clear hlow g1 g2
            go_wp2
            go_ret
            exact ⟨by rw [unhide HE]; rfl, Below.refl _ _⟩
          · clear hlow
            go_wp2
            go_ret
            exact ⟨by rw [unhide HE]; rfl, Below.refl _ _⟩
        · have i0 : ((i : Int) == 0) = false := by rw [beq_eq_false_iff_ne]; omega
          by_cases hf : fgB s[i]
          · obtain ⟨f1, f2⟩ := id hf
            have g1 : ¬ (97 : Int) ≤ s[i].toNat := by omega
            clear hlow
            go_wp2
            go_roundw
            case rel =>
              refine ⟨i + 1, rfl, by omega, fun j hj hji => ?_, fun _ h0 => unhide HA (by omega) h0, trivial⟩
              by_cases hji' : j < i
              · exact unhide HF j hj hji'
              · obtain rfl : j = i := by omega
                exact .inr hf
            case measure => simp only [intOf]; omega
          · have HE := hide (nm_bad i h (fun k => k.elim hlow hf))
            unfold lowB at hlow
            unfold fgB at hf
            by_cases g1 : 97 ≤ s[i].toNat
            · have g2 : ¬ s[i].toNat ≤ 122 := fun k => hlow ⟨g1, k⟩
              have f2 : 57 < s[i].toNat := by omega
              have g2' : decide ((s[i].toNat : Int) ≤ 122) = false := by simp; omega
              have g1' : decide ((97 : Int) ≤ s[i].toNat) = true := by simp; omega
              clear hlow hf g1 g2
              go_wp2
              go_ret
              exact ⟨by rw [unhide HE]; rfl, Below.refl _ _⟩
            · by_cases f1 : s[i].toNat < 48
              · clear hlow hf
                go_wp2
                go_ret
                exact ⟨by rw [unhide HE]; rfl, Below.refl _ _⟩
              · have f2 : 57 < s[i].toNat := by
                  rcases Nat.lt_or_ge 57 s[i].toNat with k | k
                  · exact k
                  · exact absurd ⟨by omega, k⟩ hf
                clear hlow hf
                go_wp2
                go_ret
                exact ⟨by rw [unhide HE]; rfl, Below.refl _ _⟩
    · have e : i = s.size := by omega
      subst e
      have CI := hide (fun W => l1In_any W s.size 1 8)
      have CW := hide (fun W => l10Words_any W)
      have CH := hide (fun W b hc => l10Has_any W b s hc)
      by_cases hz : 1 ≤ s.size ∧ s.size ≤ 8
      · have hz' : decide ((1 : Int) ≤ s.size ∧ (s.size : Int) ≤ 8) = true := by simp; omega
        rw [hz'] at CI
        have E := hide (nm_yes (s := s) (by omega) hz.2 (fun j hj => unhide HF j hj hj) (fun k => by have := unhide HA (by omega) (by omega); unfold lowB fgB at *; omega))
        clear HF HA h
        generalize wordsL.contains s.data.toList = Q at *
        go_wp2_with fail
        refine (unhide CI _).mono ?_
        rintro e w1 ⟨rfl, rfl⟩
        go_wp2_with fail
        refine (unhide CW _).mono ?_
        rintro e w2 ⟨rfl, b2, c2⟩
        go_wp2_with fail
        refine (unhide CH _ _ c2).mono ?_
        rintro e w3 ⟨rfl, rfl⟩
        go_wp2
        go_ret
        exact ⟨by rw [unhide E]; rfl, b2⟩
      · have hz' : decide ((1 : Int) ≤ s.size ∧ (s.size : Int) ≤ 8) = false := by simp; omega
        rw [hz'] at CI
        have E := hide (nm_size hz)
        clear HF HA h CW CH
        go_wp2_with fail
        refine (unhide CI _).mono ?_
        rintro e w1 ⟨rfl, rfl⟩
        go_wp2
        go_ret
        exact ⟨by rw [unhide E]; rfl, Below.refl _ _⟩

theorem specNameOk_any (w : World) (s : ByteArray) (hs : s.size ≤ maxLen) :
    Calls Try.prog 4 #[.string s] w fun e w' => e = .returned (.bool (nameB s)) ∧ Below w.heap.size w w' := by
  have C := hide (fun W => l10Name_any W s hs)
  unfold maxLen at hs
  generalize nameB s = Q at *
  go_enter Try.func4, Try.ntmps4
  go_wp2_with fail
  refine (unhide C _).mono ?_
  rintro e w1 ⟨rfl, b1⟩
  go_wp2
  go_ret
  exact ⟨rfl, b1⟩

end Go.Proofs.Ytbfhnhhieenddaa
