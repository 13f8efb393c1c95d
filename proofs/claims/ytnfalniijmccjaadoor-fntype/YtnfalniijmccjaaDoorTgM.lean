/- Texts of types, taken apart. Plain mathematics, and TypePut of both at any type. -/
import Derived.Test.YtnfalniijmccjaaDoorTypP
import Derived.Test.YtnfalniijmccjaaDoorSgB
import Derived.Test.YtnfalniijmccjaaDoorIxS
import Derived.Test.YtnfalniijmccjaaDoorStT
namespace Go.Proofs.YtnfalniijmccjaaDoor
open Go.RowKit

/-- The text of a type that is ok. -/
def typeT (k d c : Int) : ByteArray :=
  if k = 1 then ⟨#[98, 111, 111, 108]⟩ else if k = 3 then ⟨#[100, 97, 121]⟩ else if k = 4 then ⟨#[115, 112, 97, 110]⟩ else if k = 5 then ⟨#[116, 101, 120, 116]⟩ else numT d c

/-- A text is a type's. -/
def TypT (s : ByteArray) (k d c : Int) : Prop := TypeIs k d c ∧ typeT k d c = s

/-- What TypePut writes. -/
def typePutR (k d c : Int) : ByteArray := if TypeIs k d c then typeT k d c else ⟨#[]⟩

theorem type_kinds {k d c : Int} (h : TypeIs k d c) : (k = 2 ∧ (1 ≤ d ∧ d ≤ 30) ∧ (0 ≤ c ∧ c ≤ 12) ∧ c ≤ d) ∨ (k = 1 ∧ d = 0 ∧ c = 0) ∨ (k = 3 ∧ d = 0 ∧ c = 0) ∨ (k = 4 ∧ d = 0 ∧ c = 0) ∨ (k = 5 ∧ d = 0 ∧ c = 0) := by
  unfold TypeIs at h
  split at h
  · exact .inl ⟨by assumption, h⟩
  · omega

theorem numT_list (d c : Int) : (numT d c).data.toList = [110, 117, 109] ++ 40 :: (Lib.itoa d ++ 44 :: (Lib.itoa c ++ [41])) := by
  unfold numT itxt
  rw [show (⟨#[110, 117, 109, 40]⟩ : ByteArray) = ⟨([110, 117, 109, 40] : List UInt8).toArray⟩ from rfl, show (⟨#[44]⟩ : ByteArray) = ⟨([44] : List UInt8).toArray⟩ from rfl, show (⟨#[41]⟩ : ByteArray) = ⟨([41] : List UInt8).toArray⟩ from rfl, bytes_cat, bytes_cat, bytes_cat, bytes_cat]
  simp

theorem itoa_low {v : Int} {b : UInt8} (h0 : b.toNat < 45) : ∀ c ∈ Lib.itoa v, c ≠ b := by
  intro c hc e
  subst e
  rcases itoa_bytes v c hc with h | h
  · unfold IsD at h
    omega
  · rw [h] at h0
    exact absurd h0 (by decide)

theorem implTypePut_any (w : World) (k d c : Int) (ht : Tab w) : Calls Tryd.prog 25 #[.agg #[.int .i64 k, .int .i64 d, .int .i64 c]] w fun e w' => e = .returned (.string (typePutR k d c)) ∧ Below w.heap.size w w' := by
  by_cases h : TypeIs k d c
  · rw [show typePutR k d c = typeT k d c from by unfold typePutR; rw [if_pos h]]
    rcases type_kinds h with ⟨rfl, -⟩ | ⟨rfl, rfl, rfl⟩ | ⟨rfl, rfl, rfl⟩ | ⟨rfl, rfl, rfl⟩ | ⟨rfl, rfl, rfl⟩
    · exact implTypePut_2 w d c h ht
    · exact implTypePut_1 w
    · exact implTypePut_3 w
    · exact implTypePut_4 w
    · exact implTypePut_5 w
  · rw [show typePutR k d c = ⟨#[]⟩ from by unfold typePutR; rw [if_neg h]]
    exact implTypePut_no w k d c h

theorem specTypePut_any (w : World) (k d c : Int) : Calls Tryd.prog 27 #[.agg #[.int .i64 k, .int .i64 d, .int .i64 c]] w fun e w' => e = .returned (.string (typePutR k d c)) ∧ Below w.heap.size w w' := by
  by_cases h : TypeIs k d c
  · rw [show typePutR k d c = typeT k d c from by unfold typePutR; rw [if_pos h]]
    rcases type_kinds h with ⟨rfl, -⟩ | ⟨rfl, rfl, rfl⟩ | ⟨rfl, rfl, rfl⟩ | ⟨rfl, rfl, rfl⟩ | ⟨rfl, rfl, rfl⟩
    · exact specTypePut_2 w d c h
    · exact specTypePut_1 w
    · exact specTypePut_3 w
    · exact specTypePut_4 w
    · exact specTypePut_5 w
  · rw [show typePutR k d c = ⟨#[]⟩ from by unfold typePutR; rw [if_neg h]]
    exact specTypePut_no w k d c h

/-- A text that is no kind's name. -/
theorem typT_num {s : ByteArray} (h1 : s ≠ ⟨#[98, 111, 111, 108]⟩) (h3 : s ≠ ⟨#[100, 97, 121]⟩) (h4 : s ≠ ⟨#[115, 112, 97, 110]⟩) (h5 : s ≠ ⟨#[116, 101, 120, 116]⟩) {k d c : Int} (h : TypT s k d c) : k = 2 ∧ TypeIs 2 d c ∧ numT d c = s := by
  obtain ⟨hi, ht⟩ := h
  rcases type_kinds hi with ⟨rfl, -⟩ | ⟨rfl, rfl, rfl⟩ | ⟨rfl, rfl, rfl⟩ | ⟨rfl, rfl, rfl⟩ | ⟨rfl, rfl, rfl⟩
  · exact ⟨rfl, hi, ht⟩
  · exact absurd ht.symm h1
  · exact absurd ht.symm h3
  · exact absurd ht.symm h4
  · exact absurd ht.symm h5

theorem typT_of_num {s : ByteArray} {d c : Int} (h : TypeIs 2 d c) (e : numT d c = s) : TypT s 2 d c := ⟨h, e⟩

theorem start_num {s : ByteArray} : startB s ⟨#[110, 117, 109, 40]⟩ = true ↔ ∃ R, s.data.toList = [110, 117, 109, 40] ++ R := by
  have h4 : (⟨#[110, 117, 109, 40]⟩ : ByteArray).size = 4 := rfl
  have hl := list_size s
  unfold startB
  rw [h4, Bool.and_eq_true, decide_eq_true_eq, beq_iff_eq, ByteArray.toList_eq, ByteArray.toList_eq, ext_list, List.drop_zero]
  constructor
  · rintro ⟨h, e⟩
    exact ⟨s.data.toList.drop 4, by conv => lhs; rw [← List.take_append_drop 4 s.data.toList, e]⟩
  · rintro ⟨R, e⟩
    rw [e] at hl ⊢
    refine ⟨by simp at hl; omega, by rfl⟩

/-- What the specification sees of a type of numbers: its head, its end, and what is between. -/
theorem spec_num {s : ByteArray} {n : Nat} (hn : s.size = n + 1) {d c : Int} (h : numT d c = s) :
    startB s ⟨#[110, 117, 109, 40]⟩ = true ∧ (∀ hn' : n < s.size, s[n].toNat = 41) ∧ 4 ≤ n ∧ (s.extract 4 n).data.toList = Lib.itoa d ++ 44 :: Lib.itoa c := by
  have hl := numT_list d c
  rw [h] at hl
  have hs := list_size s
  obtain ⟨e1, e2⟩ := snoc_ext (A := [110, 117, 109] ++ 40 :: (Lib.itoa d ++ 44 :: Lib.itoa c)) (c := 41) (by rw [hl]; simp) hn
  refine ⟨start_num.2 ⟨Lib.itoa d ++ 44 :: (Lib.itoa c ++ [41]), by rw [hl]; simp⟩, e2, ?_, ?_⟩
  · rw [hl] at hs
    simp at hs
    omega
  · rw [ext_list]
    rw [ext_list, List.drop_zero] at e1
    rw [e1]
    rfl

theorem spec_num_back {s : ByteArray} {n k : Nat} (hn : s.size = n + 1) (hn' : n < s.size) (hs : startB s ⟨#[110, 117, 109, 40]⟩ = true) (he : s[n].toNat = 41) (h4 : 4 ≤ n) (hk : CAt 44 (s.extract 4 n) k) (hks : k < (s.extract 4 n).size) {d c : Nat}
    (hd : NumT ((s.extract 4 n).extract 0 k) d) (hc : NumT ((s.extract 4 n).extract (k + 1) (s.extract 4 n).size) c) : numT d c = s := by
  obtain ⟨R, hR⟩ := start_num.1 hs
  apply of_list
  have e := ext_snoc hn hn' (c := 41) he
  have hl := list_size s
  have p := cat_parts hk hks
  rw [hd.1, hc.1] at p
  have i1 : Lib.itoa (d : Int) = Lib.decDigits d := rfl
  have i2 : Lib.itoa (c : Int) = Lib.decDigits c := rfl
  rw [numT_list, i1, i2, e, ext_list, List.drop_zero]
  have t4 : (s.data.toList.take n).take 4 = [110, 117, 109, 40] := by
    rw [List.take_take, Nat.min_eq_left h4, hR]
    rfl
  have d4 : (s.data.toList.take n).drop 4 = Lib.decDigits d ++ 44 :: Lib.decDigits c := by rw [← ext_list]; exact p
  rw [← List.take_append_drop 4 (s.data.toList.take n), t4, d4]
  simp

theorem numT_four {s : ByteArray} {n : Nat} (hn : s.size = n + 1) (hn' : n < s.size) (hs : startB s ⟨#[110, 117, 109, 40]⟩ = true) (he : s[n].toNat = 41) : 4 ≤ n := by
  obtain ⟨R, hR⟩ := start_num.1 hs
  have hl := list_size s
  have e := ext_snoc hn hn' (c := 41) he
  rcases Nat.lt_or_ge n 4 with h | h
  · exfalso
    have hn4 : n = 3 := by
      rw [hR] at hl
      simp at hl
      omega
    subst hn4
    rw [hR] at e
    have e3 := congrArg (fun l => l[3]?) e
    simp only [ext_list, List.drop_zero, hR] at e3
    simp at e3
  · exact h

/-- What stands ahead of a parenthesis at the end. -/
def cutP (B : ByteArray) : ByteArray := ⟨(Lib.trimSuffix B.data.toList [41]).toArray⟩

theorem cutP_list (B : ByteArray) (A : List UInt8) (h : B.data.toList = A ++ [41]) : (cutP B).data.toList = A := by
  unfold cutP
  rw [h]
  have hs : Lib.hasSuffix (A ++ [41]) [41] = true := by simp [Lib.hasSuffix]
  simp [Lib.trimSuffix, hs]

theorem cutP_size (B : ByteArray) : (cutP B).size ≤ B.size := by
  have : (cutP B).size = (Lib.trimSuffix B.data.toList [41]).length := by unfold cutP; exact bytes_size _
  rw [this]
  have hl := list_size B
  unfold Lib.trimSuffix
  split
  · rw [List.length_take]; omega
  · omega

/-- The names of kinds. -/
def namesT : List ByteArray := [⟨#[]⟩, ⟨#[98, 111, 111, 108]⟩, ⟨#[110, 117, 109]⟩, ⟨#[100, 97, 121]⟩, ⟨#[115, 112, 97, 110]⟩, ⟨#[116, 101, 120, 116]⟩]

theorem cat_none {c : UInt8} {s : ByteArray} {k : Nat} (h : ∀ x ∈ s.data.toList, x ≠ c) (hk : CAt c s k) : k = s.size := by
  rcases Nat.lt_or_ge k s.size with q | q
  · exfalso
    have e := hk.2.2 q
    have e2 : s[k] = s.data.toList[k]'(by rw [list_size]; exact q) := by simp [ByteArray.getElem_eq_getElem_data]
    rw [e2] at e
    exact h _ (List.getElem_mem _) (UInt8.toNat_inj.1 e)
  · have := hk.1; omega

/-- The program's way at a text without a parenthesis. -/
theorem impl_plain {s : ByteArray} {k k2 : Nat} (h : ∀ x ∈ s.data.toList, x ≠ 40) (hk : CAt 40 s k) (hk2 : CAt 44 (cutP (partC s k)) k2) :
    s.extract 0 k = s ∧ numB ((cutP (partC s k)).extract 0 k2).data.toList = 0 ∧ numB (partC (cutP (partC s k)) k2).data.toList = 0 := by
  have e := cat_none h hk
  have ep : partC s k = ⟨#[]⟩ := by unfold partC; rw [if_neg (by omega)]
  rw [ep] at hk2 ⊢
  have ec : cutP ⟨#[]⟩ = ⟨#[]⟩ := by decide
  rw [ec] at hk2 ⊢
  have ek : k2 = 0 := Nat.le_zero.1 hk2.1
  subst ek
  refine ⟨by rw [e]; exact ByteArray.extract_zero_size, by decide, by decide⟩

theorem impl_type {s : ByteArray} {k k2 : Nat} (hk : CAt 40 s k) (hk2 : CAt 44 (cutP (partC s k)) k2) {a b c : Int} (h : TypT s a b c) :
    a = ixFrom (s.extract 0 k) 0 namesT ∧ b = numB ((cutP (partC s k)).extract 0 k2).data.toList ∧ c = numB (partC (cutP (partC s k)) k2).data.toList := by
  obtain ⟨hi, rfl⟩ := h
  rcases type_kinds hi with ⟨rfl, h1, h2, h3⟩ | ⟨rfl, rfl, rfl⟩ | ⟨rfl, rfl, rfl⟩ | ⟨rfl, rfl, rfl⟩ | ⟨rfl, rfl, rfl⟩
  · have hs : typeT 2 b c = numT b c := rfl
    rw [hs] at hk hk2 ⊢
    have hl := numT_list b c
    obtain ⟨p1, p2, p3⟩ := cat_same hl (by decide) hk
    have pp : partC (numT b c) k = (numT b c).extract (k + 1) (numT b c).size := by unfold partC; rw [if_pos p1]
    rw [pp] at hk2 ⊢
    have pc := cutP_list _ (Lib.itoa b ++ 44 :: Lib.itoa c) (by rw [p3]; simp)
    obtain ⟨q1, q2, q3⟩ := cat_same pc (itoa_low (by decide)) hk2
    have qp : partC (cutP ((numT b c).extract (k + 1) (numT b c).size)) k2 = (cutP ((numT b c).extract (k + 1) (numT b c).size)).extract (k2 + 1) (cutP ((numT b c).extract (k + 1) (numT b c).size)).size := by unfold partC; rw [if_pos q1]
    rw [qp, q2, q3, numB_itoa (by omega), numB_itoa (by omega)]
    have en : (numT b c).extract 0 k = ⟨#[110, 117, 109]⟩ := of_list p2
    rw [en]
    exact ⟨by decide, rfl, rfl⟩
  all_goals
    obtain ⟨e1, e2, e3⟩ := impl_plain (by decide) hk hk2
    rw [e1, e2, e3]
    exact ⟨by decide, rfl, rfl⟩

end Go.Proofs.YtnfalniijmccjaaDoor
