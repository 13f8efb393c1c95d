/- What a text says, read as far as there is something: unmarked of the program. -/
import Derived.Test.YtdklikicngmkbaaGreatDoorG29
import Derived.Test.YtdklikicngmkbaaGreatDoorVgT
namespace Go.Proofs.YtdklikicngmkbaaGreatDoor
open Go.RowKit
set_option maxRecDepth 100000
set_option linter.unusedSimpArgs false
set_option linter.unusedVariables false

/-- What unmarked answers: a content of a kind, and that a value that the text says is its value. -/
def GivesC (w : World) (s : ByteArray) (e : Ending) (w' : World) : Prop := Below w.heap.size w w' ∧ (
  (e = .returned (.iface 92 (.agg #[])) ∧ 0 < s.size ∧ ∀ U, VT s U → U = V0) ∨
  (∃ y, e = .returned (.iface 93 (.bool y)) ∧ 0 < s.size ∧ ∀ U, VT s U → U = V1 y) ∨
  (∃ n ao l cap sc, e = .returned (.iface 94 (.agg #[.bool n, .slice ao l.length cap, .int .i64 sc])) ∧ Own w.heap.size w' (.slice ao l.length cap) l ∧ (0 < s.size ∨ (n = false ∧ l = [] ∧ sc = 0)) ∧ ∀ U, VT s U → U = V2 n l sc) ∨
  (∃ d, e = .returned (.iface 95 (.int .i64 d)) ∧ 0 < s.size ∧ ∀ U, VT s U → U = V3 d) ∨
  (∃ mo da, e = .returned (.iface 96 (.agg #[.int .i64 mo, .int .i64 da])) ∧ 0 < s.size ∧ ∀ U, VT s U → U = V4 mo da) ∨
  (∃ t, e = .returned (.iface 97 (.string t)) ∧ t.size ≤ 2000000 ∧ 0 < s.size ∧ ∀ U, VT s U → U = V5 t))

theorem pos_of_fst {s : ByteArray} {c : Nat} (h : fstB s = c) (h0 : 0 < c) : 0 < s.size := by
  apply Nat.pos_of_ne_zero
  intro z
  unfold fstB at h
  rw [dif_neg (by omega)] at h
  omega

/-- A quote at the end is cut off. -/
def trimT (r : ByteArray) : ByteArray := ⟨(Lib.trimSuffix r.data.toList [39]).toArray⟩
theorem trimT_size (r : ByteArray) : (trimT r).size ≤ r.size := by
  have : (trimT r).size = (Lib.trimSuffix r.data.toList [39]).length := by unfold trimT; exact bytes_size _
  rw [this]
  have hl := list_size r
  unfold Lib.trimSuffix
  split
  · rw [List.length_take]; omega
  · omega
theorem trimQ (w : World) (r : ByteArray) (hr : r.size ≤ 2000000) : Calls Tryz.prog 76 #[.string r, .string ⟨#[39]⟩] w fun e w' => e = .returned (.string (trimT r)) ∧ w' = w := Tryz.strings_TrimSuffix r ⟨#[39]⟩ w (by omega)
theorem rep2_size : ∀ (k : Nat) (s : List UInt8), (Lib.replaceK [39, 39] [39] k s).length ≤ s.length
  | 0, s => Nat.le_refl _
  | k + 1, s => by
    rw [Lib.replaceK]
    split
    · exact Nat.le_refl _
    · rename_i h
      have hge := Lib.index_ge s [39, 39]
      have hm : Lib.index s [39, 39] ≠ -1 := fun e => h (by rw [e]; rfl)
      have hr := Lib.index_room s [39, 39] (by omega)
      have ih := rep2_size k (s.drop ((Lib.index s [39, 39]).toNat + ([39, 39] : List UInt8).length))
      rw [List.length_drop] at ih
      rw [List.length_append, List.length_append, List.length_take]
      have e2 : ([39, 39] : List UInt8).length = 2 := rfl
      have e1 : ([39] : List UInt8).length = 1 := rfl
      rw [e2] at hr ih ⊢
      rw [e1]
      omega
theorem unqT_size (r : ByteArray) (hr : r.size ≤ 2000000) : (unqT r).size ≤ 2000000 := by
  have e : (unqT r).size = (Lib.replaceAll (Lib.trimSuffix r.data.toList [39]) [39, 39] [39]).length := by unfold unqT; exact bytes_size _
  have h1 := trimT_size r
  have e2 : (trimT r).size = (Lib.trimSuffix r.data.toList [39]).length := by unfold trimT; exact bytes_size _
  rw [e]
  unfold Lib.replaceAll Lib.replace
  rw [if_neg (by decide)]
  have := rep2_size (Lib.replaceNum (Lib.trimSuffix r.data.toList [39]) [39, 39] (-1)) (Lib.trimSuffix r.data.toList [39])
  omega
theorem unq_any (w : World) (r : ByteArray) (hr : r.size ≤ 2000000) (mx : Mx w) : Calls Tryz.prog 61 #[.string (trimT r), .string ⟨#[39, 39]⟩, .string ⟨#[39]⟩] w fun e w' => e = .returned (.string (unqT r)) ∧ Below w.heap.size w w' := by
  obtain ⟨m, hm⟩ := mx
  have hz := trimT_size r
  have hc : Lib.countB (trimT r) ⟨#[39, 39]⟩ ≤ (trimT r).size := Lib.countB_le ⟨#[39, 39]⟩ (by decide) _ _ (Nat.le_refl _)
  exact Tryz.strings_ReplaceAll (trimT r) ⟨#[39, 39]⟩ ⟨#[39]⟩ m w (by omega) hm (by decide) (by rw [show (⟨#[39]⟩ : ByteArray).size = 1 from rfl]; omega)

set_option maxHeartbeats 4000000 in
theorem unm_null (w : World) (s : ByteArray) (hs : s.size ≤ 2000000) (tt : Tab w) (he : Er w) (mx : Mx w) (h : (s.toList == [110, 117, 108, 108]) = true) :
    Calls Tryz.prog 36 #[.string s] w (GivesC w s) := by
  have E := hide (show 0 < s.size ∧ ∀ U, VT s U → U = V0 by rw [null_eq h]; exact ⟨by decide, fun U u => one_0 u⟩)
  go_enter Tryz.func36, Tryz.ntmps36
  go_wp2
  go_ret
  exact ⟨Below.refl _ _, .inl ⟨rfl, (unhide E).1, (unhide E).2⟩⟩

set_option maxHeartbeats 4000000 in
theorem unm_truth (w : World) (s : ByteArray) (hs : s.size ≤ 2000000) (tt : Tab w) (he : Er w) (mx : Mx w) (h : (s.toList == [110, 117, 108, 108]) = false) (h1 : (trueB s || falseB s) = true) :
    Calls Tryz.prog 36 #[.string s] w (GivesC w s) := by
  have E := hide (show 0 < s.size ∧ ∀ U, VT s U → U = V1 (trueB s) by
    rw [Bool.or_eq_true] at h1
    rcases h1 with k | k
    · rw [k, tru_eq k]; exact ⟨by decide, fun U u => one_1 u⟩
    · have e := fal_eq k
      have k2 : trueB s = false := by rw [e]; unfold trueB; rw [ByteArray.toList_eq]; decide
      rw [k2, e]; exact ⟨by decide, fun U u => one_1 u⟩)
  have CT := fun W => truthGet_any W s
  simp only [h1] at CT
  generalize trueB s = y at *
  have CT := hide CT
  clear h1
  go_enter Tryz.func36, Tryz.ntmps36
  go_wp2_with fail
  refine (unhide CT _).mono ?_
  rintro e wz ⟨rfl, hw⟩
  subst hw
  go_wp2
  go_ret
  exact ⟨Below.refl _ _, .inr (.inl ⟨y, rfl, (unhide E).1, (unhide E).2⟩)⟩

set_option maxHeartbeats 4000000 in
theorem unm_day (w : World) (s : ByteArray) (hs : s.size ≤ 2000000) (tt : Tab w) (he : Er w) (mx : Mx w) (h : (s.toList == [110, 117, 108, 108]) = false) (h1 : (trueB s || falseB s) = false) (a3 : atB s = true) :
    Calls Tryz.prog 36 #[.string s] w (GivesC w s) := by
  have E := hide (show 0 < s.size ∧ ∀ U, VT s U → U = V3 (dayG (atRest s)) from ⟨pos_of_fst (atB_iff.1 a3) (by decide), fun U u => by
    obtain ⟨d, e, k⟩ := one_3 a3 u
    rw [e, dayG_of k]⟩)
  have CT := fun W => truthGet_any W s
  simp only [h1] at CT
  generalize trueB s = y at *
  have CT := hide CT
  clear h1
  have Cat := fun W => cut_at W s (by unfold maxLen; omega)
  simp only [a3] at Cat
  have Cat := hide Cat
  have CD := hide (fun W (b : Below w.heap.size w W) => implDayGet_any W (atRest s) (tt.later b) (he.later b))
  clear a3
  generalize atRest s = r at *
  generalize dayG r = g at *
  go_enter Tryz.func36, Tryz.ntmps36
  go_wp2_with fail
  refine (unhide CT _).mono ?_
  rintro e wz ⟨rfl, hw⟩
  subst hw
  go_wp2_with fail
  refine (unhide Cat _).mono ?_
  rintro e wz ⟨rfl, hw⟩
  subst hw
  go_wp2_with fail
  refine (unhide CD _ (Below.refl _ _)).mono ?_
  rintro e w2 ⟨rfl, b2⟩
  clear CD
  go_wp2
  go_ret
  exact ⟨b2, .inr (.inr (.inr (.inl ⟨g, rfl, (unhide E).1, (unhide E).2⟩)))⟩

set_option maxHeartbeats 4000000 in
theorem unm_span (w : World) (s : ByteArray) (hs : s.size ≤ 2000000) (tt : Tab w) (he : Er w) (mx : Mx w) (h : (s.toList == [110, 117, 108, 108]) = false) (h1 : (trueB s || falseB s) = false) (a3 : atB s = false) (a4 : hashB s = true) :
    Calls Tryz.prog 36 #[.string s] w (GivesC w s) := by
  have hp := pos_of_fst (hashB_iff.1 a4) (by decide)
  have HS := hide (fun m d (k : SpT (hashRest s) m d) U (u : VT s U) => show U = V4 m d by
    obtain ⟨m', d', e, k'⟩ := one_4 a4 u
    obtain ⟨e1, e2⟩ := span_same k k'
    rw [e, e1, e2])
  have HN := hide (fun (k : ∀ a b, ¬ SpT (hashRest s) a b) U (u : VT s U) => show False by
    obtain ⟨m', d', e, k'⟩ := one_4 a4 u
    exact k _ _ k')
  have CT := fun W => truthGet_any W s
  simp only [h1] at CT
  generalize trueB s = y at *
  have CT := hide CT
  clear h1
  have Cat := fun W => cut_at W s (by unfold maxLen; omega)
  simp only [a3] at Cat
  have Cat := hide Cat
  have Chash := fun W => cut_hash W s (by unfold maxLen; omega)
  simp only [a4] at Chash
  have Chash := hide Chash
  have hz : (hashRest s).size ≤ 2000000 := by unfold hashRest; split <;> (try rw [ByteArray.size_extract]) <;> omega
  have CD := hide (fun W (b : Below w.heap.size w W) => implSpanGet_any W (hashRest s) hz (tt.later b) (he.later b))
  clear a3 a4 hz
  generalize atRest s = r0 at *
  generalize hashRest s = r at *
  go_enter Tryz.func36, Tryz.ntmps36
  go_wp2_with fail
  refine (unhide CT _).mono ?_
  rintro e wz ⟨rfl, hw⟩
  subst hw
  go_wp2_with fail
  refine (unhide Cat _).mono ?_
  rintro e wz ⟨rfl, hw⟩
  subst hw
  go_wp2_with fail
  refine (unhide Chash _).mono ?_
  rintro e wz ⟨rfl, hw⟩
  subst hw
  go_wp2_with fail
  refine (unhide CD _ (Below.refl _ _)).mono ?_
  rintro e w2 ⟨m, d, ok, rfl, b2, hc⟩
  have E := hide (show ∀ U, VT s U → U = V4 m d by
    rcases hc with ⟨-, k⟩ | ⟨-, -, -, k⟩
    · exact unhide HS m d k
    · exact fun U u => (unhide HN k U u).elim)
  have HP := hide hp
  clear CD hc HS HN hp
  go_wp2
  go_ret
  exact ⟨by first | exact b2 | exact b2.alloc b2.size _, .inr (.inr (.inr (.inr (.inl ⟨m, d, rfl, unhide HP, unhide E⟩))))⟩

set_option maxHeartbeats 4000000 in
theorem unm_text (w : World) (s : ByteArray) (hs : s.size ≤ 2000000) (tt : Tab w) (he : Er w) (mx : Mx w) (h : (s.toList == [110, 117, 108, 108]) = false) (h1 : (trueB s || falseB s) = false) (a3 : atB s = false) (a4 : hashB s = false) (a5 : quotB s = true) :
    Calls Tryz.prog 36 #[.string s] w (GivesC w s) := by
  have E := hide (show 0 < s.size ∧ ∀ U, VT s U → U = V5 (unqT (quotRest s)) from ⟨pos_of_fst (quotB_iff.1 a5) (by decide), fun U u => by
    obtain ⟨t, e, -, k⟩ := one_5 a5 u
    rw [e, unq_of a5 k]⟩)
  have CT := fun W => truthGet_any W s
  simp only [h1] at CT
  generalize trueB s = y at *
  have CT := hide CT
  clear h1
  have Cat := fun W => cut_at W s (by unfold maxLen; omega)
  simp only [a3] at Cat
  have Cat := hide Cat
  have Chash := fun W => cut_hash W s (by unfold maxLen; omega)
  simp only [a4] at Chash
  have Chash := hide Chash
  have Cquot := fun W => cut_quot W s (by unfold maxLen; omega)
  simp only [a5] at Cquot
  have Cquot := hide Cquot
  have hz : (quotRest s).size ≤ 2000000 := by unfold quotRest; split <;> (try rw [ByteArray.size_extract]) <;> omega
  have CS := hide (fun W => trimQ W (quotRest s) hz)
  have CR := hide (fun W (b : Below w.heap.size w W) => unq_any W (quotRest s) hz (mx.later b))
  have HZ := hide (unqT_size (quotRest s) hz)
  clear a3 a4 a5 hz
  generalize quotRest s = r at *
  generalize unqT r = t at *
  generalize trimT r = r2 at *
  generalize atRest s = ra at *
  generalize hashRest s = rb at *
  go_enter Tryz.func36, Tryz.ntmps36
  go_wp2_with fail
  refine (unhide CT _).mono ?_
  rintro e wz ⟨rfl, hw⟩
  subst hw
  go_wp2_with fail
  refine (unhide Cat _).mono ?_
  rintro e wz ⟨rfl, hw⟩
  subst hw
  go_wp2_with fail
  refine (unhide Chash _).mono ?_
  rintro e wz ⟨rfl, hw⟩
  subst hw
  go_wp2_with fail
  refine (unhide Cquot _).mono ?_
  rintro e wz ⟨rfl, hw⟩
  subst hw
  go_wp2_with fail
  refine (unhide CS _).mono ?_
  rintro e wz ⟨rfl, hw⟩
  subst hw
  go_wp2_with fail
  refine (unhide CR _ (Below.refl _ _)).mono ?_
  rintro e w2 ⟨rfl, b2⟩
  clear CR
  go_wp2
  go_ret
  exact ⟨b2, .inr (.inr (.inr (.inr (.inr ⟨t, rfl, unhide HZ, (unhide E).1, (unhide E).2⟩))))⟩

set_option maxHeartbeats 4000000 in
theorem unm_num (w : World) (s : ByteArray) (hs : s.size ≤ 2000000) (tt : Tab w) (he : Er w) (mx : Mx w) (h : (s.toList == [110, 117, 108, 108]) = false) (h1 : (trueB s || falseB s) = false) (a3 : atB s = false) (a4 : hashB s = false) (a5 : quotB s = false) :
    Calls Tryz.prog 36 #[.string s] w (GivesC w s) := by
  obtain ⟨d, hd⟩ := dot_is (restB s)
  have CD := fun W (b : Below w.heap.size w W) => implDecGet_any W s d hd (by unfold maxLen; omega) (tt.later b)
  obtain ⟨O, hO⟩ : ∃ O, dgetR (negB s) ((restB s).extract 0 d) (partOf (restB s) d) (decide (d < (restB s).size)) = O := ⟨_, rfl⟩
  have HG := num_get hd hO
  rw [hO] at CD
  have E := hide (show (0 < s.size ∨ (O.1 = false ∧ O.2.1 = [] ∧ O.2.2.1 = 0)) ∧ ∀ U, VT s U → U = V2 O.1 O.2.1 O.2.2.1 from ⟨by
    by_cases hp : 0 < s.size
    · exact .inl hp
    · right
      cases hk : O.2.2.2 with
      | false => rw [HG.2.1 hk]; exact ⟨rfl, rfl, rfl⟩
      | true => exact absurd (vt_2 (HG.1 hk).1 (HG.1 hk).2) (fun u => vt_none (by omega) u), fun U u => by
    rw [Bool.or_eq_false_iff] at h1
    obtain ⟨n, l, sc, e, a, b⟩ := one_2 (not_null h) (not_tru h1.1 h1.2) a3 a4 a5 u
    have := HG.2.2 n l sc a b
    rw [e, this]⟩)
  clear hO HG hd
  have CD := hide CD
  obtain ⟨on, ol, os, ok⟩ := O
  simp only at E
  have CT := fun W => truthGet_any W s
  simp only [h1] at CT
  generalize trueB s = y at *
  have CT := hide CT
  clear h1
  have Cat := fun W => cut_at W s (by unfold maxLen; omega)
  simp only [a3] at Cat
  have Cat := hide Cat
  have Chash := fun W => cut_hash W s (by unfold maxLen; omega)
  simp only [a4] at Chash
  have Chash := hide Chash
  have Cquot := fun W => cut_quot W s (by unfold maxLen; omega)
  simp only [a5] at Cquot
  have Cquot := hide Cquot
  clear a3 a4 a5
  generalize atRest s = ra at *
  generalize hashRest s = rb at *
  generalize quotRest s = rc at *
  go_enter Tryz.func36, Tryz.ntmps36
  go_wp2_with fail
  refine (unhide CT _).mono ?_
  rintro e wz ⟨rfl, hw⟩
  subst hw
  go_wp2_with fail
  refine (unhide Cat _).mono ?_
  rintro e wz ⟨rfl, hw⟩
  subst hw
  go_wp2_with fail
  refine (unhide Chash _).mono ?_
  rintro e wz ⟨rfl, hw⟩
  subst hw
  go_wp2_with fail
  refine (unhide Cquot _).mono ?_
  rintro e wz ⟨rfl, hw⟩
  subst hw
  go_wp2_with fail
  refine (unhide CD _ (Below.refl _ _)).mono ?_
  rintro e w2 ⟨ao, cap, rfl, o2, b2⟩
  clear CD
  go_wp2
  go_ret
  exact ⟨by first | exact b2 | exact b2.alloc b2.size _, .inr (.inr (.inl ⟨on, ao, ol, cap, os, rfl, by first | exact o2 | exact o2.later ((Below.refl _ _).alloc (Nat.le_refl _) _), (unhide E).1, (unhide E).2⟩))⟩

theorem unmarked_any (w : World) (s : ByteArray) (hs : s.size ≤ 2000000) (tt : Tab w) (he : Er w) (mx : Mx w) :
    Calls Tryz.prog 36 #[.string s] w (GivesC w s) := by
  cases h : s.toList == [110, 117, 108, 108] with
  | true => exact unm_null w s hs tt he mx h
  | false =>
    cases h1 : trueB s || falseB s with
    | true => exact unm_truth w s hs tt he mx h h1
    | false =>
      cases a3 : atB s with
      | true => exact unm_day w s hs tt he mx h h1 a3
      | false =>
        cases a4 : hashB s with
        | true => exact unm_span w s hs tt he mx h h1 a3 a4
        | false =>
          cases a5 : quotB s with
          | true => exact unm_text w s hs tt he mx h h1 a3 a4 a5
          | false => exact unm_num w s hs tt he mx h h1 a3 a4 a5

end Go.Proofs.YtdklikicngmkbaaGreatDoor
