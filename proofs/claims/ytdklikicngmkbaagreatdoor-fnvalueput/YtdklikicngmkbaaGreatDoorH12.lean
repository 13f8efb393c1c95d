/- What a text says, read as far as there is something: unmarked of the program. A value read of a text: ValueGet of the program. -/
import Derived.Test.YtdklikicngmkbaaGreatDoorG29
import Derived.Test.YtdklikicngmkbaaGreatDoorG26
namespace Go.Proofs.YtdklikicngmkbaaGreatDoor
open Go.RowKit
set_option maxRecDepth 100000
set_option linter.unusedSimpArgs false
set_option linter.unusedVariables false

/-- What unmarked answers: a content of a kind, and that a value that the text says is its value. -/
def GivesC (w : World) (s : ByteArray) (e : Ending) (w' : World) : Prop := Below w.heap.size w w' ∧ (
  (e = .returned (.iface 92 (.agg #[])) ∧ 0 < s.size ∧ ∀ U, VT s U → U = V0) ∨
  (∃ y, e = .returned (.iface 93 (.bool y)) ∧ 0 < s.size ∧ ∀ U, VT s U → U = V1 y) ∨
  (∃ n ao l cap sc, e = .returned (.iface 94 (.agg #[.bool n, .slice ao l.length cap, .int .i64 sc])) ∧ Own w.heap.size w' (.slice ao l.length cap) l ∧ (0 < s.size ∨ (n = false ∧ l = [] ∧ sc = 0)) ∧ ∀ U, VT s U → U = V2 n l sc) ∨
  (∃ d, e = .returned (.iface 95 (.int .i64 d)) ∧ 0 < s.size ∧ ∀ U, VT s U → U = V3 d) ∨
  (∃ mo da, e = .returned (.iface 96 (.agg #[.int .i64 mo, .int .i64 da])) ∧ 0 < s.size ∧ ∀ U, VT s U → U = V4 mo da) ∨
  (∃ t, e = .returned (.iface 97 (.string t)) ∧ t.size ≤ 2000000 ∧ 0 < s.size ∧ ∀ U, VT s U → U = V5 t))

theorem pos_of_fst {s : ByteArray} {c : Nat} (h : fstB s = c) (h0 : 0 < c) : 0 < s.size := by
  apply Nat.pos_of_ne_zero
  intro z
  unfold fstB at h
  rw [dif_neg (by omega)] at h
  omega

/-- A quote at the end is cut off. -/
def trimT (r : ByteArray) : ByteArray := ⟨(Lib.trimSuffix r.data.toList [39]).toArray⟩
theorem trimT_size (r : ByteArray) : (trimT r).size ≤ r.size := by
  have : (trimT r).size = (Lib.trimSuffix r.data.toList [39]).length := by unfold trimT; exact bytes_size _
  rw [this]
  have hl := list_size r
  unfold Lib.trimSuffix
  split
  · rw [List.length_take]; omega
  · omega
theorem trimQ (w : World) (r : ByteArray) (hr : r.size ≤ 2000000) : Calls Tryz.prog 76 #[.string r, .string ⟨#[39]⟩] w fun e w' => e = .returned (.string (trimT r)) ∧ w' = w := Tryz.strings_TrimSuffix r ⟨#[39]⟩ w (by omega)
theorem rep2_size : ∀ (k : Nat) (s : List UInt8), (Lib.replaceK [39, 39] [39] k s).length ≤ s.length
  | 0, s => Nat.le_refl _
  | k + 1, s => by
    rw [Lib.replaceK]
    split
    · exact Nat.le_refl _
    · rename_i h
      have hge := Lib.index_ge s [39, 39]
      have hm : Lib.index s [39, 39] ≠ -1 := fun e => h (by rw [e]; rfl)
      have hr := Lib.index_room s [39, 39] (by omega)
      have ih := rep2_size k (s.drop ((Lib.index s [39, 39]).toNat + ([39, 39] : List UInt8).length))
      rw [List.length_drop] at ih
      rw [List.length_append, List.length_append, List.length_take]
      have e2 : ([39, 39] : List UInt8).length = 2 := rfl
      have e1 : ([39] : List UInt8).length = 1 := rfl
      rw [e2] at hr ih ⊢
      rw [e1]
      omega
theorem unqT_size (r : ByteArray) (hr : r.size ≤ 2000000) : (unqT r).size ≤ 2000000 := by
  have e : (unqT r).size = (Lib.replaceAll (Lib.trimSuffix r.data.toList [39]) [39, 39] [39]).length := by unfold unqT; exact bytes_size _
  have h1 := trimT_size r
  have e2 : (trimT r).size = (Lib.trimSuffix r.data.toList [39]).length := by unfold trimT; exact bytes_size _
  rw [e]
  unfold Lib.replaceAll Lib.replace
  rw [if_neg (by decide)]
  have := rep2_size (Lib.replaceNum (Lib.trimSuffix r.data.toList [39]) [39, 39] (-1)) (Lib.trimSuffix r.data.toList [39])
  omega
theorem unq_any (w : World) (r : ByteArray) (hr : r.size ≤ 2000000) (mx : Mx w) : Calls Tryz.prog 61 #[.string (trimT r), .string ⟨#[39, 39]⟩, .string ⟨#[39]⟩] w fun e w' => e = .returned (.string (unqT r)) ∧ Below w.heap.size w w' := by
  obtain ⟨m, hm⟩ := mx
  have hz := trimT_size r
  have hc : Lib.countB (trimT r) ⟨#[39, 39]⟩ ≤ (trimT r).size := Lib.countB_le ⟨#[39, 39]⟩ (by decide) _ _ (Nat.le_refl _)
  exact Tryz.strings_ReplaceAll (trimT r) ⟨#[39, 39]⟩ ⟨#[39]⟩ m w (by omega) hm (by decide) (by rw [show (⟨#[39]⟩ : ByteArray).size = 1 from rfl]; omega)

set_option maxHeartbeats 4000000 in
theorem unm_null (w : World) (s : ByteArray) (hs : s.size ≤ 2000000) (tt : Tab w) (he : Er w) (mx : Mx w) (h : (s.toList == [110, 117, 108, 108]) = true) :
    Calls Tryz.prog 36 #[.string s] w (GivesC w s) := by
  have E := hide (show 0 < s.size ∧ ∀ U, VT s U → U = V0 by rw [null_eq h]; exact ⟨by decide, fun U u => one_0 u⟩)
  go_enter Tryz.func36, Tryz.ntmps36
  go_wp2
  go_ret
  exact ⟨Below.refl _ _, .inl ⟨rfl, (unhide E).1, (unhide E).2⟩⟩

set_option maxHeartbeats 4000000 in
theorem unm_truth (w : World) (s : ByteArray) (hs : s.size ≤ 2000000) (tt : Tab w) (he : Er w) (mx : Mx w) (h : (s.toList == [110, 117, 108, 108]) = false) (h1 : (trueB s || falseB s) = true) :
    Calls Tryz.prog 36 #[.string s] w (GivesC w s) := by
  have E := hide (show 0 < s.size ∧ ∀ U, VT s U → U = V1 (trueB s) by
    rw [Bool.or_eq_true] at h1
    rcases h1 with k | k
    · rw [k, tru_eq k]; exact ⟨by decide, fun U u => one_1 u⟩
    · have e := fal_eq k
      have k2 : trueB s = false := by rw [e]; unfold trueB; rw [ByteArray.toList_eq]; decide
      rw [k2, e]; exact ⟨by decide, fun U u => one_1 u⟩)
  have CT := fun W => truthGet_any W s
  simp only [h1] at CT
  generalize trueB s = y at *
  have CT := hide CT
  clear h1
  go_enter Tryz.func36, Tryz.ntmps36
  go_wp2_with fail
  refine (unhide CT _).mono ?_
  rintro e wz ⟨rfl, hw⟩
  subst hw
  go_wp2
  go_ret
  exact ⟨Below.refl _ _, .inr (.inl ⟨y, rfl, (unhide E).1, (unhide E).2⟩)⟩

set_option maxHeartbeats 4000000 in
theorem unm_day (w : World) (s : ByteArray) (hs : s.size ≤ 2000000) (tt : Tab w) (he : Er w) (mx : Mx w) (h : (s.toList == [110, 117, 108, 108]) = false) (h1 : (trueB s || falseB s) = false) (a3 : atB s = true) :
    Calls Tryz.prog 36 #[.string s] w (GivesC w s) := by
  have E := hide (show 0 < s.size ∧ ∀ U, VT s U → U = V3 (dayG (atRest s)) from ⟨pos_of_fst (atB_iff.1 a3) (by decide), fun U u => by
    obtain ⟨d, e, k⟩ := one_3 a3 u
    rw [e, dayG_of k]⟩)
  have CT := fun W => truthGet_any W s
  simp only [h1] at CT
  generalize trueB s = y at *
  have CT := hide CT
  clear h1
  have Cat := fun W => cut_at W s (by unfold maxLen; omega)
  simp only [a3] at Cat
  have Cat := hide Cat
  have CD := hide (fun W (b : Below w.heap.size w W) => implDayGet_any W (atRest s) (tt.later b) (he.later b))
  clear a3
  generalize atRest s = r at *
  generalize dayG r = g at *
  go_enter Tryz.func36, Tryz.ntmps36
  go_wp2_with fail
  refine (unhide CT _).mono ?_
  rintro e wz ⟨rfl, hw⟩
  subst hw
  go_wp2_with fail
  refine (unhide Cat _).mono ?_
  rintro e wz ⟨rfl, hw⟩
  subst hw
  go_wp2_with fail
  refine (unhide CD _ (Below.refl _ _)).mono ?_
  rintro e w2 ⟨rfl, b2⟩
  clear CD
  go_wp2
  go_ret
  exact ⟨b2, .inr (.inr (.inr (.inl ⟨g, rfl, (unhide E).1, (unhide E).2⟩)))⟩

set_option maxHeartbeats 4000000 in
theorem unm_span (w : World) (s : ByteArray) (hs : s.size ≤ 2000000) (tt : Tab w) (he : Er w) (mx : Mx w) (h : (s.toList == [110, 117, 108, 108]) = false) (h1 : (trueB s || falseB s) = false) (a3 : atB s = false) (a4 : hashB s = true) :
    Calls Tryz.prog 36 #[.string s] w (GivesC w s) := by
  have hp := pos_of_fst (hashB_iff.1 a4) (by decide)
  have HS := hide (fun m d (k : SpT (hashRest s) m d) U (u : VT s U) => show U = V4 m d by
    obtain ⟨m', d', e, k'⟩ := one_4 a4 u
    obtain ⟨e1, e2⟩ := span_same k k'
    rw [e, e1, e2])
  have HN := hide (fun (k : ∀ a b, ¬ SpT (hashRest s) a b) U (u : VT s U) => show False by
    obtain ⟨m', d', e, k'⟩ := one_4 a4 u
    exact k _ _ k')
  have CT := fun W => truthGet_any W s
  simp only [h1] at CT
  generalize trueB s = y at *
  have CT := hide CT
  clear h1
  have Cat := fun W => cut_at W s (by unfold maxLen; omega)
  simp only [a3] at Cat
  have Cat := hide Cat
  have Chash := fun W => cut_hash W s (by unfold maxLen; omega)
  simp only [a4] at Chash
  have Chash := hide Chash
  have hz : (hashRest s).size ≤ 2000000 := by unfold hashRest; split <;> (try rw [ByteArray.size_extract]) <;> omega
  have CD := hide (fun W (b : Below w.heap.size w W) => implSpanGet_any W (hashRest s) hz (tt.later b) (he.later b))
  clear a3 a4 hz
  generalize atRest s = r0 at *
  generalize hashRest s = r at *
  go_enter Tryz.func36, Tryz.ntmps36
  go_wp2_with fail
  refine (unhide CT _).mono ?_
  rintro e wz ⟨rfl, hw⟩
  subst hw
  go_wp2_with fail
  refine (unhide Cat _).mono ?_
  rintro e wz ⟨rfl, hw⟩
  subst hw
  go_wp2_with fail
  refine (unhide Chash _).mono ?_
  rintro e wz ⟨rfl, hw⟩
  subst hw
  go_wp2_with fail
  refine (unhide CD _ (Below.refl _ _)).mono ?_
  rintro e w2 ⟨m, d, ok, rfl, b2, hc⟩
  have E := hide (show ∀ U, VT s U → U = V4 m d by
    rcases hc with ⟨-, k⟩ | ⟨-, -, -, k⟩
    · exact unhide HS m d k
    · exact fun U u => (unhide HN k U u).elim)
  have HP := hide hp
  clear CD hc HS HN hp
  go_wp2
  go_ret
  exact ⟨by first | exact b2 | exact b2.alloc b2.size _, .inr (.inr (.inr (.inr (.inl ⟨m, d, rfl, unhide HP, unhide E⟩))))⟩

set_option maxHeartbeats 4000000 in
theorem unm_text (w : World) (s : ByteArray) (hs : s.size ≤ 2000000) (tt : Tab w) (he : Er w) (mx : Mx w) (h : (s.toList == [110, 117, 108, 108]) = false) (h1 : (trueB s || falseB s) = false) (a3 : atB s = false) (a4 : hashB s = false) (a5 : quotB s = true) :
    Calls Tryz.prog 36 #[.string s] w (GivesC w s) := by
  have E := hide (show 0 < s.size ∧ ∀ U, VT s U → U = V5 (unqT (quotRest s)) from ⟨pos_of_fst (quotB_iff.1 a5) (by decide), fun U u => by
    obtain ⟨t, e, -, k⟩ := one_5 a5 u
    rw [e, unq_of a5 k]⟩)
  have CT := fun W => truthGet_any W s
  simp only [h1] at CT
  generalize trueB s = y at *
  have CT := hide CT
  clear h1
  have Cat := fun W => cut_at W s (by unfold maxLen; omega)
  simp only [a3] at Cat
  have Cat := hide Cat
  have Chash := fun W => cut_hash W s (by unfold maxLen; omega)
  simp only [a4] at Chash
  have Chash := hide Chash
  have Cquot := fun W => cut_quot W s (by unfold maxLen; omega)
  simp only [a5] at Cquot
  have Cquot := hide Cquot
  have hz : (quotRest s).size ≤ 2000000 := by unfold quotRest; split <;> (try rw [ByteArray.size_extract]) <;> omega
  have CS := hide (fun W => trimQ W (quotRest s) hz)
  have CR := hide (fun W (b : Below w.heap.size w W) => unq_any W (quotRest s) hz (mx.later b))
  have HZ := hide (unqT_size (quotRest s) hz)
  clear a3 a4 a5 hz
  generalize quotRest s = r at *
  generalize unqT r = t at *
  generalize trimT r = r2 at *
  generalize atRest s = ra at *
  generalize hashRest s = rb at *
  go_enter Tryz.func36, Tryz.ntmps36
  go_wp2_with fail
  refine (unhide CT _).mono ?_
  rintro e wz ⟨rfl, hw⟩
  subst hw
  go_wp2_with fail
  refine (unhide Cat _).mono ?_
  rintro e wz ⟨rfl, hw⟩
  subst hw
  go_wp2_with fail
  refine (unhide Chash _).mono ?_
  rintro e wz ⟨rfl, hw⟩
  subst hw
  go_wp2_with fail
  refine (unhide Cquot _).mono ?_
  rintro e wz ⟨rfl, hw⟩
  subst hw
  go_wp2_with fail
  refine (unhide CS _).mono ?_
  rintro e wz ⟨rfl, hw⟩
  subst hw
  go_wp2_with fail
  refine (unhide CR _ (Below.refl _ _)).mono ?_
  rintro e w2 ⟨rfl, b2⟩
  clear CR
  go_wp2
  go_ret
  exact ⟨b2, .inr (.inr (.inr (.inr (.inr ⟨t, rfl, unhide HZ, (unhide E).1, (unhide E).2⟩))))⟩

set_option maxHeartbeats 4000000 in
theorem unm_num (w : World) (s : ByteArray) (hs : s.size ≤ 2000000) (tt : Tab w) (he : Er w) (mx : Mx w) (h : (s.toList == [110, 117, 108, 108]) = false) (h1 : (trueB s || falseB s) = false) (a3 : atB s = false) (a4 : hashB s = false) (a5 : quotB s = false) :
    Calls Tryz.prog 36 #[.string s] w (GivesC w s) := by
  obtain ⟨d, hd⟩ := dot_is (restB s)
  have CD := fun W (b : Below w.heap.size w W) => implDecGet_any W s d hd (by unfold maxLen; omega) (tt.later b)
  obtain ⟨O, hO⟩ : ∃ O, dgetR (negB s) ((restB s).extract 0 d) (partOf (restB s) d) (decide (d < (restB s).size)) = O := ⟨_, rfl⟩
  have HG := num_get hd hO
  rw [hO] at CD
  have E := hide (show (0 < s.size ∨ (O.1 = false ∧ O.2.1 = [] ∧ O.2.2.1 = 0)) ∧ ∀ U, VT s U → U = V2 O.1 O.2.1 O.2.2.1 from ⟨by
    by_cases hp : 0 < s.size
    · exact .inl hp
    · right
      cases hk : O.2.2.2 with
      | false => rw [HG.2.1 hk]; exact ⟨rfl, rfl, rfl⟩
      | true => exact absurd (vt_2 (HG.1 hk).1 (HG.1 hk).2) (fun u => vt_none (by omega) u), fun U u => by
    rw [Bool.or_eq_false_iff] at h1
    obtain ⟨n, l, sc, e, a, b⟩ := one_2 (not_null h) (not_tru h1.1 h1.2) a3 a4 a5 u
    have := HG.2.2 n l sc a b
    rw [e, this]⟩)
  clear hO HG hd
  have CD := hide CD
  obtain ⟨on, ol, os, ok⟩ := O
  simp only at E
  have CT := fun W => truthGet_any W s
  simp only [h1] at CT
  generalize trueB s = y at *
  have CT := hide CT
  clear h1
  have Cat := fun W => cut_at W s (by unfold maxLen; omega)
  simp only [a3] at Cat
  have Cat := hide Cat
  have Chash := fun W => cut_hash W s (by unfold maxLen; omega)
  simp only [a4] at Chash
  have Chash := hide Chash
  have Cquot := fun W => cut_quot W s (by unfold maxLen; omega)
  simp only [a5] at Cquot
  have Cquot := hide Cquot
  clear a3 a4 a5
  generalize atRest s = ra at *
  generalize hashRest s = rb at *
  generalize quotRest s = rc at *
  go_enter Tryz.func36, Tryz.ntmps36
  go_wp2_with fail
  refine (unhide CT _).mono ?_
  rintro e wz ⟨rfl, hw⟩
  subst hw
  go_wp2_with fail
  refine (unhide Cat _).mono ?_
  rintro e wz ⟨rfl, hw⟩
  subst hw
  go_wp2_with fail
  refine (unhide Chash _).mono ?_
  rintro e wz ⟨rfl, hw⟩
  subst hw
  go_wp2_with fail
  refine (unhide Cquot _).mono ?_
  rintro e wz ⟨rfl, hw⟩
  subst hw
  go_wp2_with fail
  refine (unhide CD _ (Below.refl _ _)).mono ?_
  rintro e w2 ⟨ao, cap, rfl, o2, b2⟩
  clear CD
  go_wp2
  go_ret
  exact ⟨by first | exact b2 | exact b2.alloc b2.size _, .inr (.inr (.inl ⟨on, ao, ol, cap, os, rfl, by first | exact o2 | exact o2.later ((Below.refl _ _).alloc (Nat.le_refl _) _), (unhide E).1, (unhide E).2⟩))⟩

theorem unmarked_any (w : World) (s : ByteArray) (hs : s.size ≤ 2000000) (tt : Tab w) (he : Er w) (mx : Mx w) :
    Calls Tryz.prog 36 #[.string s] w (GivesC w s) := by
  cases h : s.toList == [110, 117, 108, 108] with
  | true => exact unm_null w s hs tt he mx h
  | false =>
    cases h1 : trueB s || falseB s with
    | true => exact unm_truth w s hs tt he mx h h1
    | false =>
      cases a3 : atB s with
      | true => exact unm_day w s hs tt he mx h h1 a3
      | false =>
        cases a4 : hashB s with
        | true => exact unm_span w s hs tt he mx h h1 a3 a4
        | false =>
          cases a5 : quotB s with
          | true => exact unm_text w s hs tt he mx h h1 a3 a4 a5
          | false => exact unm_num w s hs tt he mx h h1 a3 a4 a5

end Go.Proofs.YtdklikicngmkbaaGreatDoor

namespace Go.Proofs.YtdklikicngmkbaaGreatDoor
open Go.RowKit
set_option maxRecDepth 100000
set_option linter.unusedSimpArgs false
set_option linter.unusedVariables false

theorem zero_ok : valB 2 false false [] 0 0 0 0 ⟨#[]⟩ = true := by
  have h := (vt_2 (s := decT false [] 0) (n := false) (l := []) (sc := 0) (by decide) rfl).1
  exact h
theorem vg_case {s : ByteArray} {V : Vl} (hp : 0 < s.size ∨ valB V.k V.y V.n V.l V.sc V.d V.mo V.da V.t = true) (h1 : ∀ U, VT s U → U = V) :
    (valPutR V.k V.y V.n V.l V.sc V.d V.mo V.da V.t = s → VT s V) ∧ (valPutR V.k V.y V.n V.l V.sc V.d V.mo V.da V.t ≠ s → ∀ U, ¬ VT s U) := by
  unfold valPutR
  refine ⟨fun h => ?_, fun h U u => ?_⟩
  · by_cases hb : valB V.k V.y V.n V.l V.sc V.d V.mo V.da V.t = true
    · rw [if_pos hb] at h
      exact ⟨hb, h⟩
    · rw [if_neg hb] at h
      rcases hp with hp | hp
      · rw [← h] at hp
        exact absurd hp (by decide)
      · exact absurd hp hb
  · have e := h1 U u
    subst e
    rw [if_pos u.1] at h
    exact h u.2

set_option maxHeartbeats 8000000 in
theorem implValueGet_any (w : World) (s : ByteArray) (hs : s.size ≤ 2000000) (tt : Tab w) (he : Er w) (mx : Mx w) :
    Calls Tryz.prog 14 #[.string s] w (GivesV w s) := by
  have C := hide (fun W (b : Below w.heap.size w W) => unmarked_any W s hs (tt.later b) (he.later b) (mx.later b))
  have K0 := V9.new w (.int .i64 0) (.bool false) (.bool false) (.slice none 0 0) (.int .i64 0) (.int .i64 0) (.int .i64 0) (.int .i64 0) (.string ⟨#[]⟩) 31
  have B0 : Below w.heap.size w (w.alloc (.cells #[.int .i64 0, .bool false, .bool false, .slice none 0 0, .int .i64 0, .int .i64 0, .int .i64 0, .int .i64 0, .string ⟨#[]⟩] 31)) := (Below.refl _ _).alloc (Nat.le_refl _) _
  have hm0 : ∀ (w : World), (method 365 92 (.agg #[]) "loop.example/jetton/impl.value").run Tryz.prog w = .ok (274, .agg #[]) w := fun _ => by kernel_rfl
  have hm1 : ∀ (y : Bool) (w : World), (method 365 93 (.bool y) "loop.example/jetton/impl.value").run Tryz.prog w = .ok (278, .bool y) w := fun _ _ => by kernel_rfl
  have hm2 : ∀ (n : Bool) (ao : Option Addr) (N cap : Nat) (sc : Int) (w : World), (method 365 94 (.agg #[.bool n, .slice ao N cap, .int .i64 sc]) "loop.example/jetton/impl.value").run Tryz.prog w = .ok (284, .agg #[.bool n, .slice ao N cap, .int .i64 sc]) w := fun _ _ _ _ _ _ => by kernel_rfl
  have hm3 : ∀ (d : Int) (w : World), (method 365 95 (.int .i64 d) "loop.example/jetton/impl.value").run Tryz.prog w = .ok (301, .int .i64 d) w := fun _ _ => by kernel_rfl
  have hm4 : ∀ (mo da : Int) (w : World), (method 365 96 (.agg #[.int .i64 mo, .int .i64 da]) "loop.example/jetton/impl.value").run Tryz.prog w = .ok (305, .agg #[.int .i64 mo, .int .i64 da]) w := fun _ _ _ => by kernel_rfl
  have hm5 : ∀ (t : ByteArray) (w : World), (method 365 97 (.string t) "loop.example/jetton/impl.value").run Tryz.prog w = .ok (310, .string t) w := fun _ _ => by kernel_rfl
  go_enter Tryz.func14, Tryz.ntmps14
  go_wp2_with fail
  refine (unhide C _ B0).mono ?_
  rintro e w1 ⟨b1, hcase⟩
  have K1 := K0.later b1
  have B1 := B0.trans (b1.mono B0.size)
  have z1 := b1.size
  simp only [World.size_alloc] at z1
  clear C K0 B0 b1
  rcases hcase with ⟨rfl, hp, h1⟩ | ⟨y, rfl, hp, h1⟩ | ⟨n, ao, l, cap, sc, rfl, o1, hp, h1⟩ | ⟨d, rfl, hp, h1⟩ | ⟨mo, da, rfl, hp, h1⟩ | ⟨t, rfl, hz, hp, h1⟩
  · have HV : (valPutR 0 false false [] 0 0 0 0 ⟨#[]⟩ = s → VT s (V0)) ∧ (valPutR 0 false false [] 0 0 0 0 ⟨#[]⟩ ≠ s → ∀ U, ¬ VT s U) := vg_case (V := V0) (.inl hp) h1
    obtain ⟨P, hP⟩ : ∃ P, valPutR 0 false false [] 0 0 0 0 ⟨#[]⟩ = P := ⟨_, rfl⟩
    rw [hP] at HV
    have HV := hide HV
    clear h1 hp
    go_wp2_with fail
    refine (value_0 _).mono ?_
    rintro e w2 ⟨rfl, b2⟩
    have K2 := (K1.later b2).later ((Below.refl _ _).alloc (Nat.le_refl _) (.cells #[.int .i64 0, .bool false, .bool false, .slice none 0 0, .int .i64 0, .int .i64 0, .int .i64 0, .int .i64 0, .string ⟨#[]⟩] 31))
    have B2 := B1.trans (b2.mono B1.size)
    have z2 := b2.size
    have X2 := V9.new w2 (.int .i64 0) (.bool false) (.bool false) (.slice none 0 0) (.int .i64 0) (.int .i64 0) (.int .i64 0) (.int .i64 0) (.string ⟨#[]⟩) 31
    have CP := fun W (b : Below w.heap.size w W) => implValuePut_any W 0 false false none [] 0 0 0 0 0 ⟨#[]⟩ (by decide) ((Own.nil 0 W).reads) (tt.later b) (mx.later b)
    rw [hP] at CP
    have CP := hide CP
    clear hP K1 B1 b2
    go_wp2_with fail
    refine (unhide CP _ (B2.alloc B2.size _)).mono ?_
    rintro e w3 ⟨rfl, b3⟩
    have K3 := K2.later b3
    have X3 := X2.later b3
    have B3 := (B2.alloc B2.size (.cells #[.int .i64 0, .bool false, .bool false, .slice none 0 0, .int .i64 0, .int .i64 0, .int .i64 0, .int .i64 0, .string ⟨#[]⟩] 31)).trans (b3.mono (by simp; omega))
    clear K2 X2 B2 b3 CP
    obtain ⟨x0, x1, x2, x3, x4, x5, x6, x7, x8, -, -, -, -, -, -, -, -, -, -⟩ := id X3
    obtain ⟨c0, c1, c2, c3, c4, c5, c6, c7, c8, f0, f1, f2, f3, f4, f5, f6, f7, f8, lt9⟩ := id K3
    by_cases e : P = s
    · have e1 : (P.toList == s.toList) = true := by simp [e]
      have e2 : (P.toList != s.toList) = false := by simp [e]
      have E := hide ((unhide HV).1 e)
      clear HV e
      go_wp2
      have R := (((((((((K3.put0 (.int .i64 0)).put1 (.bool false)).put2 (.bool false)).put3 (.slice none 0 0)).put4 (.int .i64 0)).put5 (.int .i64 0)).put6 (.int .i64 0)).put7 (.int .i64 0)).put8 (.string ⟨#[]⟩))
      have BB := (((((((((B3.setCell (p := ⟨w.heap.size, 0, none⟩) (Nat.le_refl _) (.int .i64 0)).setCell (p := ⟨w.heap.size, 1, none⟩) (Nat.le_refl _) (.bool false)).setCell (p := ⟨w.heap.size, 2, none⟩) (Nat.le_refl _) (.bool false)).setCell (p := ⟨w.heap.size, 3, none⟩) (Nat.le_refl _) (.slice none 0 0)).setCell (p := ⟨w.heap.size, 4, none⟩) (Nat.le_refl _) (.int .i64 0)).setCell (p := ⟨w.heap.size, 5, none⟩) (Nat.le_refl _) (.int .i64 0)).setCell (p := ⟨w.heap.size, 6, none⟩) (Nat.le_refl _) (.int .i64 0)).setCell (p := ⟨w.heap.size, 7, none⟩) (Nat.le_refl _) (.int .i64 0)).setCell (p := ⟨w.heap.size, 8, none⟩) (Nat.le_refl _) (.string ⟨#[]⟩))
      generalize (((((((((w3.setCell ⟨w.heap.size, 0, none⟩ (.int .i64 0)).setCell ⟨w.heap.size, 1, none⟩ (.bool false)).setCell ⟨w.heap.size, 2, none⟩ (.bool false)).setCell ⟨w.heap.size, 3, none⟩ (.slice none 0 0)).setCell ⟨w.heap.size, 4, none⟩ (.int .i64 0)).setCell ⟨w.heap.size, 5, none⟩ (.int .i64 0)).setCell ⟨w.heap.size, 6, none⟩ (.int .i64 0)).setCell ⟨w.heap.size, 7, none⟩ (.int .i64 0)).setCell ⟨w.heap.size, 8, none⟩ (.string ⟨#[]⟩)) = W9 at *
      obtain ⟨r0, r1, r2, r3, r4, r5, r6, r7, r8, -, -, -, -, -, -, -, -, -, -⟩ := id R
      refine bodyPost_ret (v := .tuple #[.agg #[.int .i64 0, .bool false, .bool false, .slice none 0 0, .int .i64 0, .int .i64 0, .int .i64 0, .int .i64 0, .string ⟨#[]⟩], .bool true]) (by simp [results, Tryz.results14, go_sem, r0, r1, r2, r3, r4, r5, r6, r7, r8]) rfl (gv_some (V0) (Own.nil _ _) BB (unhide E))
    · have e1 := txt_ne e
      have e2 : (P.toList != s.toList) = true := by simpa using e1
      have E := hide ((unhide HV).2 e)
      clear HV e
      go_wp2
      have R := (((((((((K3.put0 (.int .i64 0)).put1 (.bool false)).put2 (.bool false)).put3 (.slice none 0 0)).put4 (.int .i64 0)).put5 (.int .i64 0)).put6 (.int .i64 0)).put7 (.int .i64 0)).put8 (.string ⟨#[]⟩))
      have BB := (((((((((B3.setCell (p := ⟨w.heap.size, 0, none⟩) (Nat.le_refl _) (.int .i64 0)).setCell (p := ⟨w.heap.size, 1, none⟩) (Nat.le_refl _) (.bool false)).setCell (p := ⟨w.heap.size, 2, none⟩) (Nat.le_refl _) (.bool false)).setCell (p := ⟨w.heap.size, 3, none⟩) (Nat.le_refl _) (.slice none 0 0)).setCell (p := ⟨w.heap.size, 4, none⟩) (Nat.le_refl _) (.int .i64 0)).setCell (p := ⟨w.heap.size, 5, none⟩) (Nat.le_refl _) (.int .i64 0)).setCell (p := ⟨w.heap.size, 6, none⟩) (Nat.le_refl _) (.int .i64 0)).setCell (p := ⟨w.heap.size, 7, none⟩) (Nat.le_refl _) (.int .i64 0)).setCell (p := ⟨w.heap.size, 8, none⟩) (Nat.le_refl _) (.string ⟨#[]⟩))
      generalize (((((((((w3.setCell ⟨w.heap.size, 0, none⟩ (.int .i64 0)).setCell ⟨w.heap.size, 1, none⟩ (.bool false)).setCell ⟨w.heap.size, 2, none⟩ (.bool false)).setCell ⟨w.heap.size, 3, none⟩ (.slice none 0 0)).setCell ⟨w.heap.size, 4, none⟩ (.int .i64 0)).setCell ⟨w.heap.size, 5, none⟩ (.int .i64 0)).setCell ⟨w.heap.size, 6, none⟩ (.int .i64 0)).setCell ⟨w.heap.size, 7, none⟩ (.int .i64 0)).setCell ⟨w.heap.size, 8, none⟩ (.string ⟨#[]⟩)) = W9 at *
      obtain ⟨r0, r1, r2, r3, r4, r5, r6, r7, r8, -, -, -, -, -, -, -, -, -, -⟩ := id R
      refine bodyPost_ret (v := .tuple #[.agg #[.int .i64 0, .bool false, .bool false, .slice none 0 0, .int .i64 0, .int .i64 0, .int .i64 0, .int .i64 0, .string ⟨#[]⟩], .bool false]) (by simp [results, Tryz.results14, go_sem, r0, r1, r2, r3, r4, r5, r6, r7, r8]) rfl (gv_none BB (unhide E))
  · have HV : (valPutR 1 y false [] 0 0 0 0 ⟨#[]⟩ = s → VT s (V1 y)) ∧ (valPutR 1 y false [] 0 0 0 0 ⟨#[]⟩ ≠ s → ∀ U, ¬ VT s U) := vg_case (V := V1 y) (.inl hp) h1
    obtain ⟨P, hP⟩ : ∃ P, valPutR 1 y false [] 0 0 0 0 ⟨#[]⟩ = P := ⟨_, rfl⟩
    rw [hP] at HV
    have HV := hide HV
    clear h1 hp
    go_wp2_with fail
    refine (value_1 _ y).mono ?_
    rintro e w2 ⟨rfl, b2⟩
    have K2 := (K1.later b2).later ((Below.refl _ _).alloc (Nat.le_refl _) (.cells #[.int .i64 1, .bool y, .bool false, .slice none 0 0, .int .i64 0, .int .i64 0, .int .i64 0, .int .i64 0, .string ⟨#[]⟩] 31))
    have B2 := B1.trans (b2.mono B1.size)
    have z2 := b2.size
    have X2 := V9.new w2 (.int .i64 1) (.bool y) (.bool false) (.slice none 0 0) (.int .i64 0) (.int .i64 0) (.int .i64 0) (.int .i64 0) (.string ⟨#[]⟩) 31
    have CP := fun W (b : Below w.heap.size w W) => implValuePut_any W 1 y false none [] 0 0 0 0 0 ⟨#[]⟩ (by decide) ((Own.nil 0 W).reads) (tt.later b) (mx.later b)
    rw [hP] at CP
    have CP := hide CP
    clear hP K1 B1 b2
    go_wp2_with fail
    refine (unhide CP _ (B2.alloc B2.size _)).mono ?_
    rintro e w3 ⟨rfl, b3⟩
    have K3 := K2.later b3
    have X3 := X2.later b3
    have B3 := (B2.alloc B2.size (.cells #[.int .i64 1, .bool y, .bool false, .slice none 0 0, .int .i64 0, .int .i64 0, .int .i64 0, .int .i64 0, .string ⟨#[]⟩] 31)).trans (b3.mono (by simp; omega))
    clear K2 X2 B2 b3 CP
    obtain ⟨x0, x1, x2, x3, x4, x5, x6, x7, x8, -, -, -, -, -, -, -, -, -, -⟩ := id X3
    obtain ⟨c0, c1, c2, c3, c4, c5, c6, c7, c8, f0, f1, f2, f3, f4, f5, f6, f7, f8, lt9⟩ := id K3
    by_cases e : P = s
    · have e1 : (P.toList == s.toList) = true := by simp [e]
      have e2 : (P.toList != s.toList) = false := by simp [e]
      have E := hide ((unhide HV).1 e)
      clear HV e
      go_wp2
      have R := (((((((((K3.put0 (.int .i64 1)).put1 (.bool y)).put2 (.bool false)).put3 (.slice none 0 0)).put4 (.int .i64 0)).put5 (.int .i64 0)).put6 (.int .i64 0)).put7 (.int .i64 0)).put8 (.string ⟨#[]⟩))
      have BB := (((((((((B3.setCell (p := ⟨w.heap.size, 0, none⟩) (Nat.le_refl _) (.int .i64 1)).setCell (p := ⟨w.heap.size, 1, none⟩) (Nat.le_refl _) (.bool y)).setCell (p := ⟨w.heap.size, 2, none⟩) (Nat.le_refl _) (.bool false)).setCell (p := ⟨w.heap.size, 3, none⟩) (Nat.le_refl _) (.slice none 0 0)).setCell (p := ⟨w.heap.size, 4, none⟩) (Nat.le_refl _) (.int .i64 0)).setCell (p := ⟨w.heap.size, 5, none⟩) (Nat.le_refl _) (.int .i64 0)).setCell (p := ⟨w.heap.size, 6, none⟩) (Nat.le_refl _) (.int .i64 0)).setCell (p := ⟨w.heap.size, 7, none⟩) (Nat.le_refl _) (.int .i64 0)).setCell (p := ⟨w.heap.size, 8, none⟩) (Nat.le_refl _) (.string ⟨#[]⟩))
      generalize (((((((((w3.setCell ⟨w.heap.size, 0, none⟩ (.int .i64 1)).setCell ⟨w.heap.size, 1, none⟩ (.bool y)).setCell ⟨w.heap.size, 2, none⟩ (.bool false)).setCell ⟨w.heap.size, 3, none⟩ (.slice none 0 0)).setCell ⟨w.heap.size, 4, none⟩ (.int .i64 0)).setCell ⟨w.heap.size, 5, none⟩ (.int .i64 0)).setCell ⟨w.heap.size, 6, none⟩ (.int .i64 0)).setCell ⟨w.heap.size, 7, none⟩ (.int .i64 0)).setCell ⟨w.heap.size, 8, none⟩ (.string ⟨#[]⟩)) = W9 at *
      obtain ⟨r0, r1, r2, r3, r4, r5, r6, r7, r8, -, -, -, -, -, -, -, -, -, -⟩ := id R
      refine bodyPost_ret (v := .tuple #[.agg #[.int .i64 1, .bool y, .bool false, .slice none 0 0, .int .i64 0, .int .i64 0, .int .i64 0, .int .i64 0, .string ⟨#[]⟩], .bool true]) (by simp [results, Tryz.results14, go_sem, r0, r1, r2, r3, r4, r5, r6, r7, r8]) rfl (gv_some (V1 y) (Own.nil _ _) BB (unhide E))
    · have e1 := txt_ne e
      have e2 : (P.toList != s.toList) = true := by simpa using e1
      have E := hide ((unhide HV).2 e)
      clear HV e
      go_wp2
      have R := (((((((((K3.put0 (.int .i64 0)).put1 (.bool false)).put2 (.bool false)).put3 (.slice none 0 0)).put4 (.int .i64 0)).put5 (.int .i64 0)).put6 (.int .i64 0)).put7 (.int .i64 0)).put8 (.string ⟨#[]⟩))
      have BB := (((((((((B3.setCell (p := ⟨w.heap.size, 0, none⟩) (Nat.le_refl _) (.int .i64 0)).setCell (p := ⟨w.heap.size, 1, none⟩) (Nat.le_refl _) (.bool false)).setCell (p := ⟨w.heap.size, 2, none⟩) (Nat.le_refl _) (.bool false)).setCell (p := ⟨w.heap.size, 3, none⟩) (Nat.le_refl _) (.slice none 0 0)).setCell (p := ⟨w.heap.size, 4, none⟩) (Nat.le_refl _) (.int .i64 0)).setCell (p := ⟨w.heap.size, 5, none⟩) (Nat.le_refl _) (.int .i64 0)).setCell (p := ⟨w.heap.size, 6, none⟩) (Nat.le_refl _) (.int .i64 0)).setCell (p := ⟨w.heap.size, 7, none⟩) (Nat.le_refl _) (.int .i64 0)).setCell (p := ⟨w.heap.size, 8, none⟩) (Nat.le_refl _) (.string ⟨#[]⟩))
      generalize (((((((((w3.setCell ⟨w.heap.size, 0, none⟩ (.int .i64 0)).setCell ⟨w.heap.size, 1, none⟩ (.bool false)).setCell ⟨w.heap.size, 2, none⟩ (.bool false)).setCell ⟨w.heap.size, 3, none⟩ (.slice none 0 0)).setCell ⟨w.heap.size, 4, none⟩ (.int .i64 0)).setCell ⟨w.heap.size, 5, none⟩ (.int .i64 0)).setCell ⟨w.heap.size, 6, none⟩ (.int .i64 0)).setCell ⟨w.heap.size, 7, none⟩ (.int .i64 0)).setCell ⟨w.heap.size, 8, none⟩ (.string ⟨#[]⟩)) = W9 at *
      obtain ⟨r0, r1, r2, r3, r4, r5, r6, r7, r8, -, -, -, -, -, -, -, -, -, -⟩ := id R
      refine bodyPost_ret (v := .tuple #[.agg #[.int .i64 0, .bool false, .bool false, .slice none 0 0, .int .i64 0, .int .i64 0, .int .i64 0, .int .i64 0, .string ⟨#[]⟩], .bool false]) (by simp [results, Tryz.results14, go_sem, r0, r1, r2, r3, r4, r5, r6, r7, r8]) rfl (gv_none BB (unhide E))
  · have HV : (valPutR 2 false n l sc 0 0 0 ⟨#[]⟩ = s → VT s (V2 n l sc)) ∧ (valPutR 2 false n l sc 0 0 0 ⟨#[]⟩ ≠ s → ∀ U, ¬ VT s U) := vg_case (V := V2 n l sc) (by rcases hp with hp | ⟨rfl, rfl, rfl⟩; exact .inl hp; exact .inr zero_ok) h1
    obtain ⟨P, hP⟩ : ∃ P, valPutR 2 false n l sc 0 0 0 ⟨#[]⟩ = P := ⟨_, rfl⟩
    rw [hP] at HV
    have HV := hide HV
    clear h1 hp
    go_wp2_with fail
    refine (value_2 _ n ao l.length cap sc).mono ?_
    rintro e w2 ⟨rfl, b2⟩
    have K2 := (K1.later b2).later ((Below.refl _ _).alloc (Nat.le_refl _) (.cells #[.int .i64 2, .bool false, .bool n, .slice ao l.length cap, .int .i64 sc, .int .i64 0, .int .i64 0, .int .i64 0, .string ⟨#[]⟩] 31))
    have B2 := B1.trans (b2.mono B1.size)
    have z2 := b2.size
    have o2 := o1.later b2
    have X2 := V9.new w2 (.int .i64 2) (.bool false) (.bool n) (.slice ao l.length cap) (.int .i64 sc) (.int .i64 0) (.int .i64 0) (.int .i64 0) (.string ⟨#[]⟩) 31
    have CP := fun W (b : Below w.heap.size w W) (c : Below w2.heap.size w2 W) => implValuePut_any W 2 false n ao l cap sc 0 0 0 ⟨#[]⟩ (by decide) ((o2.later c).reads) (tt.later b) (mx.later b)
    rw [hP] at CP
    have CP := hide CP
    clear hP K1 B1 b2
    go_wp2_with fail
    refine (unhide CP _ (B2.alloc B2.size _) ((Below.refl _ _).alloc (Nat.le_refl _) _)).mono ?_
    rintro e w3 ⟨rfl, b3⟩
    have K3 := K2.later b3
    have X3 := X2.later b3
    have B3 := (B2.alloc B2.size (.cells #[.int .i64 2, .bool false, .bool n, .slice ao l.length cap, .int .i64 sc, .int .i64 0, .int .i64 0, .int .i64 0, .string ⟨#[]⟩] 31)).trans (b3.mono (by simp; omega))
    have o3 := ((o2.later ((Below.refl _ _).alloc (Nat.le_refl _) (.cells #[.int .i64 2, .bool false, .bool n, .slice ao l.length cap, .int .i64 sc, .int .i64 0, .int .i64 0, .int .i64 0, .string ⟨#[]⟩] 31))).later b3).mono (B' := w.heap.size + 1) (by simp)
    clear K2 X2 B2 b3 CP
    obtain ⟨x0, x1, x2, x3, x4, x5, x6, x7, x8, -, -, -, -, -, -, -, -, -, -⟩ := id X3
    obtain ⟨c0, c1, c2, c3, c4, c5, c6, c7, c8, f0, f1, f2, f3, f4, f5, f6, f7, f8, lt9⟩ := id K3
    by_cases e : P = s
    · have e1 : (P.toList == s.toList) = true := by simp [e]
      have e2 : (P.toList != s.toList) = false := by simp [e]
      have E := hide ((unhide HV).1 e)
      clear HV e
      go_wp2
      have R := (((((((((K3.put0 (.int .i64 2)).put1 (.bool false)).put2 (.bool n)).put3 (.slice ao l.length cap)).put4 (.int .i64 sc)).put5 (.int .i64 0)).put6 (.int .i64 0)).put7 (.int .i64 0)).put8 (.string ⟨#[]⟩))
      have BB := (((((((((B3.setCell (p := ⟨w.heap.size, 0, none⟩) (Nat.le_refl _) (.int .i64 2)).setCell (p := ⟨w.heap.size, 1, none⟩) (Nat.le_refl _) (.bool false)).setCell (p := ⟨w.heap.size, 2, none⟩) (Nat.le_refl _) (.bool n)).setCell (p := ⟨w.heap.size, 3, none⟩) (Nat.le_refl _) (.slice ao l.length cap)).setCell (p := ⟨w.heap.size, 4, none⟩) (Nat.le_refl _) (.int .i64 sc)).setCell (p := ⟨w.heap.size, 5, none⟩) (Nat.le_refl _) (.int .i64 0)).setCell (p := ⟨w.heap.size, 6, none⟩) (Nat.le_refl _) (.int .i64 0)).setCell (p := ⟨w.heap.size, 7, none⟩) (Nat.le_refl _) (.int .i64 0)).setCell (p := ⟨w.heap.size, 8, none⟩) (Nat.le_refl _) (.string ⟨#[]⟩))
      have OO := (((((((((o3.setBelow (a := ⟨w.heap.size, 0, none⟩) (Nat.lt_succ_self _) (.int .i64 2)).setBelow (a := ⟨w.heap.size, 1, none⟩) (Nat.lt_succ_self _) (.bool false)).setBelow (a := ⟨w.heap.size, 2, none⟩) (Nat.lt_succ_self _) (.bool n)).setBelow (a := ⟨w.heap.size, 3, none⟩) (Nat.lt_succ_self _) (.slice ao l.length cap)).setBelow (a := ⟨w.heap.size, 4, none⟩) (Nat.lt_succ_self _) (.int .i64 sc)).setBelow (a := ⟨w.heap.size, 5, none⟩) (Nat.lt_succ_self _) (.int .i64 0)).setBelow (a := ⟨w.heap.size, 6, none⟩) (Nat.lt_succ_self _) (.int .i64 0)).setBelow (a := ⟨w.heap.size, 7, none⟩) (Nat.lt_succ_self _) (.int .i64 0)).setBelow (a := ⟨w.heap.size, 8, none⟩) (Nat.lt_succ_self _) (.string ⟨#[]⟩))
      generalize (((((((((w3.setCell ⟨w.heap.size, 0, none⟩ (.int .i64 2)).setCell ⟨w.heap.size, 1, none⟩ (.bool false)).setCell ⟨w.heap.size, 2, none⟩ (.bool n)).setCell ⟨w.heap.size, 3, none⟩ (.slice ao l.length cap)).setCell ⟨w.heap.size, 4, none⟩ (.int .i64 sc)).setCell ⟨w.heap.size, 5, none⟩ (.int .i64 0)).setCell ⟨w.heap.size, 6, none⟩ (.int .i64 0)).setCell ⟨w.heap.size, 7, none⟩ (.int .i64 0)).setCell ⟨w.heap.size, 8, none⟩ (.string ⟨#[]⟩)) = W9 at *
      obtain ⟨r0, r1, r2, r3, r4, r5, r6, r7, r8, -, -, -, -, -, -, -, -, -, -⟩ := id R
      refine bodyPost_ret (v := .tuple #[.agg #[.int .i64 2, .bool false, .bool n, .slice ao l.length cap, .int .i64 sc, .int .i64 0, .int .i64 0, .int .i64 0, .string ⟨#[]⟩], .bool true]) (by simp [results, Tryz.results14, go_sem, r0, r1, r2, r3, r4, r5, r6, r7, r8]) rfl (gv_some (V2 n l sc) (OO.mono (Nat.le_succ _)) BB (unhide E))
    · have e1 := txt_ne e
      have e2 : (P.toList != s.toList) = true := by simpa using e1
      have E := hide ((unhide HV).2 e)
      clear HV e
      go_wp2
      have R := (((((((((K3.put0 (.int .i64 0)).put1 (.bool false)).put2 (.bool false)).put3 (.slice none 0 0)).put4 (.int .i64 0)).put5 (.int .i64 0)).put6 (.int .i64 0)).put7 (.int .i64 0)).put8 (.string ⟨#[]⟩))
      have BB := (((((((((B3.setCell (p := ⟨w.heap.size, 0, none⟩) (Nat.le_refl _) (.int .i64 0)).setCell (p := ⟨w.heap.size, 1, none⟩) (Nat.le_refl _) (.bool false)).setCell (p := ⟨w.heap.size, 2, none⟩) (Nat.le_refl _) (.bool false)).setCell (p := ⟨w.heap.size, 3, none⟩) (Nat.le_refl _) (.slice none 0 0)).setCell (p := ⟨w.heap.size, 4, none⟩) (Nat.le_refl _) (.int .i64 0)).setCell (p := ⟨w.heap.size, 5, none⟩) (Nat.le_refl _) (.int .i64 0)).setCell (p := ⟨w.heap.size, 6, none⟩) (Nat.le_refl _) (.int .i64 0)).setCell (p := ⟨w.heap.size, 7, none⟩) (Nat.le_refl _) (.int .i64 0)).setCell (p := ⟨w.heap.size, 8, none⟩) (Nat.le_refl _) (.string ⟨#[]⟩))
      generalize (((((((((w3.setCell ⟨w.heap.size, 0, none⟩ (.int .i64 0)).setCell ⟨w.heap.size, 1, none⟩ (.bool false)).setCell ⟨w.heap.size, 2, none⟩ (.bool false)).setCell ⟨w.heap.size, 3, none⟩ (.slice none 0 0)).setCell ⟨w.heap.size, 4, none⟩ (.int .i64 0)).setCell ⟨w.heap.size, 5, none⟩ (.int .i64 0)).setCell ⟨w.heap.size, 6, none⟩ (.int .i64 0)).setCell ⟨w.heap.size, 7, none⟩ (.int .i64 0)).setCell ⟨w.heap.size, 8, none⟩ (.string ⟨#[]⟩)) = W9 at *
      obtain ⟨r0, r1, r2, r3, r4, r5, r6, r7, r8, -, -, -, -, -, -, -, -, -, -⟩ := id R
      refine bodyPost_ret (v := .tuple #[.agg #[.int .i64 0, .bool false, .bool false, .slice none 0 0, .int .i64 0, .int .i64 0, .int .i64 0, .int .i64 0, .string ⟨#[]⟩], .bool false]) (by simp [results, Tryz.results14, go_sem, r0, r1, r2, r3, r4, r5, r6, r7, r8]) rfl (gv_none BB (unhide E))
  · have HV : (valPutR 3 false false [] 0 d 0 0 ⟨#[]⟩ = s → VT s (V3 d)) ∧ (valPutR 3 false false [] 0 d 0 0 ⟨#[]⟩ ≠ s → ∀ U, ¬ VT s U) := vg_case (V := V3 d) (.inl hp) h1
    obtain ⟨P, hP⟩ : ∃ P, valPutR 3 false false [] 0 d 0 0 ⟨#[]⟩ = P := ⟨_, rfl⟩
    rw [hP] at HV
    have HV := hide HV
    clear h1 hp
    go_wp2_with fail
    refine (value_3 _ d).mono ?_
    rintro e w2 ⟨rfl, b2⟩
    have K2 := (K1.later b2).later ((Below.refl _ _).alloc (Nat.le_refl _) (.cells #[.int .i64 3, .bool false, .bool false, .slice none 0 0, .int .i64 0, .int .i64 d, .int .i64 0, .int .i64 0, .string ⟨#[]⟩] 31))
    have B2 := B1.trans (b2.mono B1.size)
    have z2 := b2.size
    have X2 := V9.new w2 (.int .i64 3) (.bool false) (.bool false) (.slice none 0 0) (.int .i64 0) (.int .i64 d) (.int .i64 0) (.int .i64 0) (.string ⟨#[]⟩) 31
    have CP := fun W (b : Below w.heap.size w W) => implValuePut_any W 3 false false none [] 0 0 d 0 0 ⟨#[]⟩ (by decide) ((Own.nil 0 W).reads) (tt.later b) (mx.later b)
    rw [hP] at CP
    have CP := hide CP
    clear hP K1 B1 b2
    go_wp2_with fail
    refine (unhide CP _ (B2.alloc B2.size _)).mono ?_
    rintro e w3 ⟨rfl, b3⟩
    have K3 := K2.later b3
    have X3 := X2.later b3
    have B3 := (B2.alloc B2.size (.cells #[.int .i64 3, .bool false, .bool false, .slice none 0 0, .int .i64 0, .int .i64 d, .int .i64 0, .int .i64 0, .string ⟨#[]⟩] 31)).trans (b3.mono (by simp; omega))
    clear K2 X2 B2 b3 CP
    obtain ⟨x0, x1, x2, x3, x4, x5, x6, x7, x8, -, -, -, -, -, -, -, -, -, -⟩ := id X3
    obtain ⟨c0, c1, c2, c3, c4, c5, c6, c7, c8, f0, f1, f2, f3, f4, f5, f6, f7, f8, lt9⟩ := id K3
    by_cases e : P = s
    · have e1 : (P.toList == s.toList) = true := by simp [e]
      have e2 : (P.toList != s.toList) = false := by simp [e]
      have E := hide ((unhide HV).1 e)
      clear HV e
      go_wp2
      have R := (((((((((K3.put0 (.int .i64 3)).put1 (.bool false)).put2 (.bool false)).put3 (.slice none 0 0)).put4 (.int .i64 0)).put5 (.int .i64 d)).put6 (.int .i64 0)).put7 (.int .i64 0)).put8 (.string ⟨#[]⟩))
      have BB := (((((((((B3.setCell (p := ⟨w.heap.size, 0, none⟩) (Nat.le_refl _) (.int .i64 3)).setCell (p := ⟨w.heap.size, 1, none⟩) (Nat.le_refl _) (.bool false)).setCell (p := ⟨w.heap.size, 2, none⟩) (Nat.le_refl _) (.bool false)).setCell (p := ⟨w.heap.size, 3, none⟩) (Nat.le_refl _) (.slice none 0 0)).setCell (p := ⟨w.heap.size, 4, none⟩) (Nat.le_refl _) (.int .i64 0)).setCell (p := ⟨w.heap.size, 5, none⟩) (Nat.le_refl _) (.int .i64 d)).setCell (p := ⟨w.heap.size, 6, none⟩) (Nat.le_refl _) (.int .i64 0)).setCell (p := ⟨w.heap.size, 7, none⟩) (Nat.le_refl _) (.int .i64 0)).setCell (p := ⟨w.heap.size, 8, none⟩) (Nat.le_refl _) (.string ⟨#[]⟩))
      generalize (((((((((w3.setCell ⟨w.heap.size, 0, none⟩ (.int .i64 3)).setCell ⟨w.heap.size, 1, none⟩ (.bool false)).setCell ⟨w.heap.size, 2, none⟩ (.bool false)).setCell ⟨w.heap.size, 3, none⟩ (.slice none 0 0)).setCell ⟨w.heap.size, 4, none⟩ (.int .i64 0)).setCell ⟨w.heap.size, 5, none⟩ (.int .i64 d)).setCell ⟨w.heap.size, 6, none⟩ (.int .i64 0)).setCell ⟨w.heap.size, 7, none⟩ (.int .i64 0)).setCell ⟨w.heap.size, 8, none⟩ (.string ⟨#[]⟩)) = W9 at *
      obtain ⟨r0, r1, r2, r3, r4, r5, r6, r7, r8, -, -, -, -, -, -, -, -, -, -⟩ := id R
      refine bodyPost_ret (v := .tuple #[.agg #[.int .i64 3, .bool false, .bool false, .slice none 0 0, .int .i64 0, .int .i64 d, .int .i64 0, .int .i64 0, .string ⟨#[]⟩], .bool true]) (by simp [results, Tryz.results14, go_sem, r0, r1, r2, r3, r4, r5, r6, r7, r8]) rfl (gv_some (V3 d) (Own.nil _ _) BB (unhide E))
    · have e1 := txt_ne e
      have e2 : (P.toList != s.toList) = true := by simpa using e1
      have E := hide ((unhide HV).2 e)
      clear HV e
      go_wp2
      have R := (((((((((K3.put0 (.int .i64 0)).put1 (.bool false)).put2 (.bool false)).put3 (.slice none 0 0)).put4 (.int .i64 0)).put5 (.int .i64 0)).put6 (.int .i64 0)).put7 (.int .i64 0)).put8 (.string ⟨#[]⟩))
      have BB := (((((((((B3.setCell (p := ⟨w.heap.size, 0, none⟩) (Nat.le_refl _) (.int .i64 0)).setCell (p := ⟨w.heap.size, 1, none⟩) (Nat.le_refl _) (.bool false)).setCell (p := ⟨w.heap.size, 2, none⟩) (Nat.le_refl _) (.bool false)).setCell (p := ⟨w.heap.size, 3, none⟩) (Nat.le_refl _) (.slice none 0 0)).setCell (p := ⟨w.heap.size, 4, none⟩) (Nat.le_refl _) (.int .i64 0)).setCell (p := ⟨w.heap.size, 5, none⟩) (Nat.le_refl _) (.int .i64 0)).setCell (p := ⟨w.heap.size, 6, none⟩) (Nat.le_refl _) (.int .i64 0)).setCell (p := ⟨w.heap.size, 7, none⟩) (Nat.le_refl _) (.int .i64 0)).setCell (p := ⟨w.heap.size, 8, none⟩) (Nat.le_refl _) (.string ⟨#[]⟩))
      generalize (((((((((w3.setCell ⟨w.heap.size, 0, none⟩ (.int .i64 0)).setCell ⟨w.heap.size, 1, none⟩ (.bool false)).setCell ⟨w.heap.size, 2, none⟩ (.bool false)).setCell ⟨w.heap.size, 3, none⟩ (.slice none 0 0)).setCell ⟨w.heap.size, 4, none⟩ (.int .i64 0)).setCell ⟨w.heap.size, 5, none⟩ (.int .i64 0)).setCell ⟨w.heap.size, 6, none⟩ (.int .i64 0)).setCell ⟨w.heap.size, 7, none⟩ (.int .i64 0)).setCell ⟨w.heap.size, 8, none⟩ (.string ⟨#[]⟩)) = W9 at *
      obtain ⟨r0, r1, r2, r3, r4, r5, r6, r7, r8, -, -, -, -, -, -, -, -, -, -⟩ := id R
      refine bodyPost_ret (v := .tuple #[.agg #[.int .i64 0, .bool false, .bool false, .slice none 0 0, .int .i64 0, .int .i64 0, .int .i64 0, .int .i64 0, .string ⟨#[]⟩], .bool false]) (by simp [results, Tryz.results14, go_sem, r0, r1, r2, r3, r4, r5, r6, r7, r8]) rfl (gv_none BB (unhide E))
  · have HV : (valPutR 4 false false [] 0 0 mo da ⟨#[]⟩ = s → VT s (V4 mo da)) ∧ (valPutR 4 false false [] 0 0 mo da ⟨#[]⟩ ≠ s → ∀ U, ¬ VT s U) := vg_case (V := V4 mo da) (.inl hp) h1
    obtain ⟨P, hP⟩ : ∃ P, valPutR 4 false false [] 0 0 mo da ⟨#[]⟩ = P := ⟨_, rfl⟩
    rw [hP] at HV
    have HV := hide HV
    clear h1 hp
    go_wp2_with fail
    refine (value_4 _ mo da).mono ?_
    rintro e w2 ⟨rfl, b2⟩
    have K2 := (K1.later b2).later ((Below.refl _ _).alloc (Nat.le_refl _) (.cells #[.int .i64 4, .bool false, .bool false, .slice none 0 0, .int .i64 0, .int .i64 0, .int .i64 mo, .int .i64 da, .string ⟨#[]⟩] 31))
    have B2 := B1.trans (b2.mono B1.size)
    have z2 := b2.size
    have X2 := V9.new w2 (.int .i64 4) (.bool false) (.bool false) (.slice none 0 0) (.int .i64 0) (.int .i64 0) (.int .i64 mo) (.int .i64 da) (.string ⟨#[]⟩) 31
    have CP := fun W (b : Below w.heap.size w W) => implValuePut_any W 4 false false none [] 0 0 0 mo da ⟨#[]⟩ (by decide) ((Own.nil 0 W).reads) (tt.later b) (mx.later b)
    rw [hP] at CP
    have CP := hide CP
    clear hP K1 B1 b2
    go_wp2_with fail
    refine (unhide CP _ (B2.alloc B2.size _)).mono ?_
    rintro e w3 ⟨rfl, b3⟩
    have K3 := K2.later b3
    have X3 := X2.later b3
    have B3 := (B2.alloc B2.size (.cells #[.int .i64 4, .bool false, .bool false, .slice none 0 0, .int .i64 0, .int .i64 0, .int .i64 mo, .int .i64 da, .string ⟨#[]⟩] 31)).trans (b3.mono (by simp; omega))
    clear K2 X2 B2 b3 CP
    obtain ⟨x0, x1, x2, x3, x4, x5, x6, x7, x8, -, -, -, -, -, -, -, -, -, -⟩ := id X3
    obtain ⟨c0, c1, c2, c3, c4, c5, c6, c7, c8, f0, f1, f2, f3, f4, f5, f6, f7, f8, lt9⟩ := id K3
    by_cases e : P = s
    · have e1 : (P.toList == s.toList) = true := by simp [e]
      have e2 : (P.toList != s.toList) = false := by simp [e]
      have E := hide ((unhide HV).1 e)
      clear HV e
      go_wp2
      have R := (((((((((K3.put0 (.int .i64 4)).put1 (.bool false)).put2 (.bool false)).put3 (.slice none 0 0)).put4 (.int .i64 0)).put5 (.int .i64 0)).put6 (.int .i64 mo)).put7 (.int .i64 da)).put8 (.string ⟨#[]⟩))
      have BB := (((((((((B3.setCell (p := ⟨w.heap.size, 0, none⟩) (Nat.le_refl _) (.int .i64 4)).setCell (p := ⟨w.heap.size, 1, none⟩) (Nat.le_refl _) (.bool false)).setCell (p := ⟨w.heap.size, 2, none⟩) (Nat.le_refl _) (.bool false)).setCell (p := ⟨w.heap.size, 3, none⟩) (Nat.le_refl _) (.slice none 0 0)).setCell (p := ⟨w.heap.size, 4, none⟩) (Nat.le_refl _) (.int .i64 0)).setCell (p := ⟨w.heap.size, 5, none⟩) (Nat.le_refl _) (.int .i64 0)).setCell (p := ⟨w.heap.size, 6, none⟩) (Nat.le_refl _) (.int .i64 mo)).setCell (p := ⟨w.heap.size, 7, none⟩) (Nat.le_refl _) (.int .i64 da)).setCell (p := ⟨w.heap.size, 8, none⟩) (Nat.le_refl _) (.string ⟨#[]⟩))
      generalize (((((((((w3.setCell ⟨w.heap.size, 0, none⟩ (.int .i64 4)).setCell ⟨w.heap.size, 1, none⟩ (.bool false)).setCell ⟨w.heap.size, 2, none⟩ (.bool false)).setCell ⟨w.heap.size, 3, none⟩ (.slice none 0 0)).setCell ⟨w.heap.size, 4, none⟩ (.int .i64 0)).setCell ⟨w.heap.size, 5, none⟩ (.int .i64 0)).setCell ⟨w.heap.size, 6, none⟩ (.int .i64 mo)).setCell ⟨w.heap.size, 7, none⟩ (.int .i64 da)).setCell ⟨w.heap.size, 8, none⟩ (.string ⟨#[]⟩)) = W9 at *
      obtain ⟨r0, r1, r2, r3, r4, r5, r6, r7, r8, -, -, -, -, -, -, -, -, -, -⟩ := id R
      refine bodyPost_ret (v := .tuple #[.agg #[.int .i64 4, .bool false, .bool false, .slice none 0 0, .int .i64 0, .int .i64 0, .int .i64 mo, .int .i64 da, .string ⟨#[]⟩], .bool true]) (by simp [results, Tryz.results14, go_sem, r0, r1, r2, r3, r4, r5, r6, r7, r8]) rfl (gv_some (V4 mo da) (Own.nil _ _) BB (unhide E))
    · have e1 := txt_ne e
      have e2 : (P.toList != s.toList) = true := by simpa using e1
      have E := hide ((unhide HV).2 e)
      clear HV e
      go_wp2
      have R := (((((((((K3.put0 (.int .i64 0)).put1 (.bool false)).put2 (.bool false)).put3 (.slice none 0 0)).put4 (.int .i64 0)).put5 (.int .i64 0)).put6 (.int .i64 0)).put7 (.int .i64 0)).put8 (.string ⟨#[]⟩))
      have BB := (((((((((B3.setCell (p := ⟨w.heap.size, 0, none⟩) (Nat.le_refl _) (.int .i64 0)).setCell (p := ⟨w.heap.size, 1, none⟩) (Nat.le_refl _) (.bool false)).setCell (p := ⟨w.heap.size, 2, none⟩) (Nat.le_refl _) (.bool false)).setCell (p := ⟨w.heap.size, 3, none⟩) (Nat.le_refl _) (.slice none 0 0)).setCell (p := ⟨w.heap.size, 4, none⟩) (Nat.le_refl _) (.int .i64 0)).setCell (p := ⟨w.heap.size, 5, none⟩) (Nat.le_refl _) (.int .i64 0)).setCell (p := ⟨w.heap.size, 6, none⟩) (Nat.le_refl _) (.int .i64 0)).setCell (p := ⟨w.heap.size, 7, none⟩) (Nat.le_refl _) (.int .i64 0)).setCell (p := ⟨w.heap.size, 8, none⟩) (Nat.le_refl _) (.string ⟨#[]⟩))
      generalize (((((((((w3.setCell ⟨w.heap.size, 0, none⟩ (.int .i64 0)).setCell ⟨w.heap.size, 1, none⟩ (.bool false)).setCell ⟨w.heap.size, 2, none⟩ (.bool false)).setCell ⟨w.heap.size, 3, none⟩ (.slice none 0 0)).setCell ⟨w.heap.size, 4, none⟩ (.int .i64 0)).setCell ⟨w.heap.size, 5, none⟩ (.int .i64 0)).setCell ⟨w.heap.size, 6, none⟩ (.int .i64 0)).setCell ⟨w.heap.size, 7, none⟩ (.int .i64 0)).setCell ⟨w.heap.size, 8, none⟩ (.string ⟨#[]⟩)) = W9 at *
      obtain ⟨r0, r1, r2, r3, r4, r5, r6, r7, r8, -, -, -, -, -, -, -, -, -, -⟩ := id R
      refine bodyPost_ret (v := .tuple #[.agg #[.int .i64 0, .bool false, .bool false, .slice none 0 0, .int .i64 0, .int .i64 0, .int .i64 0, .int .i64 0, .string ⟨#[]⟩], .bool false]) (by simp [results, Tryz.results14, go_sem, r0, r1, r2, r3, r4, r5, r6, r7, r8]) rfl (gv_none BB (unhide E))
  · have HV : (valPutR 5 false false [] 0 0 0 0 t = s → VT s (V5 t)) ∧ (valPutR 5 false false [] 0 0 0 0 t ≠ s → ∀ U, ¬ VT s U) := vg_case (V := V5 t) (.inl hp) h1
    obtain ⟨P, hP⟩ : ∃ P, valPutR 5 false false [] 0 0 0 0 t = P := ⟨_, rfl⟩
    rw [hP] at HV
    have HV := hide HV
    clear h1 hp
    go_wp2_with fail
    refine (value_5 _ t).mono ?_
    rintro e w2 ⟨rfl, b2⟩
    have K2 := (K1.later b2).later ((Below.refl _ _).alloc (Nat.le_refl _) (.cells #[.int .i64 5, .bool false, .bool false, .slice none 0 0, .int .i64 0, .int .i64 0, .int .i64 0, .int .i64 0, .string t] 31))
    have B2 := B1.trans (b2.mono B1.size)
    have z2 := b2.size
    have X2 := V9.new w2 (.int .i64 5) (.bool false) (.bool false) (.slice none 0 0) (.int .i64 0) (.int .i64 0) (.int .i64 0) (.int .i64 0) (.string t) 31
    have CP := fun W (b : Below w.heap.size w W) => implValuePut_any W 5 false false none [] 0 0 0 0 0 t (by unfold maxLen; omega) ((Own.nil 0 W).reads) (tt.later b) (mx.later b)
    rw [hP] at CP
    have CP := hide CP
    clear hP K1 B1 b2
    go_wp2_with fail
    refine (unhide CP _ (B2.alloc B2.size _)).mono ?_
    rintro e w3 ⟨rfl, b3⟩
    have K3 := K2.later b3
    have X3 := X2.later b3
    have B3 := (B2.alloc B2.size (.cells #[.int .i64 5, .bool false, .bool false, .slice none 0 0, .int .i64 0, .int .i64 0, .int .i64 0, .int .i64 0, .string t] 31)).trans (b3.mono (by simp; omega))
    clear K2 X2 B2 b3 CP
    obtain ⟨x0, x1, x2, x3, x4, x5, x6, x7, x8, -, -, -, -, -, -, -, -, -, -⟩ := id X3
    obtain ⟨c0, c1, c2, c3, c4, c5, c6, c7, c8, f0, f1, f2, f3, f4, f5, f6, f7, f8, lt9⟩ := id K3
    by_cases e : P = s
    · have e1 : (P.toList == s.toList) = true := by simp [e]
      have e2 : (P.toList != s.toList) = false := by simp [e]
      have E := hide ((unhide HV).1 e)
      clear HV e
      go_wp2
      have R := (((((((((K3.put0 (.int .i64 5)).put1 (.bool false)).put2 (.bool false)).put3 (.slice none 0 0)).put4 (.int .i64 0)).put5 (.int .i64 0)).put6 (.int .i64 0)).put7 (.int .i64 0)).put8 (.string t))
      have BB := (((((((((B3.setCell (p := ⟨w.heap.size, 0, none⟩) (Nat.le_refl _) (.int .i64 5)).setCell (p := ⟨w.heap.size, 1, none⟩) (Nat.le_refl _) (.bool false)).setCell (p := ⟨w.heap.size, 2, none⟩) (Nat.le_refl _) (.bool false)).setCell (p := ⟨w.heap.size, 3, none⟩) (Nat.le_refl _) (.slice none 0 0)).setCell (p := ⟨w.heap.size, 4, none⟩) (Nat.le_refl _) (.int .i64 0)).setCell (p := ⟨w.heap.size, 5, none⟩) (Nat.le_refl _) (.int .i64 0)).setCell (p := ⟨w.heap.size, 6, none⟩) (Nat.le_refl _) (.int .i64 0)).setCell (p := ⟨w.heap.size, 7, none⟩) (Nat.le_refl _) (.int .i64 0)).setCell (p := ⟨w.heap.size, 8, none⟩) (Nat.le_refl _) (.string t))
      generalize (((((((((w3.setCell ⟨w.heap.size, 0, none⟩ (.int .i64 5)).setCell ⟨w.heap.size, 1, none⟩ (.bool false)).setCell ⟨w.heap.size, 2, none⟩ (.bool false)).setCell ⟨w.heap.size, 3, none⟩ (.slice none 0 0)).setCell ⟨w.heap.size, 4, none⟩ (.int .i64 0)).setCell ⟨w.heap.size, 5, none⟩ (.int .i64 0)).setCell ⟨w.heap.size, 6, none⟩ (.int .i64 0)).setCell ⟨w.heap.size, 7, none⟩ (.int .i64 0)).setCell ⟨w.heap.size, 8, none⟩ (.string t)) = W9 at *
      obtain ⟨r0, r1, r2, r3, r4, r5, r6, r7, r8, -, -, -, -, -, -, -, -, -, -⟩ := id R
      refine bodyPost_ret (v := .tuple #[.agg #[.int .i64 5, .bool false, .bool false, .slice none 0 0, .int .i64 0, .int .i64 0, .int .i64 0, .int .i64 0, .string t], .bool true]) (by simp [results, Tryz.results14, go_sem, r0, r1, r2, r3, r4, r5, r6, r7, r8]) rfl (gv_some (V5 t) (Own.nil _ _) BB (unhide E))
    · have e1 := txt_ne e
      have e2 : (P.toList != s.toList) = true := by simpa using e1
      have E := hide ((unhide HV).2 e)
      clear HV e
      go_wp2
      have R := (((((((((K3.put0 (.int .i64 0)).put1 (.bool false)).put2 (.bool false)).put3 (.slice none 0 0)).put4 (.int .i64 0)).put5 (.int .i64 0)).put6 (.int .i64 0)).put7 (.int .i64 0)).put8 (.string ⟨#[]⟩))
      have BB := (((((((((B3.setCell (p := ⟨w.heap.size, 0, none⟩) (Nat.le_refl _) (.int .i64 0)).setCell (p := ⟨w.heap.size, 1, none⟩) (Nat.le_refl _) (.bool false)).setCell (p := ⟨w.heap.size, 2, none⟩) (Nat.le_refl _) (.bool false)).setCell (p := ⟨w.heap.size, 3, none⟩) (Nat.le_refl _) (.slice none 0 0)).setCell (p := ⟨w.heap.size, 4, none⟩) (Nat.le_refl _) (.int .i64 0)).setCell (p := ⟨w.heap.size, 5, none⟩) (Nat.le_refl _) (.int .i64 0)).setCell (p := ⟨w.heap.size, 6, none⟩) (Nat.le_refl _) (.int .i64 0)).setCell (p := ⟨w.heap.size, 7, none⟩) (Nat.le_refl _) (.int .i64 0)).setCell (p := ⟨w.heap.size, 8, none⟩) (Nat.le_refl _) (.string ⟨#[]⟩))
      generalize (((((((((w3.setCell ⟨w.heap.size, 0, none⟩ (.int .i64 0)).setCell ⟨w.heap.size, 1, none⟩ (.bool false)).setCell ⟨w.heap.size, 2, none⟩ (.bool false)).setCell ⟨w.heap.size, 3, none⟩ (.slice none 0 0)).setCell ⟨w.heap.size, 4, none⟩ (.int .i64 0)).setCell ⟨w.heap.size, 5, none⟩ (.int .i64 0)).setCell ⟨w.heap.size, 6, none⟩ (.int .i64 0)).setCell ⟨w.heap.size, 7, none⟩ (.int .i64 0)).setCell ⟨w.heap.size, 8, none⟩ (.string ⟨#[]⟩)) = W9 at *
      obtain ⟨r0, r1, r2, r3, r4, r5, r6, r7, r8, -, -, -, -, -, -, -, -, -, -⟩ := id R
      refine bodyPost_ret (v := .tuple #[.agg #[.int .i64 0, .bool false, .bool false, .slice none 0 0, .int .i64 0, .int .i64 0, .int .i64 0, .int .i64 0, .string ⟨#[]⟩], .bool false]) (by simp [results, Tryz.results14, go_sem, r0, r1, r2, r3, r4, r5, r6, r7, r8]) rfl (gv_none BB (unhide E))

end Go.Proofs.YtdklikicngmkbaaGreatDoor
