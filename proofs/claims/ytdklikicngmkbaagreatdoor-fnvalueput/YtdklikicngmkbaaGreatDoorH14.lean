/- A decimal that was written is read back as it was: plain mathematics. Which value a text says: the kinds by their first bytes; that it is one at most. Plain mathematics. -/
import Derived.Test.YtdklikicngmkbaaGreatDoorG23
import Derived.Test.YtdklikicngmkbaaGreatDoorG05
import Derived.Test.YtdklikicngmkbaaGreatDoorH10
import Derived.Test.YtdklikicngmkbaaGreatDoorG19
import Derived.Test.YtdklikicngmkbaaGreatDoorG21
import Derived.Test.YtdklikicngmkbaaGreatDoorG22
import Derived.Test.YtdklikicngmkbaaGreatDoorG25
import Derived.Test.YtdklikicngmkbaaGreatDoorG18
namespace Go.Proofs.YtdklikicngmkbaaGreatDoor
open Go.RowKit

theorem num_pad (k : Nat) (D : List Nat) : num (List.replicate k 0 ++ D) = num D := by
  induction k with
  | zero => simp
  | succ k ih =>
    rw [List.replicate_succ, List.cons_append, ← ih]
    unfold num
    rw [List.foldl_cons]

theorem fig_pad (k n : Nat) : figB ⟨(List.replicate k 48 ++ Lib.decDigits n).toArray⟩ = true ∧ num (dg ⟨(List.replicate k 48 ++ Lib.decDigits n).toArray⟩) = n := by
  obtain ⟨i1, _, i3⟩ := dec_figs n
  constructor
  · unfold figB
    rw [List.all_eq_true]
    intro b hb
    have hb' : b ∈ List.replicate k 48 ++ Lib.decDigits n := hb
    rcases List.mem_append.1 hb' with h | h
    · rw [(List.mem_replicate.1 h).2]
      rfl
    · exact i1 b h
  · unfold dg
    have e : (⟨(List.replicate k 48 ++ Lib.decDigits n).toArray⟩ : ByteArray).data.toList = List.replicate k 48 ++ Lib.decDigits n := rfl
    rw [e, List.map_append, List.map_replicate, show (48 : UInt8).toNat - 48 = 0 from rfl, num_pad]
    exact i3

theorem fig_part {s : ByteArray} (h : figB s = true) (i j : Nat) : figB (s.extract i j) = true := by
  unfold figB at h ⊢
  rw [List.all_eq_true] at h ⊢
  intro b hb
  refine h b ?_
  rw [ByteArray.data_extract, Array.toList_extract, List.extract_eq_take_drop] at hb
  exact List.mem_of_mem_drop (List.mem_of_mem_take hb)

theorem glue_parts {s : ByteArray} {d : Nat} (h : d ≤ s.size) : s.extract 0 d ++ s.extract d s.size = s := by
  rw [ByteArray.extract_append_extract, show min 0 d = 0 by omega, show max d s.size = s.size by omega]
  simp

/-- Figures with a dot: where it stands, and what lies about it. -/
theorem dot_of {F : ByteArray} {s : Nat} (hf : figB F = true) (hs : s < F.size) :
    ∃ d, DotAt (dotT F s) d ∧ (dotT F s).extract 0 d = F.extract 0 (F.size - s) ∧ partOf (dotT F s) d = F.extract (F.size - s) F.size ∧ decide (d < (dotT F s).size) = decide (s ≠ 0) ∧ d = F.size - s ∧
      (dotT F s).size = F.size + (if s = 0 then 0 else 1) ∧ (∀ j (h : j < (dotT F s).size), j ≠ d → (dotT F s)[j].toNat ≠ 46) := by
  have fig46 : ∀ (G : ByteArray), figB G = true → ∀ j (h : j < G.size), G[j].toNat ≠ 46 := fun G hG j h => by
    have := figB_at hG j h
    omega
  refine ⟨F.size - s, ?_⟩
  by_cases h0 : s = 0
  · subst h0
    have e : dotT F 0 = F := by unfold dotT; rw [if_pos rfl]
    rw [e]
    refine ⟨⟨by omega, fun j h _ => fig46 F hf j h, fun h => by omega⟩, rfl, ?_, by simp, rfl, by simp, fun j h _ => fig46 F hf j h⟩
    unfold partOf
    rw [if_neg (by omega)]
    simp only [Nat.sub_zero]
    exact bytes_eqD (by simp)
  · have e : dotT F s = F.extract 0 (F.size - s) ++ ⟨#[46]⟩ ++ F.extract (F.size - s) F.size := by unfold dotT; rw [if_neg h0]
    have ha : figB (F.extract 0 (F.size - s)) = true := fig_part hf _ _
    have hb : figB (F.extract (F.size - s) F.size) = true := fig_part hf _ _
    have za : (F.extract 0 (F.size - s)).size = F.size - s := by simp
    have zb : (F.extract (F.size - s) F.size).size = s := by simp; omega
    rw [e]
    generalize F.extract 0 (F.size - s) = A at *
    generalize F.extract (F.size - s) F.size = B at *
    have hsz : (A ++ ⟨#[46]⟩ ++ B).size = F.size + 1 := by
      rw [ByteArray.size_append, ByteArray.size_append, za, zb]
      have : (⟨#[46]⟩ : ByteArray).size = 1 := rfl
      omega
    have hl : (A ++ ⟨#[46]⟩ ++ B).data.toList = A.data.toList ++ 46 :: B.data.toList := by simp [ByteArray.data_append]
    have la : A.data.toList.length = F.size - s := by rw [← za]; rfl
    have at_ : ∀ j (h : j < (A ++ ⟨#[46]⟩ ++ B).size), (A ++ ⟨#[46]⟩ ++ B)[j] = (A.data.toList ++ 46 :: B.data.toList)[j]'(by rw [← hl]; exact h) := fun j h => by
      rw [← bytes_at _ j h]
      simp only [hl]
    have hne : ∀ j (h : j < (A ++ ⟨#[46]⟩ ++ B).size), j ≠ F.size - s → (A ++ ⟨#[46]⟩ ++ B)[j].toNat ≠ 46 := by
      intro j h hj
      rw [at_ j h]
      rcases Nat.lt_or_ge j (F.size - s) with k | k
      · rw [List.getElem_append_left (by omega), bytes_at A j (by omega)]
        exact fig46 A ha j (by omega)
      · rw [List.getElem_append_right (by omega)]
        obtain ⟨i, hi⟩ : ∃ i, j - A.data.toList.length = i + 1 := ⟨j - A.data.toList.length - 1, by omega⟩
        simp only [hi, List.getElem_cons_succ]
        rw [bytes_at B i (by omega)]
        exact fig46 B hb i (by omega)
    refine ⟨⟨by omega, fun j h hj => hne j h (by omega), fun h => ?_⟩, ?_, ?_, ?_, rfl, by rw [hsz, if_neg h0], hne⟩
    · rw [at_ _ h, List.getElem_append_right (by omega)]
      simp [la]
    · refine bytes_eqD ?_
      rw [ByteArray.data_extract, Array.toList_extract, hl, List.extract_eq_take_drop, List.drop_zero, Nat.sub_zero]
      exact List.take_left' la
    · unfold partOf
      rw [if_pos (by omega)]
      refine bytes_eqD ?_
      rw [ByteArray.data_extract, Array.toList_extract, hl, List.extract_eq_take_drop, show A.data.toList ++ 46 :: B.data.toList = (A.data.toList ++ [46]) ++ B.data.toList by simp,
        List.drop_left' (l₁ := A.data.toList ++ [46]) (l₂ := B.data.toList) (by rw [List.length_append, la]; rfl), hsz, show F.size + 1 - (F.size - s + 1) = B.data.toList.length by rw [show B.data.toList.length = B.size from rfl, zb]; omega, List.take_length]
    · rw [hsz, decide_eq_decide]
      omega

/-- A sign ahead of a text that starts with no minus. -/
theorem sign_of (p : Bool) {r : ByteArray} (h : fstB r ≠ 45) : negB (⟨(sgT p).toArray⟩ ++ r) = p ∧ restB (⟨(sgT p).toArray⟩ ++ r) = r := by
  cases p with
  | false =>
    have e : (⟨(sgT false).toArray⟩ : ByteArray) ++ r = r := ByteArray.empty_append
    rw [e]
    have hn : negB r = false := by unfold negB; exact decide_eq_false h
    refine ⟨hn, ?_⟩
    unfold restB
    rw [hn, if_neg (by simp)]
  | true =>
    have e : (⟨(sgT true).toArray⟩ : ByteArray) ++ r = ⟨(45 :: r.data.toList).toArray⟩ := bytes_eqD (by rw [ByteArray.data_append, Array.toList_append]; rfl)
    have hn : negB (⟨(sgT true).toArray⟩ ++ r) = true := by rw [e]; unfold negB; rw [first_byte]; rfl
    refine ⟨hn, ?_⟩
    have hc := rest_cons hn
    rw [e] at hc
    rw [e]
    exact (bytes_eqD (List.cons.inj hc).2).symm

theorem dput_get {p : Bool} {l : List Int} {s : Nat} (h : decB p l s = true) :
    ∃ d, DotAt (restB (decT p l s)) d ∧ dgetR (negB (decT p l s)) ((restB (decT p l s)).extract 0 d) (partOf (restB (decT p l s)) d) (decide (d < (restB (decT p l s)).size)) = (p, l, (s : Int), true) := by
  obtain ⟨hok, ht, hs0, hs⟩ := decB_iff.1 h
  obtain ⟨hF1, hF2⟩ := figT_size (l := l) (s := s) ht (by omega)
  obtain ⟨el, -⟩ := ok_limbs (okB_true hok)
  have e0 : txtL l = Lib.decDigits (val l).toNat := by rw [el, txt_dec, ← el]
  have eF : figT l s = ⟨(List.replicate (s + 1 - (Lib.decDigits (val l).toNat).length) 48 ++ Lib.decDigits (val l).toNat).toArray⟩ := by unfold figT; rw [e0]
  generalize hn : (val l).toNat = n at *
  obtain ⟨hf, hnum⟩ := fig_pad (s + 1 - (Lib.decDigits n).length) n
  have hlen : (figT l s).size = (s + 1 - (Lib.decDigits n).length) + (Lib.decDigits n).length := by rw [eF, bytes_size, List.length_append, List.length_replicate]
  have hfst : s + 1 < (figT l s).size → fstB (figT l s) ≠ 48 := by
    intro k
    have k0 : s + 1 - (Lib.decDigits n).length = 0 := by omega
    have hpos : 0 < n := by
      rcases Nat.eq_zero_or_pos n with z | z
      · rw [z, dd1 (by omega)] at hlen
        simp at hlen
        omega
      · exact z
    have hh := dec_head hpos
    rw [eF, k0, List.replicate_zero, List.nil_append]
    cases hc : Lib.decDigits n with
    | nil => rw [hc] at hlen; simp at hlen; omega
    | cons x r =>
      rw [hc] at hh
      rw [first_byte]
      exact fun e => hh (by simp; exact UInt8.toNat_inj.1 (by rw [e]; rfl))
  rw [← eF] at hf hnum
  obtain ⟨d, hD, hwh, hpt, hfd, hd, hsz, -⟩ := dot_of hf hF1
  have hfst2 : fstB (dotT (figT l s) s) = fstB (figT l s) ∧ fstB ((figT l s).extract 0 ((figT l s).size - s)) = fstB (figT l s) := by
    have hx : fstB ((figT l s).extract 0 ((figT l s).size - s)) = fstB (figT l s) := by
      unfold fstB
      rw [dif_pos (by simp; omega), dif_pos (by omega)]
      simp [ByteArray.getElem_eq_getElem_data, ByteArray.data_extract]
    refine ⟨?_, hx⟩
    rw [← hx, ← hwh]
    unfold fstB
    rw [dif_pos (by rw [hsz]; omega), dif_pos (by simp; rw [hsz]; omega)]
    simp [ByteArray.getElem_eq_getElem_data, ByteArray.data_extract]
  have h45 : fstB (dotT (figT l s) s) ≠ 45 := by
    rw [hfst2.1]
    have := figB_at hf 0 (by omega)
    unfold fstB
    rw [dif_pos (by omega)]
    omega
  obtain ⟨hneg, hrest⟩ := sign_of p h45
  refine ⟨d, ?_⟩
  unfold decT
  rw [hneg, hrest, hwh, hpt, hfd]
  refine ⟨hD, ?_⟩
  have hglue : (figT l s).extract 0 ((figT l s).size - s) ++ (figT l s).extract ((figT l s).size - s) (figT l s).size = figT l s := glue_parts (by omega)
  have zpt : ((figT l s).extract ((figT l s).size - s) (figT l s).size).size = s := by simp; omega
  have zwh : ((figT l s).extract 0 ((figT l s).size - s)).size = (figT l s).size - s := by simp
  have eL : L (num (dg ((figT l s).extract 0 ((figT l s).size - s) ++ (figT l s).extract ((figT l s).size - s) (figT l s).size))) = l := by rw [hglue, hnum, ← el]
  have hplain : plainB ((figT l s).extract 0 ((figT l s).size - s)) = true := by
    have hfw := fig_part hf 0 ((figT l s).size - s)
    rcases Nat.lt_or_ge (s + 1) (figT l s).size with k | k
    · refine plain_lead hfw (by omega) ?_
      have := hfst k
      rw [← hfst2.2] at this
      unfold fstB at this
      rw [dif_pos (by omega)] at this
      exact this
    · exact plain_one hfw (by omega)
  have hgo : dgetOk p ((figT l s).extract 0 ((figT l s).size - s)) ((figT l s).extract ((figT l s).size - s) (figT l s).size) (decide (s ≠ 0)) = true := by
    unfold dgetOk
    rw [eL, zpt, zwh, hplain, h, fig_part hf _ _]
    simp
    omega
  rw [dget_yes hgo, eL, zpt]

/-- Where the dots of a decimal's text stand. -/
theorem dput_dots {p : Bool} {l : List Int} {s : Nat} (h : decB p l s = true) :
    ∃ D, D ≤ (decT p l s).size ∧ (∀ j (h : j < (decT p l s).size), j ≠ D → (decT p l s)[j].toNat ≠ 46) ∧ (∀ h : D < (decT p l s).size, (decT p l s)[D].toNat = 46) ∧
      (D < (decT p l s).size → (decT p l s).size - 1 - D = s) ∧ (¬ D < (decT p l s).size → s = 0) ∧ 0 < (decT p l s).size ∧ (decT p l s).size ≤ 40 := by
  obtain ⟨hok, ht, hs0, hs⟩ := decB_iff.1 h
  obtain ⟨hF1, hF2⟩ := figT_size (l := l) (s := s) ht (by omega)
  obtain ⟨el, -⟩ := ok_limbs (okB_true hok)
  have hf : figB (figT l s) = true := by
    unfold figT
    rw [el, txt_dec]
    exact (fig_pad _ _).1
  obtain ⟨d, ⟨hD1, hD2, hD3⟩, hwh, hpt, hfd, hd, hsz, hall⟩ := dot_of hf hF1
  unfold decT
  generalize dotT (figT l s) s = R at *
  generalize (figT l s).size = N at *
  have hS : (⟨(sgT p).toArray⟩ : ByteArray).size = (sgT p).length ∧ (sgT p).length ≤ 1 ∧ ∀ x ∈ sgT p, x.toNat ≠ 46 := by cases p <;> simp [sgT, ByteArray.size]
  have hsum : ((⟨(sgT p).toArray⟩ : ByteArray) ++ R).size = (sgT p).length + R.size := by rw [ByteArray.size_append, hS.1]
  have hl : ((⟨(sgT p).toArray⟩ : ByteArray) ++ R).data.toList = sgT p ++ R.data.toList := by simp [ByteArray.data_append]
  have at_ : ∀ j (h : j < ((⟨(sgT p).toArray⟩ : ByteArray) ++ R).size), ((⟨(sgT p).toArray⟩ : ByteArray) ++ R)[j] = (sgT p ++ R.data.toList)[j]'(by rw [← hl]; exact h) := fun j h => by
    rw [← bytes_at _ j h]
    simp only [hl]
  refine ⟨(sgT p).length + d, by omega, fun j hj hne => ?_, fun hj => ?_, fun hj => ?_, fun hj => ?_, by omega, ?_⟩
  · rw [at_ j hj]
    rcases Nat.lt_or_ge j (sgT p).length with k | k
    · rw [List.getElem_append_left k]
      exact hS.2.2 _ (List.getElem_mem _)
    · rw [List.getElem_append_right k, bytes_at R _ (by omega)]
      exact hall _ (by omega) (by omega)
  · rw [at_ _ hj, List.getElem_append_right (by omega), bytes_at R _ (by omega)]
    simp only [Nat.add_sub_cancel_left]
    exact hD3 (by omega)
  · rw [hsum]
    split at hsz <;> omega
  · split at hsz <;> omega
  · split at hsz <;> omega

end Go.Proofs.YtdklikicngmkbaaGreatDoor

namespace Go.Proofs.YtdklikicngmkbaaGreatDoor
open Go.RowKit
set_option linter.unusedSimpArgs false
set_option linter.unusedVariables false

/-- A text says a value that is ok. -/
def VT (s : ByteArray) (V : Vl) : Prop := valB V.k V.y V.n V.l V.sc V.d V.mo V.da V.t = true ∧ putR V.k V.y V.n V.l V.sc V.d V.mo V.da V.t = s

def V0 : Vl := ⟨0, false, false, [], 0, 0, 0, 0, ⟨#[]⟩⟩
def V1 (y : Bool) : Vl := ⟨1, y, false, [], 0, 0, 0, 0, ⟨#[]⟩⟩
def V2 (n : Bool) (l : List Int) (sc : Int) : Vl := ⟨2, false, n, l, sc, 0, 0, 0, ⟨#[]⟩⟩
def V3 (d : Int) : Vl := ⟨3, false, false, [], 0, d, 0, 0, ⟨#[]⟩⟩
def V4 (mo da : Int) : Vl := ⟨4, false, false, [], 0, 0, mo, da, ⟨#[]⟩⟩
def V5 (t : ByteArray) : Vl := ⟨5, false, false, [], 0, 0, 0, 0, t⟩

theorem isEmpty_eq {t : ByteArray} (h : t.toList.isEmpty = true) : t = ⟨#[]⟩ := by
  rw [empty_size] at h
  have h0 : t.size = 0 := by simpa using h
  refine bytes_eqD ?_
  have : t.data.toList.length = 0 := by simpa using h0
  rw [List.length_eq_zero_iff.1 this]

theorem bare_iff {y n : Bool} {N : Nat} {sc d mo da : Int} {t : ByteArray} (h : bareB y n N sc d mo da t = true) : n = false ∧ N = 0 ∧ sc = 0 ∧ y = false ∧ d = 0 ∧ mo = 0 ∧ da = 0 ∧ t = ⟨#[]⟩ := by
  simp only [bareB, Bool.and_eq_true, decide_eq_true_eq, Bool.not_eq_true'] at h
  obtain ⟨⟨⟨⟨⟨⟨h1, h2⟩, h3⟩, h4⟩, h5⟩, h6, h7⟩, h8⟩ := h
  exact ⟨h1, h2, h3, h4, h5, h6, h7, isEmpty_eq h8⟩

theorem nil_len {l : List Int} (h : l.length = 0) : l = [] := List.length_eq_zero_iff.1 h

theorem vt_shape {s : ByteArray} {V : Vl} (h : VT s V) :
    (V = V0 ∧ s = ⟨#[110, 117, 108, 108]⟩) ∨ (∃ y, V = V1 y ∧ s = truT y) ∨ (∃ n l sc, V = V2 n l sc ∧ decB n l sc = true ∧ decT n l sc.toNat = s) ∨
      (∃ d, V = V3 d ∧ (1 ≤ d ∧ d ≤ 3652059) ∧ ⟨#[64]⟩ ++ dayT d = s) ∨ (∃ mo da, V = V4 mo da ∧ SpanIs mo da ∧ ⟨#[35]⟩ ++ spanT mo da = s) ∨ (∃ t, V = V5 t ∧ textB t = true ∧ quoteT t = s) := by
  obtain ⟨k, y, n, l, sc, d, mo, da, t⟩ := V
  obtain ⟨h1, h2⟩ := h
  simp only at h1 h2
  rcases valB_kind h1 with rfl | rfl | rfl | rfl | rfl | rfl
  · obtain ⟨a, b, c, e, f, g, i, j⟩ := bare_iff (show bareB y n l.length sc d mo da t = true from h1)
    subst a c e f g i j
    rw [nil_len b]
    exact .inl ⟨rfl, h2.symm⟩
  · obtain ⟨a, b, c, -, f, g, i, j⟩ := bare_iff (show bareB false n l.length sc d mo da t = true from h1)
    subst a c f g i j
    rw [nil_len b]
    exact .inr (.inl ⟨y, rfl, h2.symm⟩)
  · have h1 : (decB n l sc && bareB y false 0 0 d mo da t) = true := h1
    rw [Bool.and_eq_true] at h1
    obtain ⟨-, -, -, e, f, g, i, j⟩ := bare_iff h1.2
    subst e f g i j
    exact .inr (.inr (.inl ⟨n, l, sc, rfl, h1.1, h2⟩))
  · have h1 : (decide (1 ≤ d ∧ d ≤ 3652059) && bareB y n l.length sc 0 mo da t) = true := h1
    rw [Bool.and_eq_true, decide_eq_true_eq] at h1
    obtain ⟨a, b, c, e, -, g, i, j⟩ := bare_iff h1.2
    subst a c e g i j
    rw [nil_len b]
    exact .inr (.inr (.inr (.inl ⟨d, rfl, h1.1, h2⟩)))
  · have h1 : (decide (SpanIs mo da) && bareB y n l.length sc d 0 0 t) = true := h1
    rw [Bool.and_eq_true, decide_eq_true_eq] at h1
    obtain ⟨a, b, c, e, f, -, -, j⟩ := bare_iff h1.2
    subst a c e f j
    rw [nil_len b]
    exact .inr (.inr (.inr (.inr (.inl ⟨mo, da, rfl, h1.1, h2⟩))))
  · have h1 : (textB t && bareB y n l.length sc d mo da (⟨#[]⟩)) = true := h1
    rw [Bool.and_eq_true] at h1
    obtain ⟨a, b, c, e, f, g, i, -⟩ := bare_iff h1.2
    subst a c e f g i
    rw [nil_len b]
    exact .inr (.inr (.inr (.inr (.inr ⟨t, rfl, h1.1, h2⟩))))

/- the values that are ok -/
theorem bare_0 : bareB false false 0 0 0 0 0 ⟨#[]⟩ = true := by unfold bareB; rw [empty_size]; rfl
theorem vt_0 : VT ⟨#[110, 117, 108, 108]⟩ V0 := ⟨bare_0, rfl⟩
theorem vt_1 (y : Bool) : VT (truT y) (V1 y) := ⟨bare_0, rfl⟩
theorem vt_2 {s : ByteArray} {n : Bool} {l : List Int} {sc : Int} (h : decB n l sc = true) (e : decT n l sc.toNat = s) : VT s (V2 n l sc) :=
  ⟨show (decB n l sc && bareB false false 0 0 0 0 0 ⟨#[]⟩) = true by rw [h, bare_0]; rfl, e⟩
theorem vt_3 {s : ByteArray} {d : Int} (h : 1 ≤ d ∧ d ≤ 3652059) (e : ⟨#[64]⟩ ++ dayT d = s) : VT s (V3 d) :=
  ⟨show (decide (1 ≤ d ∧ d ≤ 3652059) && bareB false false 0 0 0 0 0 ⟨#[]⟩) = true by rw [decide_eq_true h, bare_0]; rfl, e⟩
theorem vt_4 {s : ByteArray} {mo da : Int} (h : SpanIs mo da) (e : ⟨#[35]⟩ ++ spanT mo da = s) : VT s (V4 mo da) :=
  ⟨show (decide (SpanIs mo da) && bareB false false 0 0 0 0 0 ⟨#[]⟩) = true by rw [decide_eq_true h, bare_0]; rfl, e⟩
theorem vt_5 {s : ByteArray} {t : ByteArray} (h : textB t = true) (e : quoteT t = s) : VT s (V5 t) :=
  ⟨show (textB t && bareB false false 0 0 0 0 0 ⟨#[]⟩) = true by rw [h, bare_0]; rfl, e⟩

/- first bytes -/
theorem fst_cat (c : UInt8) (x : ByteArray) : fstB ((⟨([c] : List UInt8).toArray⟩ : ByteArray) ++ x) = c.toNat := by
  rw [show (⟨([c] : List UInt8).toArray⟩ : ByteArray) ++ x = ⟨(c :: x.data.toList).toArray⟩ from bytes_eqD (by rw [ByteArray.data_append, Array.toList_append]; rfl)]
  exact first_byte
theorem fst_list {s : ByteArray} {c : UInt8} {r : List UInt8} (h : s.data.toList = c :: r) : fstB s = c.toNat := by
  rw [bytes_of h]
  exact first_byte
theorem rest_cat (c : UInt8) (x : ByteArray) : ((⟨([c] : List UInt8).toArray⟩ : ByteArray) ++ x).extract 1 ((⟨([c] : List UInt8).toArray⟩ : ByteArray) ++ x).size = x := by
  refine bytes_eqD ?_
  rw [tail_list, ByteArray.data_append, Array.toList_append]
  rfl
theorem cat_fst {s : ByteArray} {c : UInt8} (h : fstB s = c.toNat) (h0 : 0 < c.toNat) : (⟨([c] : List UInt8).toArray⟩ : ByteArray) ++ s.extract 1 s.size = s := by
  have hp : 0 < s.size := by
    apply Nat.pos_of_ne_zero
    intro z
    unfold fstB at h
    rw [dif_neg (by omega)] at h
    omega
  refine bytes_eqD ?_
  rw [ByteArray.data_append, Array.toList_append, tail_list]
  show c :: s.data.toList.tail = s.data.toList
  have e := cons_tail (l := s.data.toList) (by simpa using hp)
  rw [bytes_at s 0 hp] at e
  unfold fstB at h
  rw [dif_pos hp] at h
  rw [← UInt8.toNat_inj.1 h]
  exact e.symm
theorem fst_null : fstB ⟨#[110, 117, 108, 108]⟩ = 110 := rfl
theorem fst_tru (y : Bool) : fstB (truT y) = if y = true then 116 else 102 := by cases y <;> rfl
theorem fst_quo (t : ByteArray) : fstB (quoteT t) = 39 := by
  unfold quoteT quoL
  exact first_byte

theorem num_get {s : ByteArray} {d : Nat} (hd : DotAt (restB s) d) {o : Bool × List Int × Int × Bool} (ho : dgetR (negB s) ((restB s).extract 0 d) (partOf (restB s) d) (decide (d < (restB s).size)) = o) :
    (o.2.2.2 = true → decB o.1 o.2.1 o.2.2.1 = true ∧ decT o.1 o.2.1 o.2.2.1.toNat = s) ∧ (o.2.2.2 = false → o = (false, [], 0, false)) ∧ (∀ n l sc, decB n l sc = true → decT n l sc.toNat = s → o = (n, l, sc, true)) := by
  refine ⟨fun h => ?_, fun h => ?_, fun n l sc h1 h2 => ?_⟩
  · rw [← ho] at h
    obtain ⟨a, b⟩ := dget_put hd h
    rw [ho] at a b
    refine ⟨b, ?_⟩
    unfold dputR at a
    rw [if_pos b] at a
    exact a
  · cases hk : dgetOk (negB s) ((restB s).extract 0 d) (partOf (restB s) d) (decide (d < (restB s).size)) with
    | false => rw [← ho, dget_no hk]
    | true => rw [← ho, dget_yes hk] at h; cases h
  · obtain ⟨-, -, hs0, -⟩ := decB_iff.1 h1
    obtain ⟨k, rfl⟩ := Int.eq_ofNat_of_zero_le hs0
    rw [Int.toNat_natCast] at h2
    obtain ⟨d', hd', e⟩ := dput_get h1
    rw [h2] at hd' e
    rw [hd.same hd', e] at ho
    exact ho.symm

/-- A decimal's text begins with a minus or a figure. -/
theorem num_fst {s : ByteArray} {n : Bool} {l : List Int} {sc : Int} (h1 : decB n l sc = true) (h2 : decT n l sc.toNat = s) : fstB s = 45 ∨ (48 ≤ fstB s ∧ fstB s ≤ 57) := by
  obtain ⟨d, hd⟩ := dot_is (restB s)
  have e := (num_get hd rfl).2.2 n l sc h1 h2
  by_cases hn : negB s = true
  · unfold negB at hn
    exact .inl (by simpa using hn)
  · right
    have hr : restB s = s := by unfold restB; rw [if_neg hn]
    rw [hr] at e hd
    cases hk : dgetOk (negB s) (s.extract 0 d) (partOf s d) (decide (d < s.size)) with
    | false => rw [dget_no hk] at e; cases e
    | true =>
      unfold dgetOk at hk
      simp only [Bool.and_eq_true] at hk
      have hp := hk.1.1.1.1
      have hp0 := plain_pos hp
      have hf := figB_at (plain_fig hp) 0 hp0
      have hp1 : 0 < s.size := by
        rw [ByteArray.size_extract] at hp0
        omega
      unfold fstB
      rw [dif_pos hp1]
      simpa [ByteArray.getElem_eq_getElem_data, ByteArray.data_extract] using hf

theorem one_0 {V : Vl} (h : VT ⟨#[110, 117, 108, 108]⟩ V) : V = V0 := by
  have f := fst_null
  rcases vt_shape h with ⟨e, -⟩ | ⟨y, -, e⟩ | ⟨n, l, sc, -, a, b⟩ | ⟨d, -, -, e⟩ | ⟨mo, da, -, -, e⟩ | ⟨t, -, -, e⟩
  · exact e
  · rw [e, fst_tru] at f; split at f <;> omega
  · have := num_fst a b; omega
  · rw [← e, show (⟨#[64]⟩ : ByteArray) = ⟨([64] : List UInt8).toArray⟩ from rfl, fst_cat] at f; cases f
  · rw [← e, show (⟨#[35]⟩ : ByteArray) = ⟨([35] : List UInt8).toArray⟩ from rfl, fst_cat] at f; cases f
  · rw [← e, fst_quo] at f; cases f

theorem one_1 {y : Bool} {V : Vl} (h : VT (truT y) V) : V = V1 y := by
  have f := fst_tru y
  have f2 : fstB (truT y) = 116 ∨ fstB (truT y) = 102 := by rw [f]; split <;> simp
  rcases vt_shape h with ⟨-, e⟩ | ⟨y', e', e⟩ | ⟨n, l, sc, -, a, b⟩ | ⟨d, -, -, e⟩ | ⟨mo, da, -, -, e⟩ | ⟨t, -, -, e⟩
  · rw [e, fst_null] at f2; omega
  · rw [e'] at *
    rw [e, fst_tru] at f
    have : y' = y := by cases y <;> cases y' <;> first | rfl | (simp at f)
    rw [this]
  · have := num_fst a b; omega
  · rw [← e, show (⟨#[64]⟩ : ByteArray) = ⟨([64] : List UInt8).toArray⟩ from rfl, fst_cat] at f2; rcases f2 with f2 | f2 <;> cases f2
  · rw [← e, show (⟨#[35]⟩ : ByteArray) = ⟨([35] : List UInt8).toArray⟩ from rfl, fst_cat] at f2; rcases f2 with f2 | f2 <;> cases f2
  · rw [← e, fst_quo] at f2; omega

theorem atB_iff {s : ByteArray} : atB s = true ↔ fstB s = 64 := by unfold atB; simp
theorem hashB_iff {s : ByteArray} : hashB s = true ↔ fstB s = 35 := by unfold hashB; simp
theorem quotB_iff {s : ByteArray} : quotB s = true ↔ fstB s = 39 := by unfold quotB; simp

theorem one_3 {s : ByteArray} (hs : atB s = true) {V : Vl} (h : VT s V) : ∃ d, V = V3 d ∧ IsDayT (atRest s) d := by
  have f := atB_iff.1 hs
  rcases vt_shape h with ⟨-, e⟩ | ⟨y', -, e⟩ | ⟨n, l, sc, -, a, b⟩ | ⟨d, e', hd, e⟩ | ⟨mo, da, -, -, e⟩ | ⟨t, -, -, e⟩
  · rw [e, fst_null] at f; omega
  · rw [e, fst_tru] at f; split at f <;> omega
  · have := num_fst a b; omega
  · refine ⟨d, e', hd, ?_⟩
    unfold atRest
    rw [if_pos hs, ← e]
    exact (rest_cat 64 _).symm
  · rw [← e, show (⟨#[35]⟩ : ByteArray) = ⟨([35] : List UInt8).toArray⟩ from rfl, fst_cat] at f; cases f
  · rw [← e, fst_quo] at f; cases f
theorem is_3 {s : ByteArray} (hs : atB s = true) {d : Int} (h : IsDayT (atRest s) d) : VT s (V3 d) := by
  refine vt_3 h.1 ?_
  rw [h.2]
  unfold atRest
  rw [if_pos hs]
  exact cat_fst (c := 64) (atB_iff.1 hs) (by decide)

theorem one_4 {s : ByteArray} (hs : hashB s = true) {V : Vl} (h : VT s V) : ∃ mo da, V = V4 mo da ∧ SpT (hashRest s) mo da := by
  have f := hashB_iff.1 hs
  rcases vt_shape h with ⟨-, e⟩ | ⟨y', -, e⟩ | ⟨n, l, sc, -, a, b⟩ | ⟨d, -, -, e⟩ | ⟨mo, da, e', hd, e⟩ | ⟨t, -, -, e⟩
  · rw [e, fst_null] at f; omega
  · rw [e, fst_tru] at f; split at f <;> omega
  · have := num_fst a b; omega
  · rw [← e, show (⟨#[64]⟩ : ByteArray) = ⟨([64] : List UInt8).toArray⟩ from rfl, fst_cat] at f; cases f
  · refine ⟨mo, da, e', hd, ?_⟩
    unfold hashRest
    rw [if_pos hs, ← e]
    exact (rest_cat 35 _).symm
  · rw [← e, fst_quo] at f; cases f
theorem is_4 {s : ByteArray} (hs : hashB s = true) {mo da : Int} (h : SpT (hashRest s) mo da) : VT s (V4 mo da) := by
  refine vt_4 h.1 ?_
  rw [h.2]
  unfold hashRest
  rw [if_pos hs]
  exact cat_fst (c := 35) (hashB_iff.1 hs) (by decide)

theorem one_5 {s : ByteArray} (hs : quotB s = true) {V : Vl} (h : VT s V) : ∃ t, V = V5 t ∧ textB t = true ∧ quoteT t = s := by
  have f := quotB_iff.1 hs
  rcases vt_shape h with ⟨-, e⟩ | ⟨y', -, e⟩ | ⟨n, l, sc, -, a, b⟩ | ⟨d, -, -, e⟩ | ⟨mo, da, -, -, e⟩ | ⟨t, e', a, e⟩
  · rw [e, fst_null] at f; omega
  · rw [e, fst_tru] at f; split at f <;> omega
  · have := num_fst a b; omega
  · rw [← e, show (⟨#[64]⟩ : ByteArray) = ⟨([64] : List UInt8).toArray⟩ from rfl, fst_cat] at f; cases f
  · rw [← e, show (⟨#[35]⟩ : ByteArray) = ⟨([35] : List UInt8).toArray⟩ from rfl, fst_cat] at f; cases f
  · exact ⟨t, e', a, e⟩

theorem one_2 {s : ByteArray} (h0 : s ≠ ⟨#[110, 117, 108, 108]⟩) (h1 : ∀ y, s ≠ truT y) (h3 : atB s = false) (h4 : hashB s = false) (h5 : quotB s = false) {V : Vl} (h : VT s V) : ∃ n l sc, V = V2 n l sc ∧ decB n l sc = true ∧ decT n l sc.toNat = s := by
  rcases vt_shape h with ⟨-, e⟩ | ⟨y', -, e⟩ | ⟨n, l, sc, e', a, b⟩ | ⟨d, -, -, e⟩ | ⟨mo, da, -, -, e⟩ | ⟨t, -, -, e⟩
  · exact absurd e h0
  · exact absurd e (h1 y')
  · exact ⟨n, l, sc, e', a, b⟩
  · rw [← e, show (⟨#[64]⟩ : ByteArray) = ⟨([64] : List UInt8).toArray⟩ from rfl, Bool.eq_false_iff] at h3; exact absurd (atB_iff.2 (fst_cat _ _)) h3
  · rw [← e, show (⟨#[35]⟩ : ByteArray) = ⟨([35] : List UInt8).toArray⟩ from rfl, Bool.eq_false_iff] at h4; exact absurd (hashB_iff.2 (fst_cat _ _)) h4
  · rw [← e, Bool.eq_false_iff] at h5; exact absurd (quotB_iff.2 (fst_quo _)) h5

/-- A text says one value at most. -/
theorem vt_one {s : ByteArray} {V U : Vl} (h : VT s V) (k : VT s U) : V = U := by
  rcases vt_shape h with ⟨e, e'⟩ | ⟨y, e, e'⟩ | ⟨n, l, sc, e, a, b⟩ | ⟨d, e, hd, e'⟩ | ⟨mo, da, e, hd, e'⟩ | ⟨t, e, a, e'⟩
  · rw [e'] at k; rw [e, one_0 k]
  · rw [e'] at k; rw [e, one_1 k]
  · have f := num_fst a b
    obtain ⟨n', l', sc', e2, a2, b2⟩ := one_2 (fun q => by rw [q, fst_null] at f; omega) (fun y q => by rw [q, fst_tru] at f; split at f <;> omega) (by rw [Bool.eq_false_iff]; intro q; have := atB_iff.1 q; omega) (by rw [Bool.eq_false_iff]; intro q; have := hashB_iff.1 q; omega) (by rw [Bool.eq_false_iff]; intro q; have := quotB_iff.1 q; omega) k
    obtain ⟨d, hd⟩ := dot_is (restB s)
    have q := ((num_get hd rfl).2.2 n l sc a b).symm.trans ((num_get hd rfl).2.2 n' l' sc' a2 b2)
    simp only [Prod.mk.injEq] at q
    rw [e, e2, q.1, q.2.1, q.2.2.1]
  · have hs : atB s = true := atB_iff.2 (by rw [← e']; exact fst_cat 64 _)
    obtain ⟨d1, e1, k1⟩ := one_3 hs h
    obtain ⟨d2, e2, k2⟩ := one_3 hs k
    rw [e1, e2, (dayG_of k1).symm.trans (dayG_of k2)]
  · have hs : hashB s = true := hashB_iff.2 (by rw [← e']; exact fst_cat 35 _)
    obtain ⟨m1, d1, e1, k1⟩ := one_4 hs h
    obtain ⟨m2, d2, e2, k2⟩ := one_4 hs k
    obtain ⟨q1, q2⟩ := span_same k1 k2
    rw [e1, e2, q1, q2]
  · have hs : quotB s = true := quotB_iff.2 (by rw [← e']; exact fst_quo _)
    obtain ⟨t1, e1, -, k1⟩ := one_5 hs h
    obtain ⟨t2, e2, -, k2⟩ := one_5 hs k
    have q : quoteT t1 = quoteT t2 := k1.trans k2.symm
    have q2 : t1 = t2 := by
      have q3 := congrArg (fun x : ByteArray => x.data.toList) q
      simp only [quoteT, quoL, List.cons_append, List.cons.injEq, true_and, List.append_cancel_right_eq] at q3
      exact bytes_eqD (dbl_inj q3)
    rw [e1, e2, q2]

/-- A text between quotes, as the program makes it of what stands behind the first. -/
def unqT (r : ByteArray) : ByteArray := ⟨(Lib.replaceAll (Lib.trimSuffix r.data.toList [39]) [39, 39] [39]).toArray⟩

theorem unq_of {s t : ByteArray} (hs : quotB s = true) (h : quoteT t = s) : unqT (quotRest s) = t := by
  have e : (quotRest s).data.toList = dbl t.data.toList ++ [39] := by
    unfold quotRest
    rw [if_pos hs, tail_list, ← h]
    rfl
  unfold unqT
  rw [e]
  have h1 : Lib.trimSuffix (dbl t.data.toList ++ [39]) [39] = dbl t.data.toList := by
    have hs : Lib.hasSuffix (dbl t.data.toList ++ [39]) [39] = true := by simp [Lib.hasSuffix]
    simp [Lib.trimSuffix, hs]
  rw [h1, undbl_all]

/-- The empty text says nothing. -/
theorem vt_none {s : ByteArray} (hs : s.size = 0) {V : Vl} (h : VT s V) : False := by
  have f : fstB s = 0 := by unfold fstB; rw [dif_neg (by omega)]
  rcases vt_shape h with ⟨-, e⟩ | ⟨y', -, e⟩ | ⟨n, l, sc, -, a, b⟩ | ⟨d, -, -, e⟩ | ⟨mo, da, -, -, e⟩ | ⟨t, -, -, e⟩
  · rw [e, fst_null] at f; cases f
  · rw [e, fst_tru] at f; split at f <;> cases f
  · have := num_fst a b; omega
  · rw [← e, show (⟨#[64]⟩ : ByteArray) = ⟨([64] : List UInt8).toArray⟩ from rfl, fst_cat] at f; cases f
  · rw [← e, show (⟨#[35]⟩ : ByteArray) = ⟨([35] : List UInt8).toArray⟩ from rfl, fst_cat] at f; cases f
  · rw [← e, fst_quo] at f; cases f

/-- What ValueGet answers: a value of its own that the text says, and whether; else nothing. -/
def GivesV (w : World) (s : ByteArray) (e : Ending) (w' : World) : Prop :=
  ∃ (V : Vl) (ao : Option Addr) (cap : Nat) (ok : Bool), e = .returned (.tuple #[.agg #[.int .i64 V.k, .bool V.y, .bool V.n, .slice ao V.l.length cap, .int .i64 V.sc, .int .i64 V.d, .int .i64 V.mo, .int .i64 V.da, .string V.t], .bool ok]) ∧
    Own w.heap.size w' (.slice ao V.l.length cap) V.l ∧ Below w.heap.size w w' ∧ ((ok = true ∧ VT s V) ∨ (ok = false ∧ V = V0 ∧ ∀ U, ¬ VT s U))

end Go.Proofs.YtdklikicngmkbaaGreatDoor
