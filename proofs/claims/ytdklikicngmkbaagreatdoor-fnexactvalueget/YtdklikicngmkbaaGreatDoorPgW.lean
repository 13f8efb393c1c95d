/- A decimal that was written is read back as it was: plain mathematics. -/
import Derived.Test.YtdklikicngmkbaaGreatDoorG23
namespace Go.Proofs.YtdklikicngmkbaaGreatDoor
open Go.RowKit

theorem num_pad (k : Nat) (D : List Nat) : num (List.replicate k 0 ++ D) = num D := by
  induction k with
  | zero => simp
  | succ k ih =>
    rw [List.replicate_succ, List.cons_append, ← ih]
    unfold num
    rw [List.foldl_cons]

theorem fig_pad (k n : Nat) : figB ⟨(List.replicate k 48 ++ Lib.decDigits n).toArray⟩ = true ∧ num (dg ⟨(List.replicate k 48 ++ Lib.decDigits n).toArray⟩) = n := by
  obtain ⟨i1, _, i3⟩ := dec_figs n
  constructor
  · unfold figB
    rw [List.all_eq_true]
    intro b hb
    have hb' : b ∈ List.replicate k 48 ++ Lib.decDigits n := hb
    rcases List.mem_append.1 hb' with h | h
    · rw [(List.mem_replicate.1 h).2]
      rfl
    · exact i1 b h
  · unfold dg
    have e : (⟨(List.replicate k 48 ++ Lib.decDigits n).toArray⟩ : ByteArray).data.toList = List.replicate k 48 ++ Lib.decDigits n := rfl
    rw [e, List.map_append, List.map_replicate, show (48 : UInt8).toNat - 48 = 0 from rfl, num_pad]
    exact i3

theorem fig_part {s : ByteArray} (h : figB s = true) (i j : Nat) : figB (s.extract i j) = true := by
  unfold figB at h ⊢
  rw [List.all_eq_true] at h ⊢
  intro b hb
  refine h b ?_
  rw [ByteArray.data_extract, Array.toList_extract, List.extract_eq_take_drop] at hb
  exact List.mem_of_mem_drop (List.mem_of_mem_take hb)

theorem glue_parts {s : ByteArray} {d : Nat} (h : d ≤ s.size) : s.extract 0 d ++ s.extract d s.size = s := by
  rw [ByteArray.extract_append_extract, show min 0 d = 0 by omega, show max d s.size = s.size by omega]
  simp

/-- Figures with a dot: where it stands, and what lies about it. -/
theorem dot_of {F : ByteArray} {s : Nat} (hf : figB F = true) (hs : s < F.size) :
    ∃ d, DotAt (dotT F s) d ∧ (dotT F s).extract 0 d = F.extract 0 (F.size - s) ∧ partOf (dotT F s) d = F.extract (F.size - s) F.size ∧ decide (d < (dotT F s).size) = decide (s ≠ 0) ∧ d = F.size - s ∧
      (dotT F s).size = F.size + (if s = 0 then 0 else 1) ∧ (∀ j (h : j < (dotT F s).size), j ≠ d → (dotT F s)[j].toNat ≠ 46) := by
  have fig46 : ∀ (G : ByteArray), figB G = true → ∀ j (h : j < G.size), G[j].toNat ≠ 46 := fun G hG j h => by
    have := figB_at hG j h
    omega
  refine ⟨F.size - s, ?_⟩
  by_cases h0 : s = 0
  · subst h0
    have e : dotT F 0 = F := by unfold dotT; rw [if_pos rfl]
    rw [e]
    refine ⟨⟨by omega, fun j h _ => fig46 F hf j h, fun h => by omega⟩, rfl, ?_, by simp, rfl, by simp, fun j h _ => fig46 F hf j h⟩
    unfold partOf
    rw [if_neg (by omega)]
    simp only [Nat.sub_zero]
    exact bytes_eqD (by simp)
  · have e : dotT F s = F.extract 0 (F.size - s) ++ ⟨#[46]⟩ ++ F.extract (F.size - s) F.size := by unfold dotT; rw [if_neg h0]
    have ha : figB (F.extract 0 (F.size - s)) = true := fig_part hf _ _
    have hb : figB (F.extract (F.size - s) F.size) = true := fig_part hf _ _
    have za : (F.extract 0 (F.size - s)).size = F.size - s := by simp
    have zb : (F.extract (F.size - s) F.size).size = s := by simp; omega
    rw [e]
    generalize F.extract 0 (F.size - s) = A at *
    generalize F.extract (F.size - s) F.size = B at *
    have hsz : (A ++ ⟨#[46]⟩ ++ B).size = F.size + 1 := by
      rw [ByteArray.size_append, ByteArray.size_append, za, zb]
      have : (⟨#[46]⟩ : ByteArray).size = 1 := rfl
      omega
    have hl : (A ++ ⟨#[46]⟩ ++ B).data.toList = A.data.toList ++ 46 :: B.data.toList := by simp [ByteArray.data_append]
    have la : A.data.toList.length = F.size - s := by rw [← za]; rfl
    have at_ : ∀ j (h : j < (A ++ ⟨#[46]⟩ ++ B).size), (A ++ ⟨#[46]⟩ ++ B)[j] = (A.data.toList ++ 46 :: B.data.toList)[j]'(by rw [← hl]; exact h) := fun j h => by
      rw [← bytes_at _ j h]
      simp only [hl]
    have hne : ∀ j (h : j < (A ++ ⟨#[46]⟩ ++ B).size), j ≠ F.size - s → (A ++ ⟨#[46]⟩ ++ B)[j].toNat ≠ 46 := by
      intro j h hj
      rw [at_ j h]
      rcases Nat.lt_or_ge j (F.size - s) with k | k
      · rw [List.getElem_append_left (by omega), bytes_at A j (by omega)]
        exact fig46 A ha j (by omega)
      · rw [List.getElem_append_right (by omega)]
        obtain ⟨i, hi⟩ : ∃ i, j - A.data.toList.length = i + 1 := ⟨j - A.data.toList.length - 1, by omega⟩
        simp only [hi, List.getElem_cons_succ]
        rw [bytes_at B i (by omega)]
        exact fig46 B hb i (by omega)
    refine ⟨⟨by omega, fun j h hj => hne j h (by omega), fun h => ?_⟩, ?_, ?_, ?_, rfl, by rw [hsz, if_neg h0], hne⟩
    · rw [at_ _ h, List.getElem_append_right (by omega)]
      simp [la]
    · refine bytes_eqD ?_
      rw [ByteArray.data_extract, Array.toList_extract, hl, List.extract_eq_take_drop, List.drop_zero, Nat.sub_zero]
      exact List.take_left' la
    · unfold partOf
      rw [if_pos (by omega)]
      refine bytes_eqD ?_
      rw [ByteArray.data_extract, Array.toList_extract, hl, List.extract_eq_take_drop, show A.data.toList ++ 46 :: B.data.toList = (A.data.toList ++ [46]) ++ B.data.toList by simp,
        List.drop_left' (l₁ := A.data.toList ++ [46]) (l₂ := B.data.toList) (by rw [List.length_append, la]; rfl), hsz, show F.size + 1 - (F.size - s + 1) = B.data.toList.length by rw [show B.data.toList.length = B.size from rfl, zb]; omega, List.take_length]
    · rw [hsz, decide_eq_decide]
      omega

/-- A sign ahead of a text that starts with no minus. -/
theorem sign_of (p : Bool) {r : ByteArray} (h : fstB r ≠ 45) : negB (⟨(sgT p).toArray⟩ ++ r) = p ∧ restB (⟨(sgT p).toArray⟩ ++ r) = r := by
  cases p with
  | false =>
    have e : (⟨(sgT false).toArray⟩ : ByteArray) ++ r = r := ByteArray.empty_append
    rw [e]
    have hn : negB r = false := by unfold negB; exact decide_eq_false h
    refine ⟨hn, ?_⟩
    unfold restB
    rw [hn, if_neg (by simp)]
  | true =>
    have e : (⟨(sgT true).toArray⟩ : ByteArray) ++ r = ⟨(45 :: r.data.toList).toArray⟩ := bytes_eqD (by rw [ByteArray.data_append, Array.toList_append]; rfl)
    have hn : negB (⟨(sgT true).toArray⟩ ++ r) = true := by rw [e]; unfold negB; rw [first_byte]; rfl
    refine ⟨hn, ?_⟩
    have hc := rest_cons hn
    rw [e] at hc
    rw [e]
    exact (bytes_eqD (List.cons.inj hc).2).symm

theorem dput_get {p : Bool} {l : List Int} {s : Nat} (h : decB p l s = true) :
    ∃ d, DotAt (restB (decT p l s)) d ∧ dgetR (negB (decT p l s)) ((restB (decT p l s)).extract 0 d) (partOf (restB (decT p l s)) d) (decide (d < (restB (decT p l s)).size)) = (p, l, (s : Int), true) := by
  obtain ⟨hok, ht, hs0, hs⟩ := decB_iff.1 h
  obtain ⟨hF1, hF2⟩ := figT_size (l := l) (s := s) ht (by omega)
  obtain ⟨el, -⟩ := ok_limbs (okB_true hok)
  have e0 : txtL l = Lib.decDigits (val l).toNat := by rw [el, txt_dec, ← el]
  have eF : figT l s = ⟨(List.replicate (s + 1 - (Lib.decDigits (val l).toNat).length) 48 ++ Lib.decDigits (val l).toNat).toArray⟩ := by unfold figT; rw [e0]
  generalize hn : (val l).toNat = n at *
  obtain ⟨hf, hnum⟩ := fig_pad (s + 1 - (Lib.decDigits n).length) n
  have hlen : (figT l s).size = (s + 1 - (Lib.decDigits n).length) + (Lib.decDigits n).length := by rw [eF, bytes_size, List.length_append, List.length_replicate]
  have hfst : s + 1 < (figT l s).size → fstB (figT l s) ≠ 48 := by
    intro k
    have k0 : s + 1 - (Lib.decDigits n).length = 0 := by omega
    have hpos : 0 < n := by
      rcases Nat.eq_zero_or_pos n with z | z
      · rw [z, dd1 (by omega)] at hlen
        simp at hlen
        omega
      · exact z
    have hh := dec_head hpos
    rw [eF, k0, List.replicate_zero, List.nil_append]
    cases hc : Lib.decDigits n with
    | nil => rw [hc] at hlen; simp at hlen; omega
    | cons x r =>
      rw [hc] at hh
      rw [first_byte]
      exact fun e => hh (by simp; exact UInt8.toNat_inj.1 (by rw [e]; rfl))
  rw [← eF] at hf hnum
  obtain ⟨d, hD, hwh, hpt, hfd, hd, hsz, -⟩ := dot_of hf hF1
  have hfst2 : fstB (dotT (figT l s) s) = fstB (figT l s) ∧ fstB ((figT l s).extract 0 ((figT l s).size - s)) = fstB (figT l s) := by
    have hx : fstB ((figT l s).extract 0 ((figT l s).size - s)) = fstB (figT l s) := by
      unfold fstB
      rw [dif_pos (by simp; omega), dif_pos (by omega)]
      simp [ByteArray.getElem_eq_getElem_data, ByteArray.data_extract]
    refine ⟨?_, hx⟩
    rw [← hx, ← hwh]
    unfold fstB
    rw [dif_pos (by rw [hsz]; omega), dif_pos (by simp; rw [hsz]; omega)]
    simp [ByteArray.getElem_eq_getElem_data, ByteArray.data_extract]
  have h45 : fstB (dotT (figT l s) s) ≠ 45 := by
    rw [hfst2.1]
    have := figB_at hf 0 (by omega)
    unfold fstB
    rw [dif_pos (by omega)]
    omega
  obtain ⟨hneg, hrest⟩ := sign_of p h45
  refine ⟨d, ?_⟩
  unfold decT
  rw [hneg, hrest, hwh, hpt, hfd]
  refine ⟨hD, ?_⟩
  have hglue : (figT l s).extract 0 ((figT l s).size - s) ++ (figT l s).extract ((figT l s).size - s) (figT l s).size = figT l s := glue_parts (by omega)
  have zpt : ((figT l s).extract ((figT l s).size - s) (figT l s).size).size = s := by simp; omega
  have zwh : ((figT l s).extract 0 ((figT l s).size - s)).size = (figT l s).size - s := by simp
  have eL : L (num (dg ((figT l s).extract 0 ((figT l s).size - s) ++ (figT l s).extract ((figT l s).size - s) (figT l s).size))) = l := by rw [hglue, hnum, ← el]
  have hplain : plainB ((figT l s).extract 0 ((figT l s).size - s)) = true := by
    have hfw := fig_part hf 0 ((figT l s).size - s)
    rcases Nat.lt_or_ge (s + 1) (figT l s).size with k | k
    · refine plain_lead hfw (by omega) ?_
      have := hfst k
      rw [← hfst2.2] at this
      unfold fstB at this
      rw [dif_pos (by omega)] at this
      exact this
    · exact plain_one hfw (by omega)
  have hgo : dgetOk p ((figT l s).extract 0 ((figT l s).size - s)) ((figT l s).extract ((figT l s).size - s) (figT l s).size) (decide (s ≠ 0)) = true := by
    unfold dgetOk
    rw [eL, zpt, zwh, hplain, h, fig_part hf _ _]
    simp
    omega
  rw [dget_yes hgo, eL, zpt]

/-- Where the dots of a decimal's text stand. -/
theorem dput_dots {p : Bool} {l : List Int} {s : Nat} (h : decB p l s = true) :
    ∃ D, D ≤ (decT p l s).size ∧ (∀ j (h : j < (decT p l s).size), j ≠ D → (decT p l s)[j].toNat ≠ 46) ∧ (∀ h : D < (decT p l s).size, (decT p l s)[D].toNat = 46) ∧
      (D < (decT p l s).size → (decT p l s).size - 1 - D = s) ∧ (¬ D < (decT p l s).size → s = 0) ∧ 0 < (decT p l s).size ∧ (decT p l s).size ≤ 40 := by
  obtain ⟨hok, ht, hs0, hs⟩ := decB_iff.1 h
  obtain ⟨hF1, hF2⟩ := figT_size (l := l) (s := s) ht (by omega)
  obtain ⟨el, -⟩ := ok_limbs (okB_true hok)
  have hf : figB (figT l s) = true := by
    unfold figT
    rw [el, txt_dec]
    exact (fig_pad _ _).1
  obtain ⟨d, ⟨hD1, hD2, hD3⟩, hwh, hpt, hfd, hd, hsz, hall⟩ := dot_of hf hF1
  unfold decT
  generalize dotT (figT l s) s = R at *
  generalize (figT l s).size = N at *
  have hS : (⟨(sgT p).toArray⟩ : ByteArray).size = (sgT p).length ∧ (sgT p).length ≤ 1 ∧ ∀ x ∈ sgT p, x.toNat ≠ 46 := by cases p <;> simp [sgT, ByteArray.size]
  have hsum : ((⟨(sgT p).toArray⟩ : ByteArray) ++ R).size = (sgT p).length + R.size := by rw [ByteArray.size_append, hS.1]
  have hl : ((⟨(sgT p).toArray⟩ : ByteArray) ++ R).data.toList = sgT p ++ R.data.toList := by simp [ByteArray.data_append]
  have at_ : ∀ j (h : j < ((⟨(sgT p).toArray⟩ : ByteArray) ++ R).size), ((⟨(sgT p).toArray⟩ : ByteArray) ++ R)[j] = (sgT p ++ R.data.toList)[j]'(by rw [← hl]; exact h) := fun j h => by
    rw [← bytes_at _ j h]
    simp only [hl]
  refine ⟨(sgT p).length + d, by omega, fun j hj hne => ?_, fun hj => ?_, fun hj => ?_, fun hj => ?_, by omega, ?_⟩
  · rw [at_ j hj]
    rcases Nat.lt_or_ge j (sgT p).length with k | k
    · rw [List.getElem_append_left k]
      exact hS.2.2 _ (List.getElem_mem _)
    · rw [List.getElem_append_right k, bytes_at R _ (by omega)]
      exact hall _ (by omega) (by omega)
  · rw [at_ _ hj, List.getElem_append_right (by omega), bytes_at R _ (by omega)]
    simp only [Nat.add_sub_cancel_left]
    exact hD3 (by omega)
  · rw [hsum]
    split at hsz <;> omega
  · split at hsz <;> omega
  · split at hsz <;> omega

end Go.Proofs.YtdklikicngmkbaaGreatDoor
