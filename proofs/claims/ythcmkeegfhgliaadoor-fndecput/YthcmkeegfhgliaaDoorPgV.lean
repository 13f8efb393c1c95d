/- A decimal that was read is written just so: plain mathematics. -/
import Derived.Test.YthcmkeegfhgliaaDoorPgD
import Derived.Test.YthcmkeegfhgliaaDoorDgB
import Derived.Test.YthcmkeegfhgliaaDoorDcP
namespace Go.Proofs.YthcmkeegfhgliaaDoor
open Go.RowKit

theorem snoc_ind {P : List Nat → Prop} (h0 : P []) (h1 : ∀ D x, P D → P (D ++ [x])) : ∀ D, P D := by
  intro D
  rw [← List.reverse_reverse D]
  induction D.reverse with
  | nil => exact h0
  | cons x l ih => rw [List.reverse_cons]; exact h1 _ _ ih

/-- The figures of a list of figures' number, noughts ahead, are the list. -/
theorem num_zero : ∀ (D : List Nat), num D = 0 → ∀ d ∈ D, d = 0 := by
  intro D
  refine snoc_ind (P := fun D => num D = 0 → ∀ d ∈ D, d = 0) ?_ ?_ D
  · intro _ d hd; cases hd
  · intro D x ih h d hd
    rw [num_snoc] at h
    rcases List.mem_append.1 hd with hd | hd
    · exact ih (by omega) d hd
    · simp at hd
      omega

theorem pad_num : ∀ (D : List Nat), (∀ d ∈ D, d < 10) → 0 < D.length → List.replicate (D.length - (Lib.decDigits (num D)).length) 48 ++ Lib.decDigits (num D) = D.map (fun d => UInt8.ofNat (48 + d)) ∧ (Lib.decDigits (num D)).length ≤ D.length := by
  intro D
  refine snoc_ind (P := fun D => (∀ d ∈ D, d < 10) → 0 < D.length → List.replicate (D.length - (Lib.decDigits (num D)).length) 48 ++ Lib.decDigits (num D) = D.map (fun d => UInt8.ofNat (48 + d)) ∧ (Lib.decDigits (num D)).length ≤ D.length) ?_ ?_ D
  · intro _ h; simp at h
  · intro D x ih h _
    have hx : x < 10 := h x (by simp)
    have hD : ∀ d ∈ D, d < 10 := fun d hd => h d (by simp [hd])
    rw [num_snoc, List.map_append, List.length_append]
    by_cases h0 : num D = 0
    · rw [h0, Nat.zero_mul, Nat.zero_add, dd1 hx]
      have hz := num_zero D h0
      refine ⟨?_, by simp⟩
      have e : D.map (fun d => UInt8.ofNat (48 + d)) = List.replicate D.length 48 := by
        rw [List.eq_replicate_iff]
        refine ⟨by simp, fun b hb => ?_⟩
        obtain ⟨d, hd, rfl⟩ := List.mem_map.1 hb
        rw [hz d hd]
        rfl
      rw [e]
      simp
    · have hl : 0 < D.length := by
        rcases Nat.eq_zero_or_pos D.length with k | k
        · rw [List.length_eq_zero_iff.1 k] at h0; exact absurd rfl h0
        · exact k
      obtain ⟨i1, i2⟩ := ih hD hl
      rw [dec_step (num D * 10 + x) (by omega), show (num D * 10 + x) / 10 = num D by omega, show (num D * 10 + x) % 10 = x by omega, List.length_append]
      refine ⟨?_, by simp; omega⟩
      rw [← i1, show D.length + [x].length - ((Lib.decDigits (num D)).length + [UInt8.ofNat (48 + x)].length) = D.length - (Lib.decDigits (num D)).length by simp]
      simp

theorem dg_map {s : ByteArray} (h : figB s = true) : (dg s).map (fun d => UInt8.ofNat (48 + d)) = s.data.toList := by
  unfold dg
  rw [List.map_map]
  conv => rhs; rw [← List.map_id s.data.toList]
  refine List.map_congr_left fun b hb => ?_
  have := List.all_eq_true.1 h b hb
  unfold isFig at this
  rw [Bool.and_eq_true] at this
  have h1 := of_decide_eq_true this.1
  show UInt8.ofNat (48 + (b.toNat - 48)) = b
  rw [show 48 + (b.toNat - 48) = b.toNat by omega]
  exact UInt8.ofNat_toNat

theorem fig_lt {s : ByteArray} (h : figB s = true) : ∀ d ∈ dg s, d < 10 := by
  intro d hd
  unfold dg at hd
  obtain ⟨b, hb, rfl⟩ := List.mem_map.1 hd
  have := List.all_eq_true.1 h b hb
  unfold isFig at this
  rw [Bool.and_eq_true] at this
  have := of_decide_eq_true this.2
  omega

theorem cons_tail {l : List UInt8} (h : 0 < l.length) : l = l[0] :: l.tail := by
  cases l with
  | nil => simp at h
  | cons a t => rfl

theorem bytes_eqD {x y : ByteArray} (h : x.data.toList = y.data.toList) : x = y := by
  cases x; cases y
  simp only at h
  rw [Array.toList_inj.1 h]

theorem bytes_of {s : ByteArray} {l : List UInt8} (h : s.data.toList = l) : s = ⟨l.toArray⟩ := by
  cases s with
  | mk d => subst h; simp

/-- The text of a decimal's figures, noughts ahead. -/
theorem figT_of {wh pt : ByteArray} (hw : plainB wh = true) (hp : figB pt = true) : figT (L (num (dg (wh ++ pt)))) pt.size = wh ++ pt := by
  have hf : figB (wh ++ pt) = true := figB_app (plain_fig hw) hp
  have hlen : (dg (wh ++ pt)).length = wh.size + pt.size := by rw [dg_len, ByteArray.size_append]
  have hw1 : 1 ≤ wh.size := by
    unfold plainB at hw
    rw [Bool.and_eq_true, Bool.or_eq_true, Bool.and_eq_true] at hw
    rcases hw.2 with k | k
    · have := of_decide_eq_true k; omega
    · have := of_decide_eq_true k.1; omega
  obtain ⟨e1, e2⟩ := pad_num (dg (wh ++ pt)) (fig_lt hf) (by omega)
  rw [dg_map hf] at e1
  unfold figT
  rw [txt_dec]
  have e3 : List.replicate (pt.size + 1 - (Lib.decDigits (num (dg (wh ++ pt)))).length) 48 ++ Lib.decDigits (num (dg (wh ++ pt))) = (wh ++ pt).data.toList := by
    rw [← e1]
    congr 2
    rw [hlen] at e1 e2 ⊢
    by_cases h1 : wh.size = 1
    · omega
    · have hn : fstB wh ≠ 48 := by
        unfold plainB at hw
        rw [Bool.and_eq_true, Bool.or_eq_true, Bool.and_eq_true] at hw
        rcases hw.2 with k | k
        · exact absurd (of_decide_eq_true k) h1
        · exact of_decide_eq_true k.2
      have hd : (dg (wh ++ pt)).head? ≠ some 0 := by
        have h0 : 0 < wh.size := by omega
        have e : (wh ++ pt).data.toList = wh.data.toList ++ pt.data.toList := by rw [ByteArray.data_append, Array.toList_append]
        have e2 : wh.data.toList = wh[0] :: wh.data.toList.tail := by
          have hb := bytes_at wh 0 h0
          have hlt : 0 < wh.data.toList.length := by simpa using h0
          rw [← hb]
          exact cons_tail hlt
        unfold dg
        rw [e, e2]
        simp only [List.cons_append, List.map_cons, List.head?_cons, ne_eq, Option.some.injEq]
        unfold fstB at hn
        rw [dif_pos h0] at hn
        have h1 := List.all_eq_true.1 (plain_fig hw) wh[0] (by rw [e2]; simp)
        unfold isFig at h1
        rw [Bool.and_eq_true] at h1
        have := of_decide_eq_true h1.1
        omega
      have := dec_num (fig_lt hf) (by omega) (.inr hd)
      rw [this, List.length_map, hlen]
      omega
  exact (bytes_of e3.symm).symm

theorem rest_of {s : ByteArray} : s = (⟨(sgT (negB s)).toArray⟩ : ByteArray) ++ restB s := by
  cases h : negB s with
  | false =>
    have e : restB s = s := by unfold restB; rw [h, if_neg (by simp)]
    rw [e]
    exact (ByteArray.empty_append).symm
  | true =>
    have := rest_cons h
    refine bytes_eqD ?_
    rw [this, ByteArray.data_append, Array.toList_append]
    rfl

theorem split_dot {r : ByteArray} {d : Nat} (hd : DotAt r d) : r = if d < r.size then r.extract 0 d ++ ⟨#[46]⟩ ++ partOf r d else r.extract 0 d := by
  obtain ⟨h1, h2, h3⟩ := hd
  split
  · rename_i h
    have hb : (⟨#[46]⟩ : ByteArray) = r.extract d (d + 1) := by
      refine bytes_eqD ?_
      have hb := bytes_at r d h
      rw [ByteArray.data_extract, Array.toList_extract]
      have e46 : r[d] = 46 := UInt8.toNat_inj.1 (h3 h)
      rw [List.extract_eq_take_drop, show d + 1 - d = 1 by omega, List.take_one, List.head?_drop, List.getElem?_eq_getElem (by simpa using h), hb, e46]
      rfl
    rw [hb]
    unfold partOf
    rw [if_pos h]
    rw [ByteArray.extract_append_extract, show min 0 d = 0 by omega, show max d (d + 1) = d + 1 by omega, ByteArray.extract_append_extract, show min 0 (d + 1) = 0 by omega, show max (d + 1) r.size = r.size by omega]
    simp
  · rename_i h
    rw [show d = r.size by omega]
    simp

theorem dot_glue (wh pt : ByteArray) : (wh ++ pt).extract 0 wh.size = wh ∧ (wh ++ pt).extract wh.size (wh.size + pt.size) = pt := by
  have hp : pt.data.toList.length ≤ pt.size := Nat.le_refl _
  constructor
  · refine bytes_eqD ?_
    simp only [ByteArray.data_extract, ByteArray.data_append, Array.toList_extract, Array.toList_append, List.extract_eq_take_drop, List.drop_zero, Nat.sub_zero]
    exact List.take_left' rfl
  · refine bytes_eqD ?_
    simp only [ByteArray.data_extract, ByteArray.data_append, Array.toList_extract, Array.toList_append, List.extract_eq_take_drop, Nat.add_sub_cancel_left]
    rw [List.drop_left' (l₁ := wh.data.toList) (l₂ := pt.data.toList) (show wh.data.toList.length = wh.size from rfl)]
    exact List.take_of_length_le hp

set_option maxHeartbeats 1000000 in
theorem dget_put {s : ByteArray} {d : Nat} (hd : DotAt (restB s) d) (h : (dgetR (negB s) ((restB s).extract 0 d) (partOf (restB s) d) (decide (d < (restB s).size))).2.2.2 = true) :
    dputR (dgetR (negB s) ((restB s).extract 0 d) (partOf (restB s) d) (decide (d < (restB s).size))).1 (dgetR (negB s) ((restB s).extract 0 d) (partOf (restB s) d) (decide (d < (restB s).size))).2.1 (dgetR (negB s) ((restB s).extract 0 d) (partOf (restB s) d) (decide (d < (restB s).size))).2.2.1 = s ∧
      decB (dgetR (negB s) ((restB s).extract 0 d) (partOf (restB s) d) (decide (d < (restB s).size))).1 (dgetR (negB s) ((restB s).extract 0 d) (partOf (restB s) d) (decide (d < (restB s).size))).2.1 (dgetR (negB s) ((restB s).extract 0 d) (partOf (restB s) d) (decide (d < (restB s).size))).2.2.1 = true := by
  have hsp := split_dot hd
  have hrs := rest_of (s := s)
  have hpt0 : ¬ d < (restB s).size → (partOf (restB s) d).size = 0 := fun k => by unfold partOf; rw [if_neg k]; rfl
  have hext : d < (restB s).size → ((restB s).extract 0 d ++ ⟨#[46]⟩ ++ partOf (restB s) d) = restB s := fun k => by rw [if_pos k] at hsp; exact hsp.symm
  have hext0 : ¬ d < (restB s).size → (restB s).extract 0 d = restB s := fun k => by rw [if_neg k] at hsp; exact hsp.symm
  clear hsp
  cases hk : dgetOk (negB s) ((restB s).extract 0 d) (partOf (restB s) d) (decide (d < (restB s).size)) with
  | false =>
    rw [dget_no hk] at h
    cases h
  | true =>
    rw [dget_yes hk]
    unfold dgetOk at hk
    simp only [Bool.and_eq_true, Bool.or_eq_true] at hk
    obtain ⟨⟨⟨⟨k1, k2⟩, k3⟩, k4⟩, k5⟩ := hk
    refine ⟨?_, k5⟩
    show dputR (negB s) (L (num (dg ((restB s).extract 0 d ++ partOf (restB s) d)))) ((partOf (restB s) d).size : Int) = s
    unfold dputR
    rw [if_pos k5, Int.toNat_natCast]
    have kf : figB (partOf (restB s) d) = true := by
      by_cases hdot : d < (restB s).size
      · simp [hdot] at k3
        exact k3.1
      · exact figB_nil (hpt0 hdot)
    unfold decT
    rw [figT_of k1 kf]
    refine Eq.trans (congrArg _ ?_) hrs.symm
    unfold dotT
    by_cases hdot : d < (restB s).size
    · have hne : (partOf (restB s) d).size ≠ 0 := by
        intro h0
        simp [hdot] at k3
        exact k3.2 (bytes_eqD (by
          have : (partOf (restB s) d).data.toList.length = 0 := by simpa using h0
          rw [List.length_eq_zero_iff.1 this]
          rfl))
      rw [if_neg hne]
      refine Eq.trans ?_ (hext hdot)
      generalize (restB s).extract 0 d = wh
      generalize partOf (restB s) d = pt
      rw [ByteArray.size_append, Nat.add_sub_cancel, (dot_glue wh pt).1, (dot_glue wh pt).2]
    · have hp0 := hpt0 hdot
      rw [if_pos hp0]
      have e : partOf (restB s) d = ⟨#[]⟩ := by unfold partOf; rw [if_neg hdot]
      rw [e, hext0 hdot]
      exact ByteArray.append_empty

end Go.Proofs.YthcmkeegfhgliaaDoor
