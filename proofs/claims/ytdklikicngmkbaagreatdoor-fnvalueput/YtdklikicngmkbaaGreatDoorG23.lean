/- Figures of a number: plain mathematics. Figures of a number, read back: plain mathematics. A decimal that was read is written just so: plain mathematics. -/
import Derived.Test.YtdklikicngmkbaaGreatDoorG15
import Derived.Test.YtdklikicngmkbaaGreatDoorG20
import Derived.Test.YtdklikicngmkbaaGreatDoorG21
import Derived.Test.YtdklikicngmkbaaGreatDoorG06
import Derived.Test.YtdklikicngmkbaaGreatDoorG19
import Derived.Test.YtdklikicngmkbaaGreatDoorG22
import Derived.Test.YtdklikicngmkbaaGreatDoorDcP0
namespace Go.Proofs.YtdklikicngmkbaaGreatDoor

theorem fold_pos (l : List Nat) : ∀ a : Nat, 0 < a → 0 < l.foldl (fun a d => a * 10 + d) a := by
  induction l with
  | nil => intro a h; exact h
  | cons x r ih =>
    intro a h
    rw [List.foldl_cons]
    exact ih (a * 10 + x) (by omega)

theorem num_pos {ds : List Nat} {d : Nat} (h : d ≠ 0) : 0 < num (d :: ds) := by
  unfold num
  rw [List.foldl_cons]
  exact fold_pos ds (0 * 10 + d) (by omega)

theorem dec_num_take (ds : List Nat) (h : ∀ d ∈ ds, d < 10) (h1 : ds.length = 1 ∨ ds.head? ≠ some 0) (k : Nat) : k < ds.length → Lib.decDigits (num (ds.take (k + 1))) = (ds.take (k + 1)).map (fun d => UInt8.ofNat (48 + d)) := by
  induction k with
  | zero =>
    intro hk
    have hd := h ds[0] (List.getElem_mem _)
    rw [num_take_succ hk, List.take_zero, num_nil, Nat.zero_mul, Nat.zero_add, dd1 hd, List.take_succ_eq_append_getElem hk]
    simp
  | succ k ih =>
    intro hk
    have hd := h ds[k + 1] (List.getElem_mem _)
    have hp : 0 < num (ds.take (k + 1)) := by
      cases ds with
      | nil => simp at hk
      | cons x r =>
        rw [List.take_succ_cons]
        refine num_pos ?_
        rcases h1 with h1 | h1
        · simp at h1
          simp [h1] at hk
        · intro e
          apply h1
          simp [e]
    rw [num_take_succ hk, dec_step _ (by omega), show (num (ds.take (k + 1)) * 10 + ds[k + 1]) / 10 = num (ds.take (k + 1)) by omega, show (num (ds.take (k + 1)) * 10 + ds[k + 1]) % 10 = ds[k + 1] by omega, ih (by omega), List.take_succ_eq_append_getElem hk, List.map_append]
    rfl

/-- Figures without noughts ahead are those of their number. -/
theorem dec_num {ds : List Nat} (h : ∀ d ∈ ds, d < 10) (h0 : 0 < ds.length) (h1 : ds.length = 1 ∨ ds.head? ≠ some 0) : Lib.decDigits (num ds) = ds.map (fun d => UInt8.ofNat (48 + d)) := by
  have := dec_num_take ds h h1 (ds.length - 1) (by omega)
  rw [show ds.length - 1 + 1 = ds.length by omega, List.take_length] at this
  exact this

/-- Plain figures are written just so. -/
theorem plain_dec {s : ByteArray} (h : plainB s = true) : Lib.decDigits (num (dg s)) = s.data.toList := by
  have hf := fig_dg (plain_fig h)
  have hp := plain_pos h
  rw [dec_num hf.2 (by rw [dg_len]; exact hp) ?_, ← hf.1]
  rw [dg_len]
  by_cases k : s.size = 1
  · exact .inl k
  · refine .inr (fun e => ?_)
    have h48 : s[0].toNat ≠ 48 := by
      intro e
      rw [plain_zero (by omega) e] at h
      cases h
    have hfig := figB_at (plain_fig h) 0 hp
    unfold dg at e
    have hb := bytes_at s 0 hp
    cases hc : s.data.toList with
    | nil =>
      have : s.data.toList.length = s.size := by simp
      rw [hc] at this
      simp at this
      omega
    | cons x r =>
      rw [hc] at e
      simp only [hc, List.getElem_cons_zero] at hb
      simp only [List.map_cons, List.head?_cons, Option.some.injEq] at e
      rw [hb] at e
      omega

theorem rest_cons {s : ByteArray} (h : negB s = true) : s.data.toList = 45 :: (restB s).data.toList := by
  unfold negB at h
  have h1 := of_decide_eq_true h
  have hp : 0 < s.size := by
    rcases Nat.eq_zero_or_pos s.size with k | k
    · unfold fstB at h1
      rw [dif_neg (by omega)] at h1
      cases h1
    · exact k
  unfold fstB at h1
  rw [dif_pos hp] at h1
  unfold restB
  rw [show negB s = true from h, if_pos rfl, ByteArray.data_extract, Array.toList_extract]
  have hb := bytes_at s 0 hp
  have hl : s.data.toList.length = s.size := by simp
  cases hc : s.data.toList with
  | nil =>
    rw [hc] at hl
    simp at hl
    omega
  | cons x r =>
    simp only [hc, List.getElem_cons_zero] at hb
    rw [hc] at hl
    have hx : x = 45 := UInt8.toNat_inj.1 (by rw [hb, h1]; rfl)
    rw [hx]
    congr 1
    simp only [List.length_cons] at hl
    rw [List.extract_eq_take_drop]
    simp [← hl]

end Go.Proofs.YtdklikicngmkbaaGreatDoor

namespace Go.Proofs.YtdklikicngmkbaaGreatDoor

theorem dec_figs (n : Nat) : (∀ b ∈ Lib.decDigits n, isFig b = true) ∧ (Lib.decDigits n).map (fun b => b.toNat - 48) ≠ [] ∧ num ((Lib.decDigits n).map (fun b => b.toNat - 48)) = n := by
  induction n using Nat.strongRecOn with
  | ind n ih =>
    have fig1 : ∀ d : Nat, d < 10 → isFig (UInt8.ofNat (48 + d)) = true ∧ (UInt8.ofNat (48 + d)).toNat - 48 = d := by
      intro d hd
      have e : (UInt8.ofNat (48 + d)).toNat = 48 + d := by rw [UInt8.toNat_ofNat']; omega
      refine ⟨?_, by omega⟩
      unfold isFig
      rw [e]
      simp
      omega
    by_cases h : n < 10
    · rw [dd1 h]
      obtain ⟨f1, f2⟩ := fig1 n h
      refine ⟨by simpa using f1, by simp, ?_⟩
      simp only [List.map_cons, List.map_nil, f2]
      simp [num]
    · obtain ⟨i1, i2, i3⟩ := ih (n / 10) (by omega)
      obtain ⟨f1, f2⟩ := fig1 (n % 10) (by omega)
      rw [dec_step n (by omega)]
      refine ⟨?_, by simp, ?_⟩
      · intro b hb
        rcases List.mem_append.1 hb with hb | hb
        · exact i1 b hb
        · rw [List.mem_singleton.1 hb]
          exact f1
      · rw [List.map_append, List.map_cons, List.map_nil, num_snoc, i3, f2]
        omega

theorem dec_head {n : Nat} (h : 0 < n) : (Lib.decDigits n).head? ≠ some 48 := by
  induction n using Nat.strongRecOn with
  | ind n ih =>
    by_cases h1 : n < 10
    · rw [dd1 h1]
      intro e
      simp at e
      have := congrArg UInt8.toNat e
      rw [UInt8.toNat_ofNat'] at this
      simp at this
      omega
    · rw [dec_step n (by omega), List.head?_append]
      have hi := ih (n / 10) (by omega) (by omega)
      have hne : Lib.decDigits (n / 10) ≠ [] := fun e => (dec_figs (n / 10)).2.1 (by rw [e]; rfl)
      cases hc : Lib.decDigits (n / 10) with
      | nil => exact absurd hc hne
      | cons x r =>
        rw [hc] at hi
        simpa using hi

theorem first_byte {x : UInt8} {r : List UInt8} : fstB ⟨(x :: r).toArray⟩ = x.toNat := by
  unfold fstB
  rw [dif_pos (by simp [ByteArray.size])]
  rfl

end Go.Proofs.YtdklikicngmkbaaGreatDoor

namespace Go.Proofs.YtdklikicngmkbaaGreatDoor
open Go.RowKit

theorem snoc_ind {P : List Nat → Prop} (h0 : P []) (h1 : ∀ D x, P D → P (D ++ [x])) : ∀ D, P D := by
  intro D
  rw [← List.reverse_reverse D]
  induction D.reverse with
  | nil => exact h0
  | cons x l ih => rw [List.reverse_cons]; exact h1 _ _ ih

/-- The figures of a list of figures' number, noughts ahead, are the list. -/
theorem num_zero : ∀ (D : List Nat), num D = 0 → ∀ d ∈ D, d = 0 := by
  intro D
  refine snoc_ind (P := fun D => num D = 0 → ∀ d ∈ D, d = 0) ?_ ?_ D
  · intro _ d hd; cases hd
  · intro D x ih h d hd
    rw [num_snoc] at h
    rcases List.mem_append.1 hd with hd | hd
    · exact ih (by omega) d hd
    · simp at hd
      omega

theorem pad_num : ∀ (D : List Nat), (∀ d ∈ D, d < 10) → 0 < D.length → List.replicate (D.length - (Lib.decDigits (num D)).length) 48 ++ Lib.decDigits (num D) = D.map (fun d => UInt8.ofNat (48 + d)) ∧ (Lib.decDigits (num D)).length ≤ D.length := by
  intro D
  refine snoc_ind (P := fun D => (∀ d ∈ D, d < 10) → 0 < D.length → List.replicate (D.length - (Lib.decDigits (num D)).length) 48 ++ Lib.decDigits (num D) = D.map (fun d => UInt8.ofNat (48 + d)) ∧ (Lib.decDigits (num D)).length ≤ D.length) ?_ ?_ D
  · intro _ h; simp at h
  · intro D x ih h _
    have hx : x < 10 := h x (by simp)
    have hD : ∀ d ∈ D, d < 10 := fun d hd => h d (by simp [hd])
    rw [num_snoc, List.map_append, List.length_append]
    by_cases h0 : num D = 0
    · rw [h0, Nat.zero_mul, Nat.zero_add, dd1 hx]
      have hz := num_zero D h0
      refine ⟨?_, by simp⟩
      have e : D.map (fun d => UInt8.ofNat (48 + d)) = List.replicate D.length 48 := by
        rw [List.eq_replicate_iff]
        refine ⟨by simp, fun b hb => ?_⟩
        obtain ⟨d, hd, rfl⟩ := List.mem_map.1 hb
        rw [hz d hd]
        rfl
      rw [e]
      simp
    · have hl : 0 < D.length := by
        rcases Nat.eq_zero_or_pos D.length with k | k
        · rw [List.length_eq_zero_iff.1 k] at h0; exact absurd rfl h0
        · exact k
      obtain ⟨i1, i2⟩ := ih hD hl
      rw [dec_step (num D * 10 + x) (by omega), show (num D * 10 + x) / 10 = num D by omega, show (num D * 10 + x) % 10 = x by omega, List.length_append]
      refine ⟨?_, by simp; omega⟩
      rw [← i1, show D.length + [x].length - ((Lib.decDigits (num D)).length + [UInt8.ofNat (48 + x)].length) = D.length - (Lib.decDigits (num D)).length by simp]
      simp

theorem dg_map {s : ByteArray} (h : figB s = true) : (dg s).map (fun d => UInt8.ofNat (48 + d)) = s.data.toList := by
  unfold dg
  rw [List.map_map]
  conv => rhs; rw [← List.map_id s.data.toList]
  refine List.map_congr_left fun b hb => ?_
  have := List.all_eq_true.1 h b hb
  unfold isFig at this
  rw [Bool.and_eq_true] at this
  have h1 := of_decide_eq_true this.1
  show UInt8.ofNat (48 + (b.toNat - 48)) = b
  rw [show 48 + (b.toNat - 48) = b.toNat by omega]
  exact UInt8.ofNat_toNat

theorem fig_lt {s : ByteArray} (h : figB s = true) : ∀ d ∈ dg s, d < 10 := by
  intro d hd
  unfold dg at hd
  obtain ⟨b, hb, rfl⟩ := List.mem_map.1 hd
  have := List.all_eq_true.1 h b hb
  unfold isFig at this
  rw [Bool.and_eq_true] at this
  have := of_decide_eq_true this.2
  omega

theorem cons_tail {l : List UInt8} (h : 0 < l.length) : l = l[0] :: l.tail := by
  cases l with
  | nil => simp at h
  | cons a t => rfl

theorem bytes_eqD {x y : ByteArray} (h : x.data.toList = y.data.toList) : x = y := by
  cases x; cases y
  simp only at h
  rw [Array.toList_inj.1 h]

theorem bytes_of {s : ByteArray} {l : List UInt8} (h : s.data.toList = l) : s = ⟨l.toArray⟩ := by
  cases s with
  | mk d => subst h; simp

/-- The text of a decimal's figures, noughts ahead. -/
theorem figT_of {wh pt : ByteArray} (hw : plainB wh = true) (hp : figB pt = true) : figT (L (num (dg (wh ++ pt)))) pt.size = wh ++ pt := by
  have hf : figB (wh ++ pt) = true := figB_app (plain_fig hw) hp
  have hlen : (dg (wh ++ pt)).length = wh.size + pt.size := by rw [dg_len, ByteArray.size_append]
  have hw1 : 1 ≤ wh.size := by
    unfold plainB at hw
    rw [Bool.and_eq_true, Bool.or_eq_true, Bool.and_eq_true] at hw
    rcases hw.2 with k | k
    · have := of_decide_eq_true k; omega
    · have := of_decide_eq_true k.1; omega
  obtain ⟨e1, e2⟩ := pad_num (dg (wh ++ pt)) (fig_lt hf) (by omega)
  rw [dg_map hf] at e1
  unfold figT
  rw [txt_dec]
  have e3 : List.replicate (pt.size + 1 - (Lib.decDigits (num (dg (wh ++ pt)))).length) 48 ++ Lib.decDigits (num (dg (wh ++ pt))) = (wh ++ pt).data.toList := by
    rw [← e1]
    congr 2
    rw [hlen] at e1 e2 ⊢
    by_cases h1 : wh.size = 1
    · omega
    · have hn : fstB wh ≠ 48 := by
        unfold plainB at hw
        rw [Bool.and_eq_true, Bool.or_eq_true, Bool.and_eq_true] at hw
        rcases hw.2 with k | k
        · exact absurd (of_decide_eq_true k) h1
        · exact of_decide_eq_true k.2
      have hd : (dg (wh ++ pt)).head? ≠ some 0 := by
        have h0 : 0 < wh.size := by omega
        have e : (wh ++ pt).data.toList = wh.data.toList ++ pt.data.toList := by rw [ByteArray.data_append, Array.toList_append]
        have e2 : wh.data.toList = wh[0] :: wh.data.toList.tail := by
          have hb := bytes_at wh 0 h0
          have hlt : 0 < wh.data.toList.length := by simpa using h0
          rw [← hb]
          exact cons_tail hlt
        unfold dg
        rw [e, e2]
        simp only [List.cons_append, List.map_cons, List.head?_cons, ne_eq, Option.some.injEq]
        unfold fstB at hn
        rw [dif_pos h0] at hn
        have h1 := List.all_eq_true.1 (plain_fig hw) wh[0] (by rw [e2]; simp)
        unfold isFig at h1
        rw [Bool.and_eq_true] at h1
        have := of_decide_eq_true h1.1
        omega
      have := dec_num (fig_lt hf) (by omega) (.inr hd)
      rw [this, List.length_map, hlen]
      omega
  exact (bytes_of e3.symm).symm

theorem rest_of {s : ByteArray} : s = (⟨(sgT (negB s)).toArray⟩ : ByteArray) ++ restB s := by
  cases h : negB s with
  | false =>
    have e : restB s = s := by unfold restB; rw [h, if_neg (by simp)]
    rw [e]
    exact (ByteArray.empty_append).symm
  | true =>
    have := rest_cons h
    refine bytes_eqD ?_
    rw [this, ByteArray.data_append, Array.toList_append]
    rfl

theorem split_dot {r : ByteArray} {d : Nat} (hd : DotAt r d) : r = if d < r.size then r.extract 0 d ++ ⟨#[46]⟩ ++ partOf r d else r.extract 0 d := by
  obtain ⟨h1, h2, h3⟩ := hd
  split
  · rename_i h
    have hb : (⟨#[46]⟩ : ByteArray) = r.extract d (d + 1) := by
      refine bytes_eqD ?_
      have hb := bytes_at r d h
      rw [ByteArray.data_extract, Array.toList_extract]
      have e46 : r[d] = 46 := UInt8.toNat_inj.1 (h3 h)
      rw [List.extract_eq_take_drop, show d + 1 - d = 1 by omega, List.take_one, List.head?_drop, List.getElem?_eq_getElem (by simpa using h), hb, e46]
      rfl
    rw [hb]
    unfold partOf
    rw [if_pos h]
    rw [ByteArray.extract_append_extract, show min 0 d = 0 by omega, show max d (d + 1) = d + 1 by omega, ByteArray.extract_append_extract, show min 0 (d + 1) = 0 by omega, show max (d + 1) r.size = r.size by omega]
    simp
  · rename_i h
    rw [show d = r.size by omega]
    simp

theorem dot_glue (wh pt : ByteArray) : (wh ++ pt).extract 0 wh.size = wh ∧ (wh ++ pt).extract wh.size (wh.size + pt.size) = pt := by
  have hp : pt.data.toList.length ≤ pt.size := Nat.le_refl _
  constructor
  · refine bytes_eqD ?_
    simp only [ByteArray.data_extract, ByteArray.data_append, Array.toList_extract, Array.toList_append, List.extract_eq_take_drop, List.drop_zero, Nat.sub_zero]
    exact List.take_left' rfl
  · refine bytes_eqD ?_
    simp only [ByteArray.data_extract, ByteArray.data_append, Array.toList_extract, Array.toList_append, List.extract_eq_take_drop, Nat.add_sub_cancel_left]
    rw [List.drop_left' (l₁ := wh.data.toList) (l₂ := pt.data.toList) (show wh.data.toList.length = wh.size from rfl)]
    exact List.take_of_length_le hp

set_option maxHeartbeats 1000000 in
theorem dget_put {s : ByteArray} {d : Nat} (hd : DotAt (restB s) d) (h : (dgetR (negB s) ((restB s).extract 0 d) (partOf (restB s) d) (decide (d < (restB s).size))).2.2.2 = true) :
    dputR (dgetR (negB s) ((restB s).extract 0 d) (partOf (restB s) d) (decide (d < (restB s).size))).1 (dgetR (negB s) ((restB s).extract 0 d) (partOf (restB s) d) (decide (d < (restB s).size))).2.1 (dgetR (negB s) ((restB s).extract 0 d) (partOf (restB s) d) (decide (d < (restB s).size))).2.2.1 = s ∧
      decB (dgetR (negB s) ((restB s).extract 0 d) (partOf (restB s) d) (decide (d < (restB s).size))).1 (dgetR (negB s) ((restB s).extract 0 d) (partOf (restB s) d) (decide (d < (restB s).size))).2.1 (dgetR (negB s) ((restB s).extract 0 d) (partOf (restB s) d) (decide (d < (restB s).size))).2.2.1 = true := by
  have hsp := split_dot hd
  have hrs := rest_of (s := s)
  have hpt0 : ¬ d < (restB s).size → (partOf (restB s) d).size = 0 := fun k => by unfold partOf; rw [if_neg k]; rfl
  have hext : d < (restB s).size → ((restB s).extract 0 d ++ ⟨#[46]⟩ ++ partOf (restB s) d) = restB s := fun k => by rw [if_pos k] at hsp; exact hsp.symm
  have hext0 : ¬ d < (restB s).size → (restB s).extract 0 d = restB s := fun k => by rw [if_neg k] at hsp; exact hsp.symm
  clear hsp
  cases hk : dgetOk (negB s) ((restB s).extract 0 d) (partOf (restB s) d) (decide (d < (restB s).size)) with
  | false =>
    rw [dget_no hk] at h
    cases h
  | true =>
    rw [dget_yes hk]
    unfold dgetOk at hk
    simp only [Bool.and_eq_true, Bool.or_eq_true] at hk
    obtain ⟨⟨⟨⟨k1, k2⟩, k3⟩, k4⟩, k5⟩ := hk
    refine ⟨?_, k5⟩
    show dputR (negB s) (L (num (dg ((restB s).extract 0 d ++ partOf (restB s) d)))) ((partOf (restB s) d).size : Int) = s
    unfold dputR
    rw [if_pos k5, Int.toNat_natCast]
    have kf : figB (partOf (restB s) d) = true := by
      by_cases hdot : d < (restB s).size
      · simp [hdot] at k3
        exact k3.1
      · exact figB_nil (hpt0 hdot)
    unfold decT
    rw [figT_of k1 kf]
    refine Eq.trans (congrArg _ ?_) hrs.symm
    unfold dotT
    by_cases hdot : d < (restB s).size
    · have hne : (partOf (restB s) d).size ≠ 0 := by
        intro h0
        simp [hdot] at k3
        exact k3.2 (bytes_eqD (by
          have : (partOf (restB s) d).data.toList.length = 0 := by simpa using h0
          rw [List.length_eq_zero_iff.1 this]
          rfl))
      rw [if_neg hne]
      refine Eq.trans ?_ (hext hdot)
      generalize (restB s).extract 0 d = wh
      generalize partOf (restB s) d = pt
      rw [ByteArray.size_append, Nat.add_sub_cancel, (dot_glue wh pt).1, (dot_glue wh pt).2]
    · have hp0 := hpt0 hdot
      rw [if_pos hp0]
      have e : partOf (restB s) d = ⟨#[]⟩ := by unfold partOf; rw [if_neg hdot]
      rw [e, hext0 hdot]
      exact ByteArray.append_empty

end Go.Proofs.YtdklikicngmkbaaGreatDoor
