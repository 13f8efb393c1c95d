/- Figures of a number: plain mathematics. -/
import Derived.Test.YtomcgnkmlmiijaaDoorGj
import Derived.Test.YtomcgnkmlmiijaaDoorTxM
import Derived.Test.YtomcgnkmlmiijaaDoorGi
namespace Go.Proofs.YtomcgnkmlmiijaaDoor


theorem dec_step (n : Nat) (h : 10 ≤ n) : Lib.decDigits n = Lib.decDigits (n / 10) ++ [UInt8.ofNat (48 + n % 10)] := by
  rw [Lib.decDigits, dif_neg (by omega)]

theorem dec_limb {n : Nat} (h : 10000 ≤ n) : Lib.decDigits n = Lib.decDigits (n / 10000) ++ limbT ((n % 10000 : Nat) : Int) := by
  rw [dec_step n (by omega), dec_step (n / 10) (by omega), dec_step (n / 10 / 10) (by omega), dec_step (n / 10 / 10 / 10) (by omega), limbT_eq (by omega) (by omega)]
  rw [show n / 10 / 10 / 10 / 10 = n / 10000 by omega, show n / 10 / 10 / 10 % 10 = ((n % 10000 : Nat) : Int).toNat / 1000 % 10 by omega, show n / 10 / 10 % 10 = ((n % 10000 : Nat) : Int).toNat / 100 % 10 by omega, show n / 10 % 10 = ((n % 10000 : Nat) : Int).toNat / 10 % 10 by omega, show n % 10 = ((n % 10000 : Nat) : Int).toNat % 10 by omega]
  simp

theorem txt_cons {x : Int} {l : List Int} (h : l ≠ []) : txtL (x :: l) = txtL l ++ limbT x := by
  have hl : 0 < l.length := List.length_pos_iff.2 h
  unfold txtL
  rw [if_neg (by simp), if_neg h, txtAt_step (by simp; omega)]
  congr 1
  unfold txtAt
  have e : (x :: l).getD ((x :: l).length - 1) 0 = l.getD (l.length - 1) 0 := by
    obtain ⟨k, hk⟩ : ∃ k, l.length = k + 1 := ⟨l.length - 1, by omega⟩
    simp [hk]
  rw [e]
  simp

/-- The text of limbs is that of the number. -/
theorem txt_dec (n : Nat) : txtL (L n) = Lib.decDigits n := by
  induction n using Nat.strongRecOn with
  | ind n ih =>
    by_cases h0 : n = 0
    · subst h0
      rw [L_zero, dd1 (by omega)]
      rfl
    · by_cases h1 : n < 10000
      · rw [L_pos (Nat.pos_of_ne_zero h0), show n / 10000 = 0 by omega, L_zero, show n % 10000 = n by omega]
        unfold txtL txtAt
        simp
      · have hne : L (n / 10000) ≠ [] := fun e => by have := L_nil.1 e; omega
        rw [L_pos (Nat.pos_of_ne_zero h0), txt_cons hne, ih (n / 10000) (by omega), ← dec_limb (n := n) (by omega)]

theorem fold_pos (l : List Nat) : ∀ a : Nat, 0 < a → 0 < l.foldl (fun a d => a * 10 + d) a := by
  induction l with
  | nil => intro a h; exact h
  | cons x r ih =>
    intro a h
    rw [List.foldl_cons]
    exact ih (a * 10 + x) (by omega)

theorem num_pos {ds : List Nat} {d : Nat} (h : d ≠ 0) : 0 < num (d :: ds) := by
  unfold num
  rw [List.foldl_cons]
  exact fold_pos ds (0 * 10 + d) (by omega)

theorem dec_num_take (ds : List Nat) (h : ∀ d ∈ ds, d < 10) (h1 : ds.length = 1 ∨ ds.head? ≠ some 0) (k : Nat) : k < ds.length → Lib.decDigits (num (ds.take (k + 1))) = (ds.take (k + 1)).map (fun d => UInt8.ofNat (48 + d)) := by
  induction k with
  | zero =>
    intro hk
    have hd := h ds[0] (List.getElem_mem _)
    rw [num_take_succ hk, List.take_zero, num_nil, Nat.zero_mul, Nat.zero_add, dd1 hd, List.take_succ_eq_append_getElem hk]
    simp
  | succ k ih =>
    intro hk
    have hd := h ds[k + 1] (List.getElem_mem _)
    have hp : 0 < num (ds.take (k + 1)) := by
      cases ds with
      | nil => simp at hk
      | cons x r =>
        rw [List.take_succ_cons]
        refine num_pos ?_
        rcases h1 with h1 | h1
        · simp at h1
          simp [h1] at hk
        · intro e
          apply h1
          simp [e]
    rw [num_take_succ hk, dec_step _ (by omega), show (num (ds.take (k + 1)) * 10 + ds[k + 1]) / 10 = num (ds.take (k + 1)) by omega, show (num (ds.take (k + 1)) * 10 + ds[k + 1]) % 10 = ds[k + 1] by omega, ih (by omega), List.take_succ_eq_append_getElem hk, List.map_append]
    rfl

/-- Figures without noughts ahead are those of their number. -/
theorem dec_num {ds : List Nat} (h : ∀ d ∈ ds, d < 10) (h0 : 0 < ds.length) (h1 : ds.length = 1 ∨ ds.head? ≠ some 0) : Lib.decDigits (num ds) = ds.map (fun d => UInt8.ofNat (48 + d)) := by
  have := dec_num_take ds h h1 (ds.length - 1) (by omega)
  rw [show ds.length - 1 + 1 = ds.length by omega, List.take_length] at this
  exact this

/-- Plain figures are written just so. -/
theorem plain_dec {s : ByteArray} (h : plainB s = true) : Lib.decDigits (num (dg s)) = s.data.toList := by
  have hf := fig_dg (plain_fig h)
  have hp := plain_pos h
  rw [dec_num hf.2 (by rw [dg_len]; exact hp) ?_, ← hf.1]
  rw [dg_len]
  by_cases k : s.size = 1
  · exact .inl k
  · refine .inr (fun e => ?_)
    have h48 : s[0].toNat ≠ 48 := by
      intro e
      rw [plain_zero (by omega) e] at h
      cases h
    have hfig := figB_at (plain_fig h) 0 hp
    unfold dg at e
    have hb := bytes_at s 0 hp
    cases hc : s.data.toList with
    | nil =>
      have : s.data.toList.length = s.size := by simp
      rw [hc] at this
      simp at this
      omega
    | cons x r =>
      rw [hc] at e
      simp only [hc, List.getElem_cons_zero] at hb
      simp only [List.map_cons, List.head?_cons, Option.some.injEq] at e
      rw [hb] at e
      omega

theorem rest_cons {s : ByteArray} (h : negB s = true) : s.data.toList = 45 :: (restB s).data.toList := by
  unfold negB at h
  have h1 := of_decide_eq_true h
  have hp : 0 < s.size := by
    rcases Nat.eq_zero_or_pos s.size with k | k
    · unfold fstB at h1
      rw [dif_neg (by omega)] at h1
      cases h1
    · exact k
  unfold fstB at h1
  rw [dif_pos hp] at h1
  unfold restB
  rw [show negB s = true from h, if_pos rfl, ByteArray.data_extract, Array.toList_extract]
  have hb := bytes_at s 0 hp
  have hl : s.data.toList.length = s.size := by simp
  cases hc : s.data.toList with
  | nil =>
    rw [hc] at hl
    simp at hl
    omega
  | cons x r =>
    simp only [hc, List.getElem_cons_zero] at hb
    rw [hc] at hl
    have hx : x = 45 := UInt8.toNat_inj.1 (by rw [hb, h1]; rfl)
    rw [hx]
    congr 1
    simp only [List.length_cons] at hl
    rw [List.extract_eq_take_drop]
    simp [← hl]

end Go.Proofs.YtomcgnkmlmiijaaDoor
