/- A number is read back as it was written; how many figures numbers have: plain mathematics. -/
import Derived.Test.YtomcgnkmlmiijaaDoorPgM
namespace Go.Proofs.YtomcgnkmlmiijaaDoor

theorem dec_figs (n : Nat) : (∀ b ∈ Lib.decDigits n, isFig b = true) ∧ (Lib.decDigits n).map (fun b => b.toNat - 48) ≠ [] ∧ num ((Lib.decDigits n).map (fun b => b.toNat - 48)) = n := by
  induction n using Nat.strongRecOn with
  | ind n ih =>
    have fig1 : ∀ d : Nat, d < 10 → isFig (UInt8.ofNat (48 + d)) = true ∧ (UInt8.ofNat (48 + d)).toNat - 48 = d := by
      intro d hd
      have e : (UInt8.ofNat (48 + d)).toNat = 48 + d := by rw [UInt8.toNat_ofNat']; omega
      refine ⟨?_, by omega⟩
      unfold isFig
      rw [e]
      simp
      omega
    by_cases h : n < 10
    · rw [dd1 h]
      obtain ⟨f1, f2⟩ := fig1 n h
      refine ⟨by simpa using f1, by simp, ?_⟩
      simp only [List.map_cons, List.map_nil, f2]
      simp [num]
    · obtain ⟨i1, i2, i3⟩ := ih (n / 10) (by omega)
      obtain ⟨f1, f2⟩ := fig1 (n % 10) (by omega)
      rw [dec_step n (by omega)]
      refine ⟨?_, by simp, ?_⟩
      · intro b hb
        rcases List.mem_append.1 hb with hb | hb
        · exact i1 b hb
        · rw [List.mem_singleton.1 hb]
          exact f1
      · rw [List.map_append, List.map_cons, List.map_nil, num_snoc, i3, f2]
        omega

theorem dec_head {n : Nat} (h : 0 < n) : (Lib.decDigits n).head? ≠ some 48 := by
  induction n using Nat.strongRecOn with
  | ind n ih =>
    by_cases h1 : n < 10
    · rw [dd1 h1]
      intro e
      simp at e
      have := congrArg UInt8.toNat e
      rw [UInt8.toNat_ofNat'] at this
      simp at this
      omega
    · rw [dec_step n (by omega), List.head?_append]
      have hi := ih (n / 10) (by omega) (by omega)
      have hne : Lib.decDigits (n / 10) ≠ [] := fun e => (dec_figs (n / 10)).2.1 (by rw [e]; rfl)
      cases hc : Lib.decDigits (n / 10) with
      | nil => exact absurd hc hne
      | cons x r =>
        rw [hc] at hi
        simpa using hi

theorem dec_len (n k : Nat) (hk : 0 < k) : n < 10 ^ k ↔ (Lib.decDigits n).length ≤ k := by
  induction k generalizing n with
  | zero => omega
  | succ k ih =>
    by_cases h : n < 10
    · rw [dd1 h]
      simp
      have : 10 ^ 1 ≤ 10 ^ (k + 1) := Nat.pow_le_pow_right (by decide) (by omega)
      omega
    · rw [dec_step n (by omega), List.length_append, List.length_singleton]
      by_cases k0 : k = 0
      · subst k0
        have := (dec_figs (n / 10)).2.1
        have hp : 0 < (Lib.decDigits (n / 10)).length := by
          rcases Nat.eq_zero_or_pos (Lib.decDigits (n / 10)).length with e | e
          · exact absurd (by rw [List.length_eq_zero_iff.1 e]; rfl) this
          · exact e
        rw [show (10 : Nat) ^ (0 + 1) = 10 from rfl]
        omega
      · have := ih (n / 10) (by omega)
        rw [Nat.pow_succ]
        omega

theorem dec_mono {a b : Nat} (h : a ≤ b) : (Lib.decDigits a).length ≤ (Lib.decDigits b).length := by
  have hp : 0 < (Lib.decDigits b).length := by
    rcases Nat.eq_zero_or_pos (Lib.decDigits b).length with e | e
    · exact absurd (by rw [List.length_eq_zero_iff.1 e]; rfl) (dec_figs b).2.1
    · exact e
  have := (dec_len b (Lib.decDigits b).length hp).2 (Nat.le_refl _)
  exact (dec_len a _ hp).1 (by omega)

theorem first_byte {x : UInt8} {r : List UInt8} : fstB ⟨(x :: r).toArray⟩ = x.toNat := by
  unfold fstB
  rw [dif_pos (by simp [ByteArray.size])]
  rfl

theorem plain_of {n : Nat} : plainB ⟨(Lib.decDigits n).toArray⟩ = true := by
  obtain ⟨i1, i2, i3⟩ := dec_figs n
  unfold plainB
  have hf : figB ⟨(Lib.decDigits n).toArray⟩ = true := by
    unfold figB
    rw [List.all_eq_true]
    exact i1
  rw [hf, Bool.true_and]
  by_cases h : n < 10
  · rw [dd1 h]
    rfl
  · have hl : ¬ (Lib.decDigits n).length ≤ 1 := fun k => by
      have := (dec_len n 1 (by decide)).2 k
      omega
    have hs : (⟨(Lib.decDigits n).toArray⟩ : ByteArray).size = (Lib.decDigits n).length := by simp [ByteArray.size]
    have hh := dec_head (n := n) (by omega)
    rw [hs]
    cases hc : Lib.decDigits n with
    | nil => rw [hc] at hl; simp at hl
    | cons x r =>
      rw [hc] at hl hh
      rw [first_byte]
      have hx : x.toNat ≠ 48 := fun e => hh (by simp; exact UInt8.toNat_inj.1 (by rw [e]; rfl))
      have e1 : decide (1 < (x :: r).length) = true := decide_eq_true (by omega)
      have e2 : decide (x.toNat ≠ 48) = true := decide_eq_true hx
      rw [e1, e2]
      simp

/-- A number is read back as it was written. -/
theorem get_put {p : Bool} {l : List Int} (h : okB p l = true) : getR (bigT p l) = (p, l, true) := by
  obtain ⟨el, hb⟩ := ok_limbs h
  have hs := ok_sign h
  unfold zv at hs
  generalize (val l).toNat = n at *
  have e0 : txtL l = Lib.decDigits n := by rw [el, txt_dec]
  have hT : bigT p l = ⟨(sgT p ++ Lib.decDigits n).toArray⟩ := by unfold bigT; rw [e0]
  rw [hT]
  obtain ⟨i1, i2, i3⟩ := dec_figs n
  have hne : ∃ x r, Lib.decDigits n = x :: r := by
    cases hc : Lib.decDigits n with
    | nil => exact absurd (by rw [hc]; rfl) i2
    | cons x r => exact ⟨x, r, rfl⟩
  obtain ⟨x, r, hx⟩ := hne
  have hxf : isFig x = true := i1 x (by rw [hx]; simp)
  have hn : negB ⟨(sgT p ++ Lib.decDigits n).toArray⟩ = p := by
    unfold negB
    cases p
    · have : sgT false ++ Lib.decDigits n = x :: r := by rw [hx]; rfl
      rw [this, first_byte, decide_eq_false_iff_not]
      unfold isFig at hxf
      simp at hxf
      omega
    · have : sgT true ++ Lib.decDigits n = 45 :: Lib.decDigits n := rfl
      rw [this, first_byte]
      rfl
  have hr : restB ⟨(sgT p ++ Lib.decDigits n).toArray⟩ = ⟨(Lib.decDigits n).toArray⟩ := by
    cases p
    · unfold restB
      rw [hn, if_neg (by simp)]
      rfl
    · have := rest_cons hn
      apply WideShapes.bytes_inj
      have e2 : (⟨(sgT true ++ Lib.decDigits n).toArray⟩ : ByteArray).data.toList = 45 :: Lib.decDigits n := rfl
      rw [e2] at this
      exact (List.cons.inj this).2.symm
  have hsz : (⟨(Lib.decDigits n).toArray⟩ : ByteArray).size = (Lib.decDigits n).length := by simp [ByteArray.size]
  have h64 : (Lib.decDigits n).length ≤ 64 := (dec_len n 64 (by decide)).1 (by
    have e : (10000 : Nat) ^ 16 = 10 ^ 64 := by decide
    rw [← e]
    exact hb)
  have hz : (p && ((⟨(Lib.decDigits n).toArray⟩ : ByteArray).toList == [48])) = false := by
    cases p
    · rfl
    · rw [Bool.true_and, ByteArray.toList_eq, beq_eq_false_iff_ne]
      intro e
      have hp : 0 < n := by
        unfold sg zof at hs
        simp at hs
        exact hs
      apply dec_head hp
      have e2 : Lib.decDigits n = [48] := e
      rw [e2]
      rfl
  have hok : getOk ⟨(sgT p ++ Lib.decDigits n).toArray⟩ = true := by
    unfold getOk
    rw [hn, hr, plain_of, hz, hsz]
    simp [h64]
  have hZ : getZ ⟨(sgT p ++ Lib.decDigits n).toArray⟩ = zof p n := by
    unfold getZ
    rw [hn, hr]
    have : dg ⟨(Lib.decDigits n).toArray⟩ = (Lib.decDigits n).map (fun b => b.toNat - 48) := rfl
    rw [this, i3]
  rw [getR_yes hok, hZ, ← hs]
  have ha : (zof p n).natAbs = n := by
    unfold zof
    split
    · exact (Int.natAbs_neg _).trans (Int.natAbs_natCast _)
    · exact Int.natAbs_natCast _
  rw [ha, ← el]

end Go.Proofs.YtomcgnkmlmiijaaDoor
