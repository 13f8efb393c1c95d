/- Figures of a number, read back: plain mathematics. -/
import Derived.Test.YthcmkeegfhgliaaDoorPgD
namespace Go.Proofs.YthcmkeegfhgliaaDoor

theorem dec_figs (n : Nat) : (∀ b ∈ Lib.decDigits n, isFig b = true) ∧ (Lib.decDigits n).map (fun b => b.toNat - 48) ≠ [] ∧ num ((Lib.decDigits n).map (fun b => b.toNat - 48)) = n := by
  induction n using Nat.strongRecOn with
  | ind n ih =>
    have fig1 : ∀ d : Nat, d < 10 → isFig (UInt8.ofNat (48 + d)) = true ∧ (UInt8.ofNat (48 + d)).toNat - 48 = d := by
      intro d hd
      have e : (UInt8.ofNat (48 + d)).toNat = 48 + d := by rw [UInt8.toNat_ofNat']; omega
      refine ⟨?_, by omega⟩
      unfold isFig
      rw [e]
      simp
      omega
    by_cases h : n < 10
    · rw [dd1 h]
      obtain ⟨f1, f2⟩ := fig1 n h
      refine ⟨by simpa using f1, by simp, ?_⟩
      simp only [List.map_cons, List.map_nil, f2]
      simp [num]
    · obtain ⟨i1, i2, i3⟩ := ih (n / 10) (by omega)
      obtain ⟨f1, f2⟩ := fig1 (n % 10) (by omega)
      rw [dec_step n (by omega)]
      refine ⟨?_, by simp, ?_⟩
      · intro b hb
        rcases List.mem_append.1 hb with hb | hb
        · exact i1 b hb
        · rw [List.mem_singleton.1 hb]
          exact f1
      · rw [List.map_append, List.map_cons, List.map_nil, num_snoc, i3, f2]
        omega

theorem dec_head {n : Nat} (h : 0 < n) : (Lib.decDigits n).head? ≠ some 48 := by
  induction n using Nat.strongRecOn with
  | ind n ih =>
    by_cases h1 : n < 10
    · rw [dd1 h1]
      intro e
      simp at e
      have := congrArg UInt8.toNat e
      rw [UInt8.toNat_ofNat'] at this
      simp at this
      omega
    · rw [dec_step n (by omega), List.head?_append]
      have hi := ih (n / 10) (by omega) (by omega)
      have hne : Lib.decDigits (n / 10) ≠ [] := fun e => (dec_figs (n / 10)).2.1 (by rw [e]; rfl)
      cases hc : Lib.decDigits (n / 10) with
      | nil => exact absurd hc hne
      | cons x r =>
        rw [hc] at hi
        simpa using hi

theorem first_byte {x : UInt8} {r : List UInt8} : fstB ⟨(x :: r).toArray⟩ = x.toNat := by
  unfold fstB
  rw [dif_pos (by simp [ByteArray.size])]
  rfl

end Go.Proofs.YthcmkeegfhgliaaDoor
