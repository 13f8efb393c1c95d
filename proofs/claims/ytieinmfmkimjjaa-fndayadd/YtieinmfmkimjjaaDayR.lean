/- What the laws on sums of days say, as plain mathematics. -/
import Derived.Test.YtieinmfmkimjjaaAddX
import Derived.Test.YtieinmfmkimjjaaDayQ
namespace Go.Proofs.Ytieinmfmkimjjaa

theorem sum_pos {n m d : Int} (h : 0 < sumR n m d) : IsDay n ∧ SpanIs m d ∧ MoIs ((moN n : Int) + m) ∧ sumR n m d = dayIn ((moN n : Int) + m).toNat (dyN n) + d ∧ IsDay (sumR n m d) := by
  unfold sumR at *
  by_cases h1 : IsDay n ∧ SpanIs m d
  · rw [if_pos h1] at *
    unfold addR at *
    by_cases h2 : MoIs ((moN n : Int) + m)
    · rw [if_pos h2] at *
      by_cases h3 : IsDay (dayIn ((moN n : Int) + m).toNat (dyN n) + d)
      · rw [if_pos h3] at *
        exact ⟨h1.1, h1.2, h2, rfl, h3⟩
      · rw [if_neg h3] at h; omega
    · rw [if_neg h2] at h; omega
  · rw [if_neg h1] at h; omega

/-- The months from January of the year 0 on. -/
theorem k_of {n m : Int} (h : MoIs ((moN n : Int) + m)) : ∃ j : Nat, j = ((moN n : Int) + m).toNat ∧ ((moN n : Int) / 12 + 1) * 12 + ((moN n : Int) % 12 + 1) - 1 + m = (j : Int) + 12 ∧ j < 119988 :=
  ⟨_, rfl, by have := h.1; omega, by have := h.1; have := h.2; omega⟩

theorem k_last (j : Nat) (hj : j < 119988) : lastR (((j : Int) + 12) / 12) ((j : Int) % 12 + 1) = lastM j := by
  unfold lastR
  rw [if_pos (show YM _ _ from ⟨by omega, by omega, by omega, by omega⟩)]
  unfold lastM
  rw [show ((j / 12 : Nat) : Int) + 1 = ((j : Int) + 12) / 12 by omega, show ((j % 12 : Nat) : Int) = (j : Int) % 12 by omega]

theorem k_day (j : Nat) (hj : j < 119988) (d : Int) (h1 : 1 ≤ d) : dayR (((j : Int) + 12) / 12) ((j : Int) % 12 + 1) (min d (lastM j)) = dayIn j d := by
  have e := k_last j hj
  have hy : YM (((j : Int) + 12) / 12) ((j : Int) % 12 + 1) := ⟨by omega, by omega, by omega, by omega⟩
  have hl := lastM_bounds j
  unfold lastR at e
  rw [if_pos hy] at e
  unfold dayR
  rw [if_pos ⟨hy, by omega, by rw [e]; omega⟩, show moOf (((j : Int) + 12) / 12) ((j : Int) % 12 + 1) = j by unfold moOf; omega]
  rfl

theorem sum_zero {n : Int} (h : IsDay n) : sumR n 0 0 = n := by
  have hA := moN_lt h.1 h.2
  have hd := dyN_bounds h.1 h.2
  unfold sumR
  rw [if_pos (show IsDay n ∧ SpanIs 0 0 from ⟨h, ⟨by omega, by omega⟩, by omega, by omega⟩)]
  unfold addR
  rw [show (moN n : Int) + 0 = moN n by omega, if_pos (show MoIs (moN n : Int) from ⟨by omega, by omega⟩), Int.toNat_natCast]
  have e : dayIn (moN n) (dyN n) + 0 = n := by
    unfold dayIn; rw [Int.min_eq_left hd.2]; unfold dyN; omega
  rw [e, if_pos h]

theorem sum_at {x k : Int} (h : IsDay x) (hs : SpanIs k 0) (hm : MoIs ((moN x : Int) + k)) (hd : IsDay (dayIn ((moN x : Int) + k).toNat (dyN x) + 0)) : sumR x k 0 = dayIn ((moN x : Int) + k).toNat (dyN x) + 0 := by
  unfold sumR
  rw [if_pos ⟨h, hs⟩]
  unfold addR
  rw [if_pos hm, if_pos hd]

/-- Months forth and back. -/
theorem back_sum {n m : Int} (h : 0 < sumR n m 0) :
    IsDay (sumR n m 0) ∧ dyN (sumR n m 0) = min (dyN n) (lastM ((moN n : Int) + m).toNat) ∧ sumR (sumR n m 0) (-m) 0 = n - (dyN n - dyN (sumR n m 0)) ∧ dyN (sumR n m 0) ≤ dyN n ∧ dyN n - dyN (sumR n m 0) ≤ 3 ∧ 0 < sumR (sumR n m 0) (-m) 0 := by
  obtain ⟨hn, hs, hm, e, hx⟩ := sum_pos h
  have hd := dyN_bounds hn.1 hn.2
  have hl := lastM_bounds (moN n)
  have hA := moN_lt hn.1 hn.2
  obtain ⟨j, hj, _, hj2⟩ := k_of hm
  rw [← hj] at e ⊢
  have hjl := lastM_bounds j
  have hjm : (j : Int) = (moN n : Int) + m := by have := hm.1; omega
  have s := ahead_succ j
  have em : moN (sumR n m 0) = j := moN_of ⟨by rw [e]; unfold dayIn; omega, by rw [e, s]; unfold dayIn; omega⟩
  have ed : dyN (sumR n m 0) = min (dyN n) (lastM j) := by unfold dyN; rw [em, e]; unfold dayIn dyN; omega
  have hs1 := hs.1
  have eb : sumR (sumR n m 0) (-m) 0 = n - (dyN n - dyN (sumR n m 0)) := by
    have key : dayIn (moN n) (dyN (sumR n m 0)) + 0 = n - (dyN n - dyN (sumR n m 0)) := by
      unfold dayIn
      rw [Int.min_eq_left (by rw [ed]; omega)]
      have : n = ahead (moN n) + dyN n := by unfold dyN; omega
      omega
    have hpos : n = ahead (moN n) + dyN n := by unfold dyN; omega
    have h0 := ahead_nonneg (moN n)
    have en : ((moN (sumR n m 0) : Int) + -m) = moN n := by rw [em]; omega
    have hn2 := hn.2
    rw [sum_at hx (show SpanIs (-m) 0 from ⟨⟨by omega, by omega⟩, by omega, by omega⟩) (by rw [en]; exact ⟨by omega, by omega⟩) (by rw [en, Int.toNat_natCast, key]; exact ⟨by omega, by omega⟩), en, Int.toNat_natCast, key]
  refine ⟨hx, ed, eb, by omega, by omega, ?_⟩
  rw [eb]
  have : n = ahead (moN n) + dyN n := by unfold dyN; omega
  have := ahead_nonneg (moN n)
  omega

end Go.Proofs.Ytieinmfmkimjjaa
