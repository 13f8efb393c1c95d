/- Rounded up and down. Plain mathematics. -/
import Derived.Test.YthnkmjkgcnhlfaaGreatDoorNumK
import Derived.Test.YthnkmjkgcnhlfaaGreatDoorK00
namespace Go.Proofs.YthnkmjkgcnhlfaaGreatDoor
open Go.RowKit
set_option linter.unusedSimpArgs false

theorem qrd_or {neg : Bool} {a b : Nat} {m : Int} : qrd neg a b m = a / b ∨ (qrd neg a b m = a / b + 1 ∧ a % b ≠ 0) := by
  unfold qrd awayZ
  by_cases h : a % b = 0
  · simp [h]
  · cases moreZ m neg (decide (a / b % 2 = 1)) (cmpZ (a % b + a % b : Nat) b)
    · simp
    · right
      simp [h]

/-- The number next below, or itself, and the number next above, or itself. -/
theorem res_low {X : Int} {b : Nat} (hb : 0 < b) : resZ X b 4 * b ≤ X ∧ X ≤ resZ X b 3 * b ∧ (resZ X b 3 = resZ X b 4 ∨ resZ X b 3 = resZ X b 4 + 1) ∧
    (X < 0 → resZ X b 2 = resZ X b 3 ∧ resZ X b 1 = resZ X b 4) ∧ (0 ≤ X → resZ X b 2 = resZ X b 4 ∧ resZ X b 1 = resZ X b 3) ∧ ∀ m, resZ X b m = resZ X b 4 ∨ resZ X b m = resZ X b 3 := by
  have e := Nat.div_add_mod X.natAbs b
  have hr := Nat.mod_lt X.natAbs hb
  have hor := fun m => qrd_or (neg := sg X) (a := X.natAbs) (b := b) (m := m)
  have q1 := qrd_dir (neg := sg X) (a := X.natAbs) (b := b) (m := 1) (by omega)
  have q2 := qrd_dir (neg := sg X) (a := X.natAbs) (b := b) (m := 2) (by omega)
  have q3 := qrd_dir (neg := sg X) (a := X.natAbs) (b := b) (m := 3) (by omega)
  have q4 := qrd_dir (neg := sg X) (a := X.natAbs) (b := b) (m := 4) (by omega)
  unfold resZ
  rw [q1, q2, q3, q4]
  simp only [dirB]
  generalize X.natAbs / b = q at *
  generalize hR : X.natAbs % b = r at *
  have hqb : ((b * q : Nat) : Int) = (q : Int) * b := by rw [Nat.mul_comm]; exact Int.natCast_mul q b
  have hqb1 : ((b * q + b : Nat) : Int) = ((q : Int) + 1) * b := by rw [Int.add_mul, Int.one_mul, Int.natCast_add, hqb]
  by_cases hX : X < 0
  · have s1 : sg X = true := by unfold sg; simpa using hX
    have hor2 : ∀ m, qrd true X.natAbs b m = q ∨ (qrd true X.natAbs b m = q + 1 ∧ r ≠ 0) := fun m => by have := hor m; rwa [s1] at this
    have a1 : ∀ n : Nat, zof true n = -(n : Int) := fun n => by unfold zof; rfl
    clear hor q1 q2 q3 q4
    rw [s1]
    simp only [a1]
    by_cases h0 : r = 0
    · refine ⟨by simp [h0, Int.neg_mul]; omega, by simp [h0, Int.neg_mul]; omega, by simp [h0], by simp [h0], by simp [h0], fun m => ?_⟩
      rcases hor2 m with h | ⟨_, h⟩
      · rw [h]; simp [h0]
      · exact absurd h0 h
    · refine ⟨by simp [h0, Int.neg_mul, Int.neg_add, Int.add_mul]; omega, by simp [h0, Int.neg_mul, Int.neg_add, Int.add_mul]; omega, by simp [h0]; try omega, by simp [h0]; try omega, by simp [h0]; try omega, fun m => ?_⟩
      rcases hor2 m with h | ⟨h, _⟩
      · rw [h]; simp [h0]
      · rw [h]; simp [h0]
  · have s1 : sg X = false := by unfold sg; simpa using hX
    have hor2 : ∀ m, qrd false X.natAbs b m = q ∨ (qrd false X.natAbs b m = q + 1 ∧ r ≠ 0) := fun m => by have := hor m; rwa [s1] at this
    have a1 : ∀ n : Nat, zof false n = (n : Int) := fun n => by unfold zof; rfl
    clear hor q1 q2 q3 q4
    rw [s1]
    simp only [a1]
    by_cases h0 : r = 0
    · refine ⟨by simp [h0, Int.neg_mul]; omega, by simp [h0, Int.neg_mul]; omega, by simp [h0], by simp [h0], by simp [h0], fun m => ?_⟩
      rcases hor2 m with h | ⟨_, h⟩
      · rw [h]; simp [h0]
      · exact absurd h0 h
    · refine ⟨by simp [h0, Int.neg_mul, Int.neg_add, Int.add_mul]; omega, by simp [h0, Int.neg_mul, Int.neg_add, Int.add_mul]; omega, by simp [h0]; try omega, by simp [h0]; try omega, by simp [h0]; try omega, fun m => ?_⟩
      rcases hor2 m with h | ⟨h, _⟩
      · rw [h]; simp [h0]
      · rw [h]; simp [h0]

theorem dround_fit {p : Bool} {l : List Int} {s t : Int} (hb : decB p l s = true) (ht : 0 ≤ t ∧ t ≤ 12) : ∃ (X : Int) (b : Nat), 0 < b ∧ p = decide (X < 0) ∧
    (∀ m, 1 ≤ m ∧ m ≤ 7 → droundR p l s t m = dmake (resZ X b m) t) ∧ ∀ Y : Int, Fit Y → dcmpR (sg Y) (L Y.natAbs) t p l s = cmpZ (Y * b) X := by
  obtain ⟨z, rfl, rfl, hf, h0, h1⟩ := dec_fit hb
  have hp : ∀ n : Nat, 0 < 10 ^ n := fun n => Nat.pow_pos (by decide)
  refine ⟨z * ((10 ^ (t - s).toNat : Nat) : Int), 10 ^ (s - t).toNat, hp _, ?_, fun m hm => dround_z hb ht hm, fun Y hY => dcmp_z (fit_dec hY ht.1 ht.2) hb⟩
  have hk : (0 : Int) < ((10 ^ (t - s).toNat : Nat) : Int) := Int.natCast_pos.2 (hp _)
  unfold sg
  rw [decide_eq_decide]
  constructor
  · intro h
    exact Int.mul_neg_of_neg_of_pos h hk
  · intro h
    rcases Int.lt_or_le z 0 with c | c
    · exact c
    · have := Int.mul_nonneg c (Int.le_of_lt hk)
      omega

theorem dmake_code (Y t : Int) : (Fit Y ∧ dmake Y t = (sg Y, L Y.natAbs, t, 0)) ∨ dmake Y t = (false, [], 0, 3) := by
  by_cases h : Fit Y
  · exact .inl ⟨h, dmake_fit _ h⟩
  · exact .inr (dmake_not _ h)

/-- What the law of rounding up and down asks of its numbers. -/
theorem round_law {p og : Bool} {l ol : List Int} {s t m os on : Int} (h : droundR p l s t m = (og, ol, os, on)) (hn : on ≠ 1) :
    ∃ lg ll ls lc hg hl hs hc dg dl ds dc ug ul us uc, droundR p l s t 4 = (lg, ll, ls, lc) ∧ droundR p l s t 3 = (hg, hl, hs, hc) ∧ droundR p l s t 2 = (dg, dl, ds, dc) ∧ droundR p l s t 1 = (ug, ul, us, uc) ∧
      (lc = 0 ∨ lc = 3) ∧ (hc = 0 ∨ hc = 3) ∧ (dc = 0 ∨ dc = 3) ∧ (uc = 0 ∨ uc = 3) ∧ (lc = 0 → hc = 0 → dc = 0 → uc = 0 →
        (dcmpR lg ll ls p l s == 1) = false ∧ (dcmpR hg hl hs p l s == -1) = false ∧ ((hg, hl, hs) = (lg, ll, ls) ∨ daddR lg ll ls false [1] t = (hg, hl, hs, 0)) ∧
        (p = true → (dg, dl, ds) = (hg, hl, hs) ∧ (ug, ul, us) = (lg, ll, ls)) ∧ (p = false → (dg, dl, ds) = (lg, ll, ls) ∧ (ug, ul, us) = (hg, hl, hs)) ∧ ((og, ol, os) = (lg, ll, ls) ∨ (og, ol, os) = (hg, hl, hs))) := by
  by_cases hg : decB p l s = true ∧ (0 ≤ t ∧ t ≤ 12) ∧ (1 ≤ m ∧ m ≤ 7)
  case neg =>
    rw [dround_no2 hg] at h
    simp only [Prod.mk.injEq] at h
    exact absurd h.2.2.2.symm hn
  obtain ⟨hb, ht, hm⟩ := hg
  obtain ⟨X, b, hb0, hp, hR, hC⟩ := dround_fit hb ht
  obtain ⟨r1, r2, r3, r4, r5, r6⟩ := res_low (X := X) hb0
  have hX := r6 m
  rw [hR m hm] at h
  rw [hR 4 (by omega), hR 3 (by omega), hR 2 (by omega), hR 1 (by omega)]
  clear hR r6
  generalize resZ X b 4 = lo at *
  generalize resZ X b 3 = hi at *
  generalize resZ X b 2 = dn at *
  generalize resZ X b 1 = up at *
  generalize resZ X b m = x at *
  have code : ∀ Y : Int, ∃ g l s c, dmake Y t = (g, l, s, c) ∧ (c = 0 ∨ c = 3) ∧ (c = 0 → Fit Y ∧ g = sg Y ∧ l = L Y.natAbs ∧ t = s) := fun Y => by
    rcases dmake_code Y t with ⟨k, e⟩ | e
    · exact ⟨_, _, _, _, e, .inl rfl, fun _ => ⟨k, rfl, rfl, rfl⟩⟩
    · exact ⟨_, _, _, _, e, .inr rfl, fun k => by cases k⟩
  obtain ⟨lg, ll, ls, lc, e1, c1, k1⟩ := code lo
  obtain ⟨hg, hl, hs, hc, e2, c2, k2⟩ := code hi
  obtain ⟨dg, dl, ds, dc, e3, c3, k3⟩ := code dn
  obtain ⟨ug, ul, us, uc, e4, c4, k4⟩ := code up
  refine ⟨lg, ll, ls, lc, hg, hl, hs, hc, dg, dl, ds, dc, ug, ul, us, uc, e1, e2, e3, e4, c1, c2, c3, c4, fun z1 z2 z3 z4 => ?_⟩
  obtain ⟨f1, rfl, rfl, rfl⟩ := k1 z1
  obtain ⟨f2, rfl, rfl, rfl⟩ := k2 z2
  obtain ⟨f3, rfl, rfl, rfl⟩ := k3 z3
  obtain ⟨f4, rfl, rfl, rfl⟩ := k4 z4
  refine ⟨?_, ?_, ?_, ?_, ?_, ?_⟩
  · rw [hC lo f1, beq_eq_false_iff_ne]
    unfold cmpZ
    split
    · decide
    · split
      · omega
      · decide
  · rw [hC hi f2, beq_eq_false_iff_ne]
    unfold cmpZ
    split
    · omega
    · split <;> decide
  · rcases r3 with r3 | r3
    · exact .inl (by rw [r3])
    · refine .inr ?_
      have e : daddR (sg lo) (L lo.natAbs) t (sg 1) (L (1 : Int).natAbs) t = dmake (lo + 1) t := by
        rw [dadd_z (fit_dec f1 ht.1 ht.2) (fit_dec (show Fit 1 by decide) ht.1 ht.2), show max t t = t by omega, one_pow (n := (t - t).toNat) (by omega), Int.mul_one, Int.mul_one]
      rw [show sg (1 : Int) = false from rfl, show L (1 : Int).natAbs = [1] from L1, ← r3, dmake_fit _ f2] at e
      exact e
  · intro hpt
    have : X < 0 := by rw [hp] at hpt; simpa using hpt
    obtain ⟨a, c⟩ := r4 this
    rw [a, c]
    exact ⟨rfl, rfl⟩
  · intro hpt
    have : 0 ≤ X := by rw [hp] at hpt; simpa using hpt
    obtain ⟨a, c⟩ := r5 this
    rw [a, c]
    exact ⟨rfl, rfl⟩
  · rcases hX with hX | hX
    · left
      rw [hX, e1, z1] at h
      simp only [Prod.mk.injEq] at h
      obtain ⟨rfl, rfl, rfl, -⟩ := h
      rfl
    · right
      rw [hX, e2, z2] at h
      simp only [Prod.mk.injEq] at h
      obtain ⟨rfl, rfl, rfl, -⟩ := h
      rfl

end Go.Proofs.YthnkmjkgcnhlfaaGreatDoor
