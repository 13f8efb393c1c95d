/- Rounding in two steps, towards one side. Plain mathematics. Rounded up and down. Plain mathematics. The nearer one of two steps, and the middle. Plain mathematics. -/
import Derived.Test.YthnkmjkgcnhlfaaGreatDoorK00
namespace Go.Proofs.YthnkmjkgcnhlfaaGreatDoor
open Go.RowKit

/-- Whether a way that goes to one side goes away from 0. -/
def dirB (m : Int) (neg : Bool) : Bool := if m = 1 then true else if m = 2 then false else if m = 3 then !neg else neg

theorem qrd_dir {neg : Bool} {a b : Nat} {m : Int} (hm : 1 ≤ m ∧ m ≤ 4) : qrd neg a b m = a / b + (if a % b ≠ 0 ∧ dirB m neg = true then 1 else 0) := by
  unfold qrd awayZ moreZ dirB
  by_cases h1 : m = 1
  · simp [h1]
  · by_cases h2 : m = 2
    · simp [h2]
    · by_cases h3 : m = 3
      · simp [h3]
      · have h4 : m = 4 := by omega
        simp [h4]

theorem up_div {a b : Nat} (hb : 0 < b) : a / b + (if a % b ≠ 0 then 1 else 0) = (a + (b - 1)) / b := by
  have e := Nat.div_add_mod a b
  have hr := Nat.mod_lt a hb
  generalize a / b = q at *
  generalize a % b = r at *
  subst e
  rw [Nat.add_assoc, Nat.add_comm (b * q), Nat.add_mul_div_left _ _ hb, Nat.add_comm _ q]
  congr 1
  by_cases h : r = 0
  · subst h
    rw [if_neg (by simp), Nat.zero_add, Nat.div_eq_of_lt (by omega)]
  · rw [if_pos h]
    symm
    exact Nat.div_eq_of_lt_le (by omega) (by omega)

theorem qrd_twice {neg : Bool} {a b c : Nat} {m : Int} (hm : 1 ≤ m ∧ m ≤ 4) (hb : 0 < b) (hc : 0 < c) : qrd neg (qrd neg a b m) c m = qrd neg a (b * c) m := by
  rw [qrd_dir hm, qrd_dir hm, qrd_dir hm]
  cases dirB m neg
  · simp only [Bool.false_eq_true, and_false, if_false, Nat.add_zero]
    exact Nat.div_div_eq_div_mul a b c
  · simp only [and_true]
    rw [up_div hc, up_div hb, up_div (Nat.mul_pos hb hc), show (a + (b - 1)) / b + (c - 1) = (a + (b - 1) + b * (c - 1)) / b by rw [Nat.add_mul_div_left _ _ hb], Nat.div_div_eq_div_mul]
    congr 1
    obtain ⟨c, rfl⟩ : ∃ k, c = k + 1 := ⟨c - 1, by omega⟩
    rw [Nat.add_sub_cancel, Nat.mul_add, Nat.mul_one]
    omega

theorem res_twice {X : Int} {b c : Nat} {m : Int} (hm : 1 ≤ m ∧ m ≤ 4) (hb : 0 < b) (hc : 0 < c) : resZ (resZ X b m) c m = resZ X (b * c) m := by
  have e := qrd_twice (neg := sg X) (a := X.natAbs) hm hb hc
  have z0 : ∀ g : Bool, qrd g 0 c m = 0 := fun g => by rw [qrd_dir hm]; simp
  unfold resZ
  rw [zof_abs2]
  generalize qrd (sg X) X.natAbs b m = n at *
  rw [← e]
  by_cases hn : n = 0
  · subst hn
    rw [z0, z0]
    unfold zof
    simp
  · by_cases hX : X = 0
    · subst hX
      have : sg (zof (sg 0) n) = sg 0 := by
        unfold sg zof
        simp
      rw [this]
    · rcases sg_zof (z := X) (n := n) (fun _ => hn) with h | h
      · rw [h]
      · exact absurd h hX

theorem res_scaled {X : Int} {b k : Nat} {m : Int} (hm : 1 ≤ m ∧ m ≤ 4) (hb : 0 < b) (hk : 0 < k) : resZ (X * (k : Int)) (k * b) m = resZ X b m := by
  rw [← res_twice hm hk hb, res_muls _ _ hk]

theorem round_twice {z s t u m : Int} (hm : 1 ≤ m ∧ m ≤ 4) (hut : u ≤ t) :
    resZ (resZ (z * ((10 ^ (t - s).toNat : Nat) : Int)) (10 ^ (s - t).toNat) m * ((10 ^ (u - t).toNat : Nat) : Int)) (10 ^ (t - u).toNat) m = resZ (z * ((10 ^ (u - s).toNat : Nat) : Int)) (10 ^ (s - u).toNat) m := by
  have hp : ∀ n : Nat, 0 < 10 ^ n := fun n => Nat.pow_pos (by decide)
  rw [show (u - t).toNat = 0 by omega, Nat.pow_zero, show ((1 : Nat) : Int) = 1 from rfl, Int.mul_one, res_twice hm (hp _) (hp _), ← Nat.pow_add]
  by_cases h : t ≤ s
  · rw [show (t - s).toNat = 0 by omega, show (u - s).toNat = 0 by omega, show (s - t).toNat + (t - u).toNat = (s - u).toNat by omega]
  · rw [show (s - t).toNat + (t - u).toNat = (t - u).toNat by omega]
    by_cases k : s ≤ u
    · rw [show (t - s).toNat = (u - s).toNat + (t - u).toNat by omega, Nat.pow_add, Int.natCast_mul, ← Int.mul_assoc, res_muls _ _ (hp _), show (s - u).toNat = 0 by omega, Nat.pow_zero, resZ_one]
    · rw [show (t - u).toNat = (t - s).toNat + (s - u).toNat by omega, Nat.pow_add, res_scaled hm (hp _) (hp _), show (u - s).toNat = 0 by omega, Nat.pow_zero, show ((1 : Nat) : Int) = 1 from rfl, Int.mul_one]

theorem dround_no2 {p : Bool} {l : List Int} {s t mode : Int} (h : ¬ (decB p l s = true ∧ (0 ≤ t ∧ t ≤ 12) ∧ (1 ≤ mode ∧ mode ≤ 7))) : droundR p l s t mode = (false, [], 0, 1) := by
  unfold droundR
  rw [if_neg h]

theorem twice_law {p og : Bool} {l ol : List Int} {s t m os : Int} (h : droundR p l s t m = (og, ol, os, 0)) (h5 : m < 5) :
    0 ≤ t ∧ t ≤ 12 ∧ ∀ u : Int, 0 ≤ u → u ≤ t → ∃ yg yl ys yc, droundR og ol os u m = (yg, yl, ys, yc) ∧ droundR p l s u m = (yg, yl, ys, yc) := by
  by_cases hg : decB p l s = true ∧ (0 ≤ t ∧ t ≤ 12) ∧ (1 ≤ m ∧ m ≤ 7)
  case neg =>
    rw [dround_no2 hg] at h
    simp at h
  obtain ⟨hb, ht, hm⟩ := hg
  refine ⟨ht.1, ht.2, fun u hu0 hut => ?_⟩
  obtain ⟨z, rfl, rfl, -⟩ := dec_fit hb
  rw [dround_z hb ht hm] at h
  by_cases hf : Fit (resZ (z * ((10 ^ (t - s).toNat : Nat) : Int)) (10 ^ (s - t).toNat) m)
  case neg =>
    rw [dmake_not _ hf] at h
    simp at h
  rw [dmake_fit _ hf] at h
  simp only [Prod.mk.injEq] at h
  obtain ⟨rfl, rfl, rfl, -⟩ := h
  have E : droundR (sg (resZ (z * ((10 ^ (t - s).toNat : Nat) : Int)) (10 ^ (s - t).toNat) m)) (L (resZ (z * ((10 ^ (t - s).toNat : Nat) : Int)) (10 ^ (s - t).toNat) m).natAbs) t u m = droundR (sg z) (L z.natAbs) s u m := by
    rw [dround_z hb ⟨hu0, by omega⟩ hm, dround_z (fit_dec hf ht.1 ht.2) ⟨hu0, by omega⟩ hm, round_twice ⟨hm.1, by omega⟩ hut]
  obtain ⟨a, b, c, d, hO⟩ : ∃ a b c d, droundR (sg z) (L z.natAbs) s u m = (a, b, c, d) := ⟨_, _, _, _, rfl⟩
  exact ⟨a, b, c, d, E.trans hO, hO⟩

end Go.Proofs.YthnkmjkgcnhlfaaGreatDoor

namespace Go.Proofs.YthnkmjkgcnhlfaaGreatDoor
open Go.RowKit
set_option linter.unusedSimpArgs false

theorem qrd_or {neg : Bool} {a b : Nat} {m : Int} : qrd neg a b m = a / b ∨ (qrd neg a b m = a / b + 1 ∧ a % b ≠ 0) := by
  unfold qrd awayZ
  by_cases h : a % b = 0
  · simp [h]
  · cases moreZ m neg (decide (a / b % 2 = 1)) (cmpZ (a % b + a % b : Nat) b)
    · simp
    · right
      simp [h]

/-- The number next below, or itself, and the number next above, or itself. -/
theorem res_low {X : Int} {b : Nat} (hb : 0 < b) : resZ X b 4 * b ≤ X ∧ X ≤ resZ X b 3 * b ∧ (resZ X b 3 = resZ X b 4 ∨ resZ X b 3 = resZ X b 4 + 1) ∧
    (X < 0 → resZ X b 2 = resZ X b 3 ∧ resZ X b 1 = resZ X b 4) ∧ (0 ≤ X → resZ X b 2 = resZ X b 4 ∧ resZ X b 1 = resZ X b 3) ∧ ∀ m, resZ X b m = resZ X b 4 ∨ resZ X b m = resZ X b 3 := by
  have e := Nat.div_add_mod X.natAbs b
  have hr := Nat.mod_lt X.natAbs hb
  have hor := fun m => qrd_or (neg := sg X) (a := X.natAbs) (b := b) (m := m)
  have q1 := qrd_dir (neg := sg X) (a := X.natAbs) (b := b) (m := 1) (by omega)
  have q2 := qrd_dir (neg := sg X) (a := X.natAbs) (b := b) (m := 2) (by omega)
  have q3 := qrd_dir (neg := sg X) (a := X.natAbs) (b := b) (m := 3) (by omega)
  have q4 := qrd_dir (neg := sg X) (a := X.natAbs) (b := b) (m := 4) (by omega)
  unfold resZ
  rw [q1, q2, q3, q4]
  simp only [dirB]
  generalize X.natAbs / b = q at *
  generalize hR : X.natAbs % b = r at *
  have hqb : ((b * q : Nat) : Int) = (q : Int) * b := by rw [Nat.mul_comm]; exact Int.natCast_mul q b
  have hqb1 : ((b * q + b : Nat) : Int) = ((q : Int) + 1) * b := by rw [Int.add_mul, Int.one_mul, Int.natCast_add, hqb]
  by_cases hX : X < 0
  · have s1 : sg X = true := by unfold sg; simpa using hX
    have hor2 : ∀ m, qrd true X.natAbs b m = q ∨ (qrd true X.natAbs b m = q + 1 ∧ r ≠ 0) := fun m => by have := hor m; rwa [s1] at this
    have a1 : ∀ n : Nat, zof true n = -(n : Int) := fun n => by unfold zof; rfl
    clear hor q1 q2 q3 q4
    rw [s1]
    simp only [a1]
    by_cases h0 : r = 0
    · refine ⟨by simp [h0, Int.neg_mul]; omega, by simp [h0, Int.neg_mul]; omega, by simp [h0], by simp [h0], by simp [h0], fun m => ?_⟩
      rcases hor2 m with h | ⟨_, h⟩
      · rw [h]; simp [h0]
      · exact absurd h0 h
    · refine ⟨by simp [h0, Int.neg_mul, Int.neg_add, Int.add_mul]; omega, by simp [h0, Int.neg_mul, Int.neg_add, Int.add_mul]; omega, by simp [h0]; try omega, by simp [h0]; try omega, by simp [h0]; try omega, fun m => ?_⟩
      rcases hor2 m with h | ⟨h, _⟩
      · rw [h]; simp [h0]
      · rw [h]; simp [h0]
  · have s1 : sg X = false := by unfold sg; simpa using hX
    have hor2 : ∀ m, qrd false X.natAbs b m = q ∨ (qrd false X.natAbs b m = q + 1 ∧ r ≠ 0) := fun m => by have := hor m; rwa [s1] at this
    have a1 : ∀ n : Nat, zof false n = (n : Int) := fun n => by unfold zof; rfl
    clear hor q1 q2 q3 q4
    rw [s1]
    simp only [a1]
    by_cases h0 : r = 0
    · refine ⟨by simp [h0, Int.neg_mul]; omega, by simp [h0, Int.neg_mul]; omega, by simp [h0], by simp [h0], by simp [h0], fun m => ?_⟩
      rcases hor2 m with h | ⟨_, h⟩
      · rw [h]; simp [h0]
      · exact absurd h0 h
    · refine ⟨by simp [h0, Int.neg_mul, Int.neg_add, Int.add_mul]; omega, by simp [h0, Int.neg_mul, Int.neg_add, Int.add_mul]; omega, by simp [h0]; try omega, by simp [h0]; try omega, by simp [h0]; try omega, fun m => ?_⟩
      rcases hor2 m with h | ⟨h, _⟩
      · rw [h]; simp [h0]
      · rw [h]; simp [h0]

theorem dround_fit {p : Bool} {l : List Int} {s t : Int} (hb : decB p l s = true) (ht : 0 ≤ t ∧ t ≤ 12) : ∃ (X : Int) (b : Nat), 0 < b ∧ p = decide (X < 0) ∧
    (∀ m, 1 ≤ m ∧ m ≤ 7 → droundR p l s t m = dmake (resZ X b m) t) ∧ ∀ Y : Int, Fit Y → dcmpR (sg Y) (L Y.natAbs) t p l s = cmpZ (Y * b) X := by
  obtain ⟨z, rfl, rfl, hf, h0, h1⟩ := dec_fit hb
  have hp : ∀ n : Nat, 0 < 10 ^ n := fun n => Nat.pow_pos (by decide)
  refine ⟨z * ((10 ^ (t - s).toNat : Nat) : Int), 10 ^ (s - t).toNat, hp _, ?_, fun m hm => dround_z hb ht hm, fun Y hY => dcmp_z (fit_dec hY ht.1 ht.2) hb⟩
  have hk : (0 : Int) < ((10 ^ (t - s).toNat : Nat) : Int) := Int.natCast_pos.2 (hp _)
  unfold sg
  rw [decide_eq_decide]
  constructor
  · intro h
    exact Int.mul_neg_of_neg_of_pos h hk
  · intro h
    rcases Int.lt_or_le z 0 with c | c
    · exact c
    · have := Int.mul_nonneg c (Int.le_of_lt hk)
      omega

theorem dmake_code (Y t : Int) : (Fit Y ∧ dmake Y t = (sg Y, L Y.natAbs, t, 0)) ∨ dmake Y t = (false, [], 0, 3) := by
  by_cases h : Fit Y
  · exact .inl ⟨h, dmake_fit _ h⟩
  · exact .inr (dmake_not _ h)

/-- What the law of rounding up and down asks of its numbers. -/
theorem round_law {p og : Bool} {l ol : List Int} {s t m os on : Int} (h : droundR p l s t m = (og, ol, os, on)) (hn : on ≠ 1) :
    ∃ lg ll ls lc hg hl hs hc dg dl ds dc ug ul us uc, droundR p l s t 4 = (lg, ll, ls, lc) ∧ droundR p l s t 3 = (hg, hl, hs, hc) ∧ droundR p l s t 2 = (dg, dl, ds, dc) ∧ droundR p l s t 1 = (ug, ul, us, uc) ∧
      (lc = 0 ∨ lc = 3) ∧ (hc = 0 ∨ hc = 3) ∧ (dc = 0 ∨ dc = 3) ∧ (uc = 0 ∨ uc = 3) ∧ (lc = 0 → hc = 0 → dc = 0 → uc = 0 →
        (dcmpR lg ll ls p l s == 1) = false ∧ (dcmpR hg hl hs p l s == -1) = false ∧ ((hg, hl, hs) = (lg, ll, ls) ∨ daddR lg ll ls false [1] t = (hg, hl, hs, 0)) ∧
        (p = true → (dg, dl, ds) = (hg, hl, hs) ∧ (ug, ul, us) = (lg, ll, ls)) ∧ (p = false → (dg, dl, ds) = (lg, ll, ls) ∧ (ug, ul, us) = (hg, hl, hs)) ∧ ((og, ol, os) = (lg, ll, ls) ∨ (og, ol, os) = (hg, hl, hs))) := by
  by_cases hg : decB p l s = true ∧ (0 ≤ t ∧ t ≤ 12) ∧ (1 ≤ m ∧ m ≤ 7)
  case neg =>
    rw [dround_no2 hg] at h
    simp only [Prod.mk.injEq] at h
    exact absurd h.2.2.2.symm hn
  obtain ⟨hb, ht, hm⟩ := hg
  obtain ⟨X, b, hb0, hp, hR, hC⟩ := dround_fit hb ht
  obtain ⟨r1, r2, r3, r4, r5, r6⟩ := res_low (X := X) hb0
  have hX := r6 m
  rw [hR m hm] at h
  rw [hR 4 (by omega), hR 3 (by omega), hR 2 (by omega), hR 1 (by omega)]
  clear hR r6
  generalize resZ X b 4 = lo at *
  generalize resZ X b 3 = hi at *
  generalize resZ X b 2 = dn at *
  generalize resZ X b 1 = up at *
  generalize resZ X b m = x at *
  have code : ∀ Y : Int, ∃ g l s c, dmake Y t = (g, l, s, c) ∧ (c = 0 ∨ c = 3) ∧ (c = 0 → Fit Y ∧ g = sg Y ∧ l = L Y.natAbs ∧ t = s) := fun Y => by
    rcases dmake_code Y t with ⟨k, e⟩ | e
    · exact ⟨_, _, _, _, e, .inl rfl, fun _ => ⟨k, rfl, rfl, rfl⟩⟩
    · exact ⟨_, _, _, _, e, .inr rfl, fun k => by cases k⟩
  obtain ⟨lg, ll, ls, lc, e1, c1, k1⟩ := code lo
  obtain ⟨hg, hl, hs, hc, e2, c2, k2⟩ := code hi
  obtain ⟨dg, dl, ds, dc, e3, c3, k3⟩ := code dn
  obtain ⟨ug, ul, us, uc, e4, c4, k4⟩ := code up
  refine ⟨lg, ll, ls, lc, hg, hl, hs, hc, dg, dl, ds, dc, ug, ul, us, uc, e1, e2, e3, e4, c1, c2, c3, c4, fun z1 z2 z3 z4 => ?_⟩
  obtain ⟨f1, rfl, rfl, rfl⟩ := k1 z1
  obtain ⟨f2, rfl, rfl, rfl⟩ := k2 z2
  obtain ⟨f3, rfl, rfl, rfl⟩ := k3 z3
  obtain ⟨f4, rfl, rfl, rfl⟩ := k4 z4
  refine ⟨?_, ?_, ?_, ?_, ?_, ?_⟩
  · rw [hC lo f1, beq_eq_false_iff_ne]
    unfold cmpZ
    split
    · decide
    · split
      · omega
      · decide
  · rw [hC hi f2, beq_eq_false_iff_ne]
    unfold cmpZ
    split
    · omega
    · split <;> decide
  · rcases r3 with r3 | r3
    · exact .inl (by rw [r3])
    · refine .inr ?_
      have e : daddR (sg lo) (L lo.natAbs) t (sg 1) (L (1 : Int).natAbs) t = dmake (lo + 1) t := by
        rw [dadd_z (fit_dec f1 ht.1 ht.2) (fit_dec (show Fit 1 by decide) ht.1 ht.2), show max t t = t by omega, one_pow (n := (t - t).toNat) (by omega), Int.mul_one, Int.mul_one]
      rw [show sg (1 : Int) = false from rfl, show L (1 : Int).natAbs = [1] from L1, ← r3, dmake_fit _ f2] at e
      exact e
  · intro hpt
    have : X < 0 := by rw [hp] at hpt; simpa using hpt
    obtain ⟨a, c⟩ := r4 this
    rw [a, c]
    exact ⟨rfl, rfl⟩
  · intro hpt
    have : 0 ≤ X := by rw [hp] at hpt; simpa using hpt
    obtain ⟨a, c⟩ := r5 this
    rw [a, c]
    exact ⟨rfl, rfl⟩
  · rcases hX with hX | hX
    · left
      rw [hX, e1, z1] at h
      simp only [Prod.mk.injEq] at h
      obtain ⟨rfl, rfl, rfl, -⟩ := h
      rfl
    · right
      rw [hX, e2, z2] at h
      simp only [Prod.mk.injEq] at h
      obtain ⟨rfl, rfl, rfl, -⟩ := h
      rfl

end Go.Proofs.YthnkmjkgcnhlfaaGreatDoor

namespace Go.Proofs.YthnkmjkgcnhlfaaGreatDoor
open Go.RowKit
set_option linter.unusedSimpArgs false

/-- What the ways to round take: the step towards 0 or the one away from it. -/
theorem qrd_five {neg : Bool} {a b : Nat} :
    (a % b = 0 ∧ ∀ m, qrd neg a b m = a / b) ∨
    (a % b ≠ 0 ∧ qrd neg a b 2 = a / b ∧ qrd neg a b 1 = a / b + 1 ∧
      ((a % b + a % b < b ∧ qrd neg a b 5 = a / b ∧ qrd neg a b 6 = a / b ∧ qrd neg a b 7 = a / b) ∨
       (b < a % b + a % b ∧ qrd neg a b 5 = a / b + 1 ∧ qrd neg a b 6 = a / b + 1 ∧ qrd neg a b 7 = a / b + 1) ∨
       (a % b + a % b = b ∧ qrd neg a b 5 = a / b + 1 ∧ qrd neg a b 6 = a / b ∧ (qrd neg a b 7 = a / b ∨ qrd neg a b 7 = a / b + 1) ∧ qrd neg a b 7 % 2 = 0))) := by
  by_cases h : a % b = 0
  · exact .inl ⟨h, fun m => qrd_zero h⟩
  refine .inr ⟨h, ?_, ?_, ?_⟩
  · rw [qrd_more h]; simp [moreZ]
  · rw [qrd_more h]; simp [moreZ]
  rw [qrd_more h, qrd_more h, qrd_more h]
  generalize a / b = q at *
  generalize a % b = r at *
  rcases Nat.lt_trichotomy (r + r) b with c | c | c
  · left
    have e : cmpZ ((r + r : Nat) : Int) (b : Int) = -1 := cmpZ_lt (by omega)
    refine ⟨c, ?_, ?_, ?_⟩ <;> rw [e] <;> simp [moreZ]
  · right; right
    have e : cmpZ ((r + r : Nat) : Int) (b : Int) = 0 := cmpZ_eq (by omega)
    rw [e]
    refine ⟨c, by simp [moreZ], by simp [moreZ], ?_, ?_⟩
    · by_cases o : q % 2 = 1 <;> simp [moreZ, o]
    · by_cases o : q % 2 = 1
      · simp [moreZ, o]; omega
      · simp [moreZ, o]; omega
  · right; left
    have e : cmpZ ((r + r : Nat) : Int) (b : Int) = 1 := cmpZ_gt (by omega)
    refine ⟨c, ?_, ?_, ?_⟩ <;> rw [e] <;> simp [moreZ]

theorem down_off (X : Int) (b : Nat) : (X - zof (sg X) (X.natAbs / b) * b).natAbs = X.natAbs % b := by
  have e := Nat.div_add_mod X.natAbs b
  generalize X.natAbs / b = q at *
  generalize hR : X.natAbs % b = r at *
  have hqb : ((b * q : Nat) : Int) = (q : Int) * b := by rw [Nat.mul_comm]; exact Int.natCast_mul q b
  unfold zof sg
  by_cases hX : X < 0
  · rw [if_pos (by simpa using hX), Int.neg_mul, ← hqb]; omega
  · rw [if_neg (by simpa using hX), ← hqb]; omega

theorem up_off {X : Int} {b : Nat} (hb : 0 < b) : (zof (sg X) (X.natAbs / b + 1) * b - X).natAbs = b - X.natAbs % b := by
  have e := Nat.div_add_mod X.natAbs b
  have hr := Nat.mod_lt X.natAbs hb
  generalize X.natAbs / b = q at *
  generalize hR : X.natAbs % b = r at *
  have hqb1 : ((b * q + b : Nat) : Int) = ((q + 1 : Nat) : Int) * b := by rw [← Int.natCast_mul, Nat.add_mul, Nat.mul_comm, Nat.one_mul]
  unfold zof sg
  by_cases hX : X < 0
  · rw [if_pos (by simpa using hX), Int.neg_mul, ← hqb1]; omega
  · rw [if_neg (by simpa using hX), ← hqb1]; omega

theorem pow_fit {s t : Int} (ht : 0 ≤ t) (hs : s ≤ 12) : 10 ^ (s - t).toNat < 10 ^ 30 := Nat.pow_lt_pow_right (by decide) (by omega)

/-- Two numbers without their signs, compared. -/
theorem dcmp_abs {x y s : Int} (hx : Fit x) (hy : Fit y) (h0 : 0 ≤ s) (h1 : s ≤ 12) : dcmpR false (L x.natAbs) s false (L y.natAbs) s = cmpZ (x.natAbs : Int) (y.natAbs : Int) := by
  have a := fit_dec (z := (x.natAbs : Int)) (s := s) (by unfold Fit at *; omega) h0 h1
  have b := fit_dec (z := (y.natAbs : Int)) (s := s) (by unfold Fit at *; omega) h0 h1
  have e : ∀ n : Nat, sg (n : Int) = false := fun n => by unfold sg; simp
  have k := dcmp_z a b
  rw [e, e, Int.natAbs_natCast, Int.natAbs_natCast, one_pow (n := (s - s).toNat) (by omega), Int.mul_one, Int.mul_one] at k
  exact k

theorem even_first {n : Nat} (h : n % 2 = 0) : L n = [] ∨ ∃ (x : Nat) (r : List Int), L n = (x : Int) :: r ∧ x % 2 = 0 := by
  rcases Nat.eq_zero_or_pos n with h0 | h0
  · left; rw [h0, L_zero]
  · right
    refine ⟨n % 10000, L (n / 10000), ?_, by omega⟩
    rw [L_pos h0]

theorem code_of (Y t : Int) : ∃ g l s c, dmake Y t = (g, l, s, c) ∧ (c = 0 ∨ c = 3) ∧ (c = 0 → Fit Y ∧ g = sg Y ∧ l = L Y.natAbs ∧ t = s) := by
  rcases dmake_code Y t with ⟨k, e⟩ | e
  · exact ⟨_, _, _, _, e, .inl rfl, fun _ => ⟨k, rfl, rfl, rfl⟩⟩
  · exact ⟨_, _, _, _, e, .inr rfl, fun k => by cases k⟩

/-- What the law of the nearer one asks of its numbers. -/
theorem half_law {p og : Bool} {l ol : List Int} {s t m os on : Int} (h : droundR p l s t m = (og, ol, os, on)) (hn : on ≠ 1) :
    ∃ dg dl ds dc ug ul us uc mg ml ms mc kg kl ks kc eg el es ec, droundR p l s t 2 = (dg, dl, ds, dc) ∧ droundR p l s t 1 = (ug, ul, us, uc) ∧ droundR p l s t 5 = (mg, ml, ms, mc) ∧ droundR p l s t 6 = (kg, kl, ks, kc) ∧ droundR p l s t 7 = (eg, el, es, ec) ∧
      (dc = 0 → uc = 0 → mc = 0 → kc = 0 → ec = 0 → t < s →
        ∃ xg xl yg yl c, dsubR p l s dg dl ds = (xg, xl, s, 0) ∧ dsubR ug ul us p l s = (yg, yl, s, 0) ∧ dcmpR false xl s false yl s = c ∧
          ((c = -1 ∧ (mg, ml, ms) = (dg, dl, ds) ∧ (kg, kl, ks) = (dg, dl, ds) ∧ (eg, el, es) = (dg, dl, ds)) ∨
           (c = 1 ∧ (mg, ml, ms) = (ug, ul, us) ∧ (kg, kl, ks) = (ug, ul, us) ∧ (eg, el, es) = (ug, ul, us)) ∨
           (c = 0 ∧ (mg, ml, ms) = (ug, ul, us) ∧ (kg, kl, ks) = (dg, dl, ds) ∧
             (((dg, dl, ds) = (ug, ul, us) ∧ (eg, el, es) = (ug, ul, us) ∧ (el = [] ∨ ∃ (x : Nat) (r : List Int), el = (x : Int) :: r)) ∨
              (((eg, el, es) = (ug, ul, us) ∨ (eg, el, es) = (dg, dl, ds)) ∧ (el = [] ∨ ∃ (x : Nat) (r : List Int), el = (x : Int) :: r ∧ x % 2 = 0)))))) := by
  by_cases hg : decB p l s = true ∧ (0 ≤ t ∧ t ≤ 12) ∧ (1 ≤ m ∧ m ≤ 7)
  case neg =>
    rw [dround_no2 hg] at h
    simp only [Prod.mk.injEq] at h
    exact absurd h.2.2.2.symm hn
  obtain ⟨hb, ht, hm⟩ := hg
  clear h hn hm
  obtain ⟨z, rfl, rfl, hf, h0, h1⟩ := dec_fit hb
  rw [dround_z hb ht (mode := 2) (by omega), dround_z hb ht (mode := 1) (by omega), dround_z hb ht (mode := 5) (by omega), dround_z hb ht (mode := 6) (by omega), dround_z hb ht (mode := 7) (by omega)]
  obtain ⟨dg, dl, ds, dc, e1, -, k1⟩ := code_of (resZ (z * ((10 ^ (t - s).toNat : Nat) : Int)) (10 ^ (s - t).toNat) 2) t
  obtain ⟨ug, ul, us, uc, e2, -, k2⟩ := code_of (resZ (z * ((10 ^ (t - s).toNat : Nat) : Int)) (10 ^ (s - t).toNat) 1) t
  obtain ⟨mg, ml, ms, mc, e3, -, k3⟩ := code_of (resZ (z * ((10 ^ (t - s).toNat : Nat) : Int)) (10 ^ (s - t).toNat) 5) t
  obtain ⟨kg, kl, ks, kc, e4, -, k4⟩ := code_of (resZ (z * ((10 ^ (t - s).toNat : Nat) : Int)) (10 ^ (s - t).toNat) 6) t
  obtain ⟨eg, el, es, ec, e5, -, k5⟩ := code_of (resZ (z * ((10 ^ (t - s).toNat : Nat) : Int)) (10 ^ (s - t).toNat) 7) t
  refine ⟨dg, dl, ds, dc, ug, ul, us, uc, mg, ml, ms, mc, kg, kl, ks, kc, eg, el, es, ec, e1, e2, e3, e4, e5, fun z1 z2 z3 z4 z5 hts => ?_⟩
  obtain ⟨f1, rfl, rfl, rfl⟩ := k1 z1
  obtain ⟨f2, rfl, rfl, rfl⟩ := k2 z2
  obtain ⟨f3, rfl, rfl, rfl⟩ := k3 z3
  obtain ⟨f4, rfl, rfl, rfl⟩ := k4 z4
  obtain ⟨f5, rfl, rfl, rfl⟩ := k5 z5
  clear e1 e2 e3 e4 e5 k1 k2 k3 k4 k5 z1 z2 z3 z4 z5
  have hp : 0 < 10 ^ (s - t).toNat := Nat.pow_pos (by decide)
  have hpf := pow_fit (s := s) (t := t) ht.1 h1
  rw [one_pow (n := (t - s).toNat) (by omega), Int.mul_one] at *
  rw [dsub_z hb (fit_dec f1 ht.1 ht.2), dsub_z (fit_dec f2 ht.1 ht.2) hb, show max s t = s by omega, show max t s = s by omega, one_pow (n := (s - s).toNat) (by omega), Int.mul_one]
  generalize hB : 10 ^ (s - t).toNat = b at *
  have hr := Nat.mod_lt z.natAbs hp
  have D := down_off z b
  have U := up_off (X := z) hp
  unfold resZ at *
  rcases qrd_five (neg := sg z) (a := z.natAbs) (b := b) with ⟨r0, q⟩ | ⟨r0, q2, q1, q⟩
  · rw [q, q, q, q, q] at *
    have x0 : z - zof (sg z) (z.natAbs / b) * b = 0 := by omega
    have y0 : zof (sg z) (z.natAbs / b) * b - z = 0 := by omega
    rw [x0, y0]
    refine ⟨_, _, _, _, _, dmake_fit _ (by decide), dmake_fit _ (by decide), rfl, .inr (.inr ⟨?_, rfl, rfl, .inl ⟨rfl, rfl, ?_⟩⟩)⟩
    · rw [dcmp_abs (by decide) (by decide) h0 h1]; rfl
    · rw [zof_abs2]
      rcases Nat.eq_zero_or_pos (z.natAbs / b) with n0 | n0
      · left; rw [n0, L_zero]
      · right; exact ⟨_, _, L_pos n0⟩
  · rw [q2, q1] at *
    have fx : Fit (z - zof (sg z) (z.natAbs / b) * b) := by unfold Fit; omega
    have fy : Fit (zof (sg z) (z.natAbs / b + 1) * b - z) := by unfold Fit; omega
    refine ⟨_, _, _, _, _, dmake_fit _ fx, dmake_fit _ fy, dcmp_abs fx fy h0 h1, ?_⟩
    rw [D, U]
    rcases q with ⟨c, a5, a6, a7⟩ | ⟨c, a5, a6, a7⟩ | ⟨c, a5, a6, a7, a8⟩
    · rw [a5, a6, a7]
      exact .inl ⟨cmpZ_lt (by omega), rfl, rfl, rfl⟩
    · rw [a5, a6, a7]
      exact .inr (.inl ⟨cmpZ_gt (by omega), rfl, rfl, rfl⟩)
    · refine .inr (.inr ⟨cmpZ_eq (by omega), by rw [a5], by rw [a6], .inr ⟨?_, ?_⟩⟩)
      · rcases a7 with a7 | a7
        · rw [a7]; exact .inr rfl
        · rw [a7]; exact .inl rfl
      · rw [zof_abs2]
        exact even_first a8

end Go.Proofs.YthnkmjkgcnhlfaaGreatDoor
