/- The nearer one of two steps, and the middle. Plain mathematics. -/
import Derived.Test.YthnkmjkgcnhlfaaGreatDoorNumL
namespace Go.Proofs.YthnkmjkgcnhlfaaGreatDoor
open Go.RowKit
set_option linter.unusedSimpArgs false

/-- What the ways to round take: the step towards 0 or the one away from it. -/
theorem qrd_five {neg : Bool} {a b : Nat} :
    (a % b = 0 ∧ ∀ m, qrd neg a b m = a / b) ∨
    (a % b ≠ 0 ∧ qrd neg a b 2 = a / b ∧ qrd neg a b 1 = a / b + 1 ∧
      ((a % b + a % b < b ∧ qrd neg a b 5 = a / b ∧ qrd neg a b 6 = a / b ∧ qrd neg a b 7 = a / b) ∨
       (b < a % b + a % b ∧ qrd neg a b 5 = a / b + 1 ∧ qrd neg a b 6 = a / b + 1 ∧ qrd neg a b 7 = a / b + 1) ∨
       (a % b + a % b = b ∧ qrd neg a b 5 = a / b + 1 ∧ qrd neg a b 6 = a / b ∧ (qrd neg a b 7 = a / b ∨ qrd neg a b 7 = a / b + 1) ∧ qrd neg a b 7 % 2 = 0))) := by
  by_cases h : a % b = 0
  · exact .inl ⟨h, fun m => qrd_zero h⟩
  refine .inr ⟨h, ?_, ?_, ?_⟩
  · rw [qrd_more h]; simp [moreZ]
  · rw [qrd_more h]; simp [moreZ]
  rw [qrd_more h, qrd_more h, qrd_more h]
  generalize a / b = q at *
  generalize a % b = r at *
  rcases Nat.lt_trichotomy (r + r) b with c | c | c
  · left
    have e : cmpZ ((r + r : Nat) : Int) (b : Int) = -1 := cmpZ_lt (by omega)
    refine ⟨c, ?_, ?_, ?_⟩ <;> rw [e] <;> simp [moreZ]
  · right; right
    have e : cmpZ ((r + r : Nat) : Int) (b : Int) = 0 := cmpZ_eq (by omega)
    rw [e]
    refine ⟨c, by simp [moreZ], by simp [moreZ], ?_, ?_⟩
    · by_cases o : q % 2 = 1 <;> simp [moreZ, o]
    · by_cases o : q % 2 = 1
      · simp [moreZ, o]; omega
      · simp [moreZ, o]; omega
  · right; left
    have e : cmpZ ((r + r : Nat) : Int) (b : Int) = 1 := cmpZ_gt (by omega)
    refine ⟨c, ?_, ?_, ?_⟩ <;> rw [e] <;> simp [moreZ]

theorem down_off (X : Int) (b : Nat) : (X - zof (sg X) (X.natAbs / b) * b).natAbs = X.natAbs % b := by
  have e := Nat.div_add_mod X.natAbs b
  generalize X.natAbs / b = q at *
  generalize hR : X.natAbs % b = r at *
  have hqb : ((b * q : Nat) : Int) = (q : Int) * b := by rw [Nat.mul_comm]; exact Int.natCast_mul q b
  unfold zof sg
  by_cases hX : X < 0
  · rw [if_pos (by simpa using hX), Int.neg_mul, ← hqb]; omega
  · rw [if_neg (by simpa using hX), ← hqb]; omega

theorem up_off {X : Int} {b : Nat} (hb : 0 < b) : (zof (sg X) (X.natAbs / b + 1) * b - X).natAbs = b - X.natAbs % b := by
  have e := Nat.div_add_mod X.natAbs b
  have hr := Nat.mod_lt X.natAbs hb
  generalize X.natAbs / b = q at *
  generalize hR : X.natAbs % b = r at *
  have hqb1 : ((b * q + b : Nat) : Int) = ((q + 1 : Nat) : Int) * b := by rw [← Int.natCast_mul, Nat.add_mul, Nat.mul_comm, Nat.one_mul]
  unfold zof sg
  by_cases hX : X < 0
  · rw [if_pos (by simpa using hX), Int.neg_mul, ← hqb1]; omega
  · rw [if_neg (by simpa using hX), ← hqb1]; omega

theorem pow_fit {s t : Int} (ht : 0 ≤ t) (hs : s ≤ 12) : 10 ^ (s - t).toNat < 10 ^ 30 := Nat.pow_lt_pow_right (by decide) (by omega)

/-- Two numbers without their signs, compared. -/
theorem dcmp_abs {x y s : Int} (hx : Fit x) (hy : Fit y) (h0 : 0 ≤ s) (h1 : s ≤ 12) : dcmpR false (L x.natAbs) s false (L y.natAbs) s = cmpZ (x.natAbs : Int) (y.natAbs : Int) := by
  have a := fit_dec (z := (x.natAbs : Int)) (s := s) (by unfold Fit at *; omega) h0 h1
  have b := fit_dec (z := (y.natAbs : Int)) (s := s) (by unfold Fit at *; omega) h0 h1
  have e : ∀ n : Nat, sg (n : Int) = false := fun n => by unfold sg; simp
  have k := dcmp_z a b
  rw [e, e, Int.natAbs_natCast, Int.natAbs_natCast, one_pow (n := (s - s).toNat) (by omega), Int.mul_one, Int.mul_one] at k
  exact k

theorem even_first {n : Nat} (h : n % 2 = 0) : L n = [] ∨ ∃ (x : Nat) (r : List Int), L n = (x : Int) :: r ∧ x % 2 = 0 := by
  rcases Nat.eq_zero_or_pos n with h0 | h0
  · left; rw [h0, L_zero]
  · right
    refine ⟨n % 10000, L (n / 10000), ?_, by omega⟩
    rw [L_pos h0]

theorem code_of (Y t : Int) : ∃ g l s c, dmake Y t = (g, l, s, c) ∧ (c = 0 ∨ c = 3) ∧ (c = 0 → Fit Y ∧ g = sg Y ∧ l = L Y.natAbs ∧ t = s) := by
  rcases dmake_code Y t with ⟨k, e⟩ | e
  · exact ⟨_, _, _, _, e, .inl rfl, fun _ => ⟨k, rfl, rfl, rfl⟩⟩
  · exact ⟨_, _, _, _, e, .inr rfl, fun k => by cases k⟩

/-- What the law of the nearer one asks of its numbers. -/
theorem half_law {p og : Bool} {l ol : List Int} {s t m os on : Int} (h : droundR p l s t m = (og, ol, os, on)) (hn : on ≠ 1) :
    ∃ dg dl ds dc ug ul us uc mg ml ms mc kg kl ks kc eg el es ec, droundR p l s t 2 = (dg, dl, ds, dc) ∧ droundR p l s t 1 = (ug, ul, us, uc) ∧ droundR p l s t 5 = (mg, ml, ms, mc) ∧ droundR p l s t 6 = (kg, kl, ks, kc) ∧ droundR p l s t 7 = (eg, el, es, ec) ∧
      (dc = 0 → uc = 0 → mc = 0 → kc = 0 → ec = 0 → t < s →
        ∃ xg xl yg yl c, dsubR p l s dg dl ds = (xg, xl, s, 0) ∧ dsubR ug ul us p l s = (yg, yl, s, 0) ∧ dcmpR false xl s false yl s = c ∧
          ((c = -1 ∧ (mg, ml, ms) = (dg, dl, ds) ∧ (kg, kl, ks) = (dg, dl, ds) ∧ (eg, el, es) = (dg, dl, ds)) ∨
           (c = 1 ∧ (mg, ml, ms) = (ug, ul, us) ∧ (kg, kl, ks) = (ug, ul, us) ∧ (eg, el, es) = (ug, ul, us)) ∨
           (c = 0 ∧ (mg, ml, ms) = (ug, ul, us) ∧ (kg, kl, ks) = (dg, dl, ds) ∧
             (((dg, dl, ds) = (ug, ul, us) ∧ (eg, el, es) = (ug, ul, us) ∧ (el = [] ∨ ∃ (x : Nat) (r : List Int), el = (x : Int) :: r)) ∨
              (((eg, el, es) = (ug, ul, us) ∨ (eg, el, es) = (dg, dl, ds)) ∧ (el = [] ∨ ∃ (x : Nat) (r : List Int), el = (x : Int) :: r ∧ x % 2 = 0)))))) := by
  by_cases hg : decB p l s = true ∧ (0 ≤ t ∧ t ≤ 12) ∧ (1 ≤ m ∧ m ≤ 7)
  case neg =>
    rw [dround_no2 hg] at h
    simp only [Prod.mk.injEq] at h
    exact absurd h.2.2.2.symm hn
  obtain ⟨hb, ht, hm⟩ := hg
  clear h hn hm
  obtain ⟨z, rfl, rfl, hf, h0, h1⟩ := dec_fit hb
  rw [dround_z hb ht (mode := 2) (by omega), dround_z hb ht (mode := 1) (by omega), dround_z hb ht (mode := 5) (by omega), dround_z hb ht (mode := 6) (by omega), dround_z hb ht (mode := 7) (by omega)]
  obtain ⟨dg, dl, ds, dc, e1, -, k1⟩ := code_of (resZ (z * ((10 ^ (t - s).toNat : Nat) : Int)) (10 ^ (s - t).toNat) 2) t
  obtain ⟨ug, ul, us, uc, e2, -, k2⟩ := code_of (resZ (z * ((10 ^ (t - s).toNat : Nat) : Int)) (10 ^ (s - t).toNat) 1) t
  obtain ⟨mg, ml, ms, mc, e3, -, k3⟩ := code_of (resZ (z * ((10 ^ (t - s).toNat : Nat) : Int)) (10 ^ (s - t).toNat) 5) t
  obtain ⟨kg, kl, ks, kc, e4, -, k4⟩ := code_of (resZ (z * ((10 ^ (t - s).toNat : Nat) : Int)) (10 ^ (s - t).toNat) 6) t
  obtain ⟨eg, el, es, ec, e5, -, k5⟩ := code_of (resZ (z * ((10 ^ (t - s).toNat : Nat) : Int)) (10 ^ (s - t).toNat) 7) t
  refine ⟨dg, dl, ds, dc, ug, ul, us, uc, mg, ml, ms, mc, kg, kl, ks, kc, eg, el, es, ec, e1, e2, e3, e4, e5, fun z1 z2 z3 z4 z5 hts => ?_⟩
  obtain ⟨f1, rfl, rfl, rfl⟩ := k1 z1
  obtain ⟨f2, rfl, rfl, rfl⟩ := k2 z2
  obtain ⟨f3, rfl, rfl, rfl⟩ := k3 z3
  obtain ⟨f4, rfl, rfl, rfl⟩ := k4 z4
  obtain ⟨f5, rfl, rfl, rfl⟩ := k5 z5
  clear e1 e2 e3 e4 e5 k1 k2 k3 k4 k5 z1 z2 z3 z4 z5
  have hp : 0 < 10 ^ (s - t).toNat := Nat.pow_pos (by decide)
  have hpf := pow_fit (s := s) (t := t) ht.1 h1
  rw [one_pow (n := (t - s).toNat) (by omega), Int.mul_one] at *
  rw [dsub_z hb (fit_dec f1 ht.1 ht.2), dsub_z (fit_dec f2 ht.1 ht.2) hb, show max s t = s by omega, show max t s = s by omega, one_pow (n := (s - s).toNat) (by omega), Int.mul_one]
  generalize hB : 10 ^ (s - t).toNat = b at *
  have hr := Nat.mod_lt z.natAbs hp
  have D := down_off z b
  have U := up_off (X := z) hp
  unfold resZ at *
  rcases qrd_five (neg := sg z) (a := z.natAbs) (b := b) with ⟨r0, q⟩ | ⟨r0, q2, q1, q⟩
  · rw [q, q, q, q, q] at *
    have x0 : z - zof (sg z) (z.natAbs / b) * b = 0 := by omega
    have y0 : zof (sg z) (z.natAbs / b) * b - z = 0 := by omega
    rw [x0, y0]
    refine ⟨_, _, _, _, _, dmake_fit _ (by decide), dmake_fit _ (by decide), rfl, .inr (.inr ⟨?_, rfl, rfl, .inl ⟨rfl, rfl, ?_⟩⟩)⟩
    · rw [dcmp_abs (by decide) (by decide) h0 h1]; rfl
    · rw [zof_abs2]
      rcases Nat.eq_zero_or_pos (z.natAbs / b) with n0 | n0
      · left; rw [n0, L_zero]
      · right; exact ⟨_, _, L_pos n0⟩
  · rw [q2, q1] at *
    have fx : Fit (z - zof (sg z) (z.natAbs / b) * b) := by unfold Fit; omega
    have fy : Fit (zof (sg z) (z.natAbs / b + 1) * b - z) := by unfold Fit; omega
    refine ⟨_, _, _, _, _, dmake_fit _ fx, dmake_fit _ fy, dcmp_abs fx fy h0 h1, ?_⟩
    rw [D, U]
    rcases q with ⟨c, a5, a6, a7⟩ | ⟨c, a5, a6, a7⟩ | ⟨c, a5, a6, a7, a8⟩
    · rw [a5, a6, a7]
      exact .inl ⟨cmpZ_lt (by omega), rfl, rfl, rfl⟩
    · rw [a5, a6, a7]
      exact .inr (.inl ⟨cmpZ_gt (by omega), rfl, rfl, rfl⟩)
    · refine .inr (.inr ⟨cmpZ_eq (by omega), by rw [a5], by rw [a6], .inr ⟨?_, ?_⟩⟩)
      · rcases a7 with a7 | a7
        · rw [a7]; exact .inr rfl
        · rw [a7]; exact .inl rfl
      · rw [zof_abs2]
        exact even_first a8

end Go.Proofs.YthnkmjkgcnhlfaaGreatDoor
