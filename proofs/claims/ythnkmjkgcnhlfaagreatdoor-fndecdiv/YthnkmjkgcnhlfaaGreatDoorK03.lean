/- Numbers by their signs and limbs. A product of a sum. Plain mathematics. A product in either order, by one and by nothing. Plain mathematics. -/
import Derived.Test.YthnkmjkgcnhlfaaGreatDoorK06
import Derived.Test.YthnkmjkgcnhlfaaGreatDoorK00
import Derived.Test.YthnkmjkgcnhlfaaGreatDoorRqM
namespace Go.Proofs.YthnkmjkgcnhlfaaGreatDoor
open Go.RowKit

theorem okB_z {a : Int} (h : (L a.natAbs).length ≤ 16) : okB (sg a) (L a.natAbs) = true := by
  refine okB_true ⟨h, L_lim _, fun e => ?_, L_last _⟩
  have : a.natAbs = 0 := L_len_zero.1 (by rw [e]; rfl)
  unfold sg
  simp
  omega

theorem zv_z (a : Int) : zv (sg a) (L a.natAbs) = a := by
  unfold zv zof sg
  rw [val_L, Int.toNat_natCast]
  by_cases h : a < 0 <;> simp [h] <;> omega

end Go.Proofs.YthnkmjkgcnhlfaaGreatDoor

namespace Go.Proofs.YthnkmjkgcnhlfaaGreatDoor
open Go.RowKit

theorem dmul_z {z x s t : Int} (h : decB (sg z) (L z.natAbs) s = true) (k : decB (sg x) (L x.natAbs) t = true) :
    dmulR (sg z) (L z.natAbs) s (sg x) (L x.natAbs) t = dmake (resZ (z * x) (10 ^ (s + t - min (s + t) 12).toNat) 7) (min (s + t) 12) := by
  unfold dmulR
  rw [if_pos ⟨h, k⟩, val_zD, val_zD, zof_sg_abs, zof_sg_abs]

theorem dmul_small {z x s t : Int} (h : decB (sg z) (L z.natAbs) s = true) (k : decB (sg x) (L x.natAbs) t = true) (hst : s + t ≤ 12) :
    dmulR (sg z) (L z.natAbs) s (sg x) (L x.natAbs) t = dmake (z * x) (s + t) := by
  rw [dmul_z h k, show min (s + t) 12 = s + t by omega, show (s + t - (s + t)).toNat = 0 by omega, Nat.pow_zero, resZ_one]

theorem fit_of {Y t : Int} {g : Bool} {l : List Int} {s : Int} (h : dmake Y t = (g, l, s, 0)) : Fit Y ∧ g = sg Y ∧ l = L Y.natAbs ∧ t = s := by
  by_cases f : Fit Y
  · rw [dmake_fit _ f] at h
    simp only [Prod.mk.injEq] at h
    exact ⟨f, h.1.symm, h.2.1.symm, h.2.2.1⟩
  · rw [dmake_not _ f] at h
    simp at h

theorem mulsum_law {pa pb pc xg yg sg0 zg bg : Bool} {la lb lc xl yl sl zl bl : List Int} {sa sb sc xs ys ss zs bs : Int} (h1 : dmulR pa la sa pb lb sb = (xg, xl, xs, 0)) (h2 : dmulR pa la sa pc lc sc = (yg, yl, ys, 0)) (h3 : daddR pb lb sb pc lc sc = (sg0, sl, ss, 0))
    (h4 : dmulR pa la sa sg0 sl ss = (zg, zl, zs, 0)) (h5 : daddR xg xl xs yg yl ys = (bg, bl, bs, 0)) (ka : sa ≤ 6) (kb : sb ≤ 6) (kc : sc ≤ 6) : dcmpR zg zl zs bg bl bs = 0 := by
  by_cases o1 : decB pa la sa = true ∧ decB pb lb sb = true
  case neg => rw [dmul_no o1] at h1; simp at h1
  by_cases o2 : decB pa la sa = true ∧ decB pc lc sc = true
  case neg => rw [dmul_no o2] at h2; simp at h2
  obtain ⟨a, rfl, rfl, -, a0, a1⟩ := dec_fit o1.1
  obtain ⟨b, rfl, rfl, -, b0, b1⟩ := dec_fit o1.2
  obtain ⟨c, rfl, rfl, -, c0, c1⟩ := dec_fit o2.2
  rw [dmul_small o1.1 o1.2 (by omega)] at h1
  rw [dmul_small o1.1 o2.2 (by omega)] at h2
  rw [dadd_z o1.2 o2.2] at h3
  obtain ⟨f1, rfl, rfl, rfl⟩ := fit_of h1
  obtain ⟨f2, rfl, rfl, rfl⟩ := fit_of h2
  obtain ⟨f3, rfl, rfl, rfl⟩ := fit_of h3
  rw [dmul_small o1.1 (fit_dec f3 (by omega) (by omega)) (by omega)] at h4
  rw [dadd_z (fit_dec f1 (by omega) (by omega)) (fit_dec f2 (by omega) (by omega))] at h5
  obtain ⟨f4, rfl, rfl, rfl⟩ := fit_of h4
  obtain ⟨f5, rfl, rfl, rfl⟩ := fit_of h5
  have e : a * (b * ((10 ^ (max sb sc - sb).toNat : Nat) : Int) + c * ((10 ^ (max sb sc - sc).toNat : Nat) : Int)) = a * b * ((10 ^ (max (sa + sb) (sa + sc) - (sa + sb)).toNat : Nat) : Int) + a * c * ((10 ^ (max (sa + sb) (sa + sc) - (sa + sc)).toNat : Nat) : Int) := by
    rw [show (max (sa + sb) (sa + sc) - (sa + sb)).toNat = (max sb sc - sb).toNat by omega, show (max (sa + sb) (sa + sc) - (sa + sc)).toNat = (max sb sc - sc).toNat by omega, Int.mul_add, Int.mul_assoc, Int.mul_assoc]
  rw [dcmp_z (fit_dec f4 (by omega) (by omega)) (fit_dec f5 (by omega) (by omega)), e, one_pow (n := (max (sa + sb) (sa + sc) - (sa + max sb sc)).toNat) (by omega), one_pow (n := (sa + max sb sc - max (sa + sb) (sa + sc)).toNat) (by omega)]
  exact cmpZ_eq rfl

end Go.Proofs.YthnkmjkgcnhlfaaGreatDoor

namespace Go.Proofs.YthnkmjkgcnhlfaaGreatDoor
open Go.RowKit

theorem mk_code (Y t : Int) : (Fit Y ∧ dmake Y t = (sg Y, L Y.natAbs, t, 0)) ∨ dmake Y t = (false, [], 0, 3) := by
  by_cases h : Fit Y
  · exact .inl ⟨h, dmake_fit _ h⟩
  · exact .inr (dmake_not _ h)

theorem mul_law {p q og : Bool} {l m ol : List Int} {s t os on : Int} (h : dmulR p l s q m t = (og, ol, os, on)) (hn : on ≠ 1) :
    (on = 0 ∨ on = 3) ∧ dmulR q m t p l s = (og, ol, os, on) ∧ dmulR p l s false [1] 0 = (p, l, s, 0) ∧ dmulR p l s false [] 0 = (false, [], s, 0) ∧
      (on = 0 → os = min (s + t) 12) ∧ (0 ≤ s ∧ s ≤ 12) ∧ 0 ≤ t ∧ t ≤ 12 := by
  by_cases o1 : decB p l s = true ∧ decB q m t = true
  case neg =>
    rw [dmul_no o1] at h
    simp only [Prod.mk.injEq] at h
    exact absurd h.2.2.2.symm hn
  obtain ⟨a, rfl, rfl, fa, a0, a1⟩ := dec_fit o1.1
  obtain ⟨b, rfl, rfl, fb, b0, b1⟩ := dec_fit o1.2
  have hone := dmul_z o1.1 (fit_dec (show Fit 1 by decide) (show (0 : Int) ≤ 0 by omega) (by omega))
  rw [show sg (1 : Int) = false from rfl, show L (1 : Int).natAbs = [1] from L1, Int.add_zero, show min s 12 = s by omega, show (s - s).toNat = 0 by omega, Nat.pow_zero, resZ_one, Int.mul_one, dmake_fit _ fa] at hone
  have hnil := dmul_z o1.1 (fit_dec (show Fit 0 by decide) (show (0 : Int) ≤ 0 by omega) (by omega))
  rw [zero_z.1, zero_z.2, Int.add_zero, show min s 12 = s by omega, show (s - s).toNat = 0 by omega, Nat.pow_zero, resZ_one, Int.mul_zero, dmake_fit _ (show Fit 0 by decide), zero_z.1, zero_z.2] at hnil
  rw [dmul_z o1.1 o1.2] at h
  have hr := dmul_z o1.2 o1.1
  rw [Int.mul_comm b a, Int.add_comm t s, h] at hr
  refine ⟨?_, hr, hone, hnil, ?_, ⟨a0, a1⟩, b0, b1⟩
  · rcases mk_code (resZ (a * b) (10 ^ (s + t - min (s + t) 12).toNat) 7) (min (s + t) 12) with ⟨-, e⟩ | e
    · rw [e] at h; simp only [Prod.mk.injEq] at h; exact .inl h.2.2.2.symm
    · rw [e] at h; simp only [Prod.mk.injEq] at h; exact .inr h.2.2.2.symm
  · intro h0
    subst h0
    obtain ⟨-, -, -, e⟩ := fit_of h
    exact e.symm

end Go.Proofs.YthnkmjkgcnhlfaaGreatDoor
