/- What is divided is the quotient as often, but for less than one step. Plain mathematics. -/
import Derived.Test.YthnkmjkgcnhlfaaGreatDoorNumN
import Derived.Test.YthnkmjkgcnhlfaaGreatDoorRqV
import Derived.Test.YthnkmjkgcnhlfaaGreatDoorNumA
import Derived.Test.YthnkmjkgcnhlfaaGreatDoorK03
import Derived.Test.YthnkmjkgcnhlfaaGreatDoorCmI
namespace Go.Proofs.YthnkmjkgcnhlfaaGreatDoor
open Go.RowKit

/-- A quotient is off by less than one, and by half of one at most where the nearer one is taken. -/
theorem qrd_near {n : Bool} {a b : Nat} {md : Int} (hb : 0 < b) (hm : 1 ≤ md ∧ md ≤ 7) :
    ((a : Int) - (qrd n a b md : Nat) * (b : Nat)).natAbs < b ∧ (5 ≤ md → 2 * ((a : Int) - (qrd n a b md : Nat) * (b : Nat)).natAbs ≤ b) := by
  have e := Nat.div_add_mod a b
  have hr := Nat.mod_lt a hb
  have hf := qrd_five (neg := n) (a := a) (b := b)
  have hor := qrd_or (neg := n) (a := a) (b := b) (m := md)
  generalize a / b = q at *
  generalize a % b = r at *
  have hqb : ((b * q : Nat) : Int) = (q : Nat) * (b : Nat) := by rw [Nat.mul_comm]; exact Int.natCast_mul q b
  have hqb1 : (((q + 1 : Nat) : Int)) * (b : Nat) = (q : Nat) * (b : Nat) + (b : Nat) := by rw [Int.natCast_add, Int.add_mul]; simp
  have m5 : 5 ≤ md → md = 5 ∨ md = 6 ∨ md = 7 := fun h => by omega
  rcases hf with ⟨h0, hq⟩ | ⟨h0, -, -, h5⟩
  · rw [hq]
    omega
  · constructor
    · rcases hor with h | ⟨h, -⟩
      · rw [h]; omega
      · rw [h, hqb1]; omega
    · intro h
      rcases m5 h with rfl | rfl | rfl
      · rcases h5 with ⟨c, h5, -, -⟩ | ⟨c, h5, -, -⟩ | ⟨c, h5, -, -, -⟩
        · rw [h5]; omega
        · rw [h5, hqb1]; omega
        · rw [h5, hqb1]; omega
      · rcases h5 with ⟨c, -, h5, -⟩ | ⟨c, -, h5, -⟩ | ⟨c, -, h5, -, -⟩
        · rw [h5]; omega
        · rw [h5, hqb1]; omega
        · rw [h5]; omega
      · rcases h5 with ⟨c, -, -, h5⟩ | ⟨c, -, -, h5⟩ | ⟨c, -, -, h5, -⟩
        · rw [h5]; omega
        · rw [h5, hqb1]; omega
        · rcases h5 with h5 | h5
          · rw [h5]; omega
          · rw [h5, hqb1]; omega

theorem lim16 {n : Nat} (h : n < 10 ^ 64) : (L n).length ≤ 16 := L_len_le (by rw [show (10000 : Nat) ^ 16 = 10 ^ 64 by rw [show (10000 : Nat) = 10 ^ 4 from rfl, ← Nat.pow_mul]]; exact h)

theorem pow_le12 {k : Nat} (h : k ≤ 24) : 10 ^ k ≤ 10 ^ 24 := Nat.pow_le_pow_right (by decide) h

theorem sgz_abs (z : Int) : zof (sg z) z.natAbs = z := zof_sg_abs z

theorem off_eq (a b : Int) (u v Q : Nat) : (a * (u : Int) - zof (!(sg a == sg b)) Q * b * (v : Int)).natAbs = (((a.natAbs * u : Nat) : Int) - (Q : Nat) * ((b.natAbs * v : Nat) : Int)).natAbs := by
  have e1 : ((a.natAbs * u : Nat) : Int) = (a.natAbs : Int) * u := Int.natCast_mul _ _
  have e2 : (Q : Int) * ((b.natAbs * v : Nat) : Int) = (Q : Int) * (b.natAbs : Int) * v := by rw [Int.natCast_mul, Int.mul_assoc]
  rw [e1, e2]
  clear e1 e2
  by_cases ha : a < 0
  · have ea : a = -(a.natAbs : Int) := by omega
    by_cases hb : b < 0
    · have s : (!(sg a == sg b)) = false := by simp [sg, ha, hb]
      have eb : b = -(b.natAbs : Int) := by omega
      rw [s]
      clear s ha hb
      generalize a.natAbs = A at *
      generalize b.natAbs = B at *
      subst ea eb
      unfold zof
      rw [if_neg (by simp), Int.neg_mul, Int.mul_neg, Int.neg_mul]
      omega
    · have s : (!(sg a == sg b)) = true := by simp [sg, ha, hb]
      have eb : b = (b.natAbs : Int) := by omega
      rw [s]
      clear s ha hb
      generalize a.natAbs = A at *
      generalize b.natAbs = B at *
      subst ea eb
      unfold zof
      rw [if_pos rfl, Int.neg_mul, Int.neg_mul, Int.neg_mul]
      omega
  · have ea : a = (a.natAbs : Int) := by omega
    by_cases hb : b < 0
    · have s : (!(sg a == sg b)) = true := by simp [sg, ha, hb]
      have eb : b = -(b.natAbs : Int) := by omega
      rw [s]
      clear s ha hb
      generalize a.natAbs = A at *
      generalize b.natAbs = B at *
      subst ea eb
      unfold zof
      rw [if_pos rfl, Int.neg_mul_neg]
    · have s : (!(sg a == sg b)) = false := by simp [sg, ha, hb]
      have eb : b = (b.natAbs : Int) := by omega
      rw [s]
      clear s ha hb
      generalize a.natAbs = A at *
      generalize b.natAbs = B at *
      subst ea eb
      unfold zof
      rw [if_neg (by simp)]

theorem cmp_nat {n k : Nat} (hn : (L n).length ≤ 16) (hk : (L k).length ≤ 16) : cmpR false (L n) false (L k) = cmpZ (n : Int) (k : Int) := by
  have h1 := okB_z (a := (n : Int)) (by rw [Int.natAbs_natCast]; exact hn)
  have h2 := okB_z (a := (k : Int)) (by rw [Int.natAbs_natCast]; exact hk)
  have z1 := zv_z (n : Int)
  have z2 := zv_z (k : Int)
  have e : ∀ n : Nat, sg (n : Int) = false := fun n => by unfold sg; simp
  rw [e, Int.natAbs_natCast] at h1 h2 z1 z2
  unfold cmpR
  rw [if_pos ⟨h1, h2⟩, z1, z2]

/-- What the law of division asks of its numbers. -/
theorem div_law {p q og : Bool} {l m ol : List Int} {s t sc md os : Int} (h : ddivR p l s q m t sc md = (og, ol, os, 0)) :
    os = sc ∧ (0 ≤ s ∧ s ≤ 12) ∧ (0 ≤ t ∧ t ≤ 12) ∧ (0 ≤ sc ∧ sc ≤ 12) ∧ ∃ (a b x : Int) (U V : Nat), U = 10 ^ (sc + t).toNat ∧ V = 10 ^ s.toNat ∧ p = sg a ∧ l = L a.natAbs ∧ q = sg b ∧ m = L b.natAbs ∧ og = sg x ∧ ol = L x.natAbs ∧
      (L a.natAbs).length ≤ 16 ∧ (L b.natAbs).length ≤ 16 ∧ (L x.natAbs).length ≤ 16 ∧ (L U).length ≤ 16 ∧ (L V).length ≤ 16 ∧
      (L (a * (U : Int)).natAbs).length ≤ 16 ∧ (L (x * b).natAbs).length ≤ 16 ∧ (L (x * b * (V : Int)).natAbs).length ≤ 16 ∧ (L (b * (V : Int)).natAbs).length ≤ 16 ∧
      (L (a * (U : Int) - x * b * (V : Int)).natAbs).length ≤ 16 ∧ (L ((a * (U : Int) - x * b * (V : Int)).natAbs + (a * (U : Int) - x * b * (V : Int)).natAbs)).length ≤ 16 ∧
      cmpR false (L (a * (U : Int) - x * b * (V : Int)).natAbs) false (L (b * (V : Int)).natAbs) = -1 ∧
      (5 ≤ md → ∃ c, cmpR false (L ((a * (U : Int) - x * b * (V : Int)).natAbs + (a * (U : Int) - x * b * (V : Int)).natAbs)) false (L (b * (V : Int)).natAbs) = c ∧ c ≠ 1) := by
  unfold ddivR at h
  by_cases ok : DivOk p l s q m t sc md
  case neg => rw [if_neg ok] at h; simp at h
  rw [if_pos ok] at h
  obtain ⟨h1, h2, h3, h4⟩ := ok
  obtain ⟨a, rfl, rfl, fa, a0, a1⟩ := dec_fit h1
  obtain ⟨b, rfl, rfl, fb, b0, b1⟩ := dec_fit h2
  rw [val_zD, val_zD] at h
  by_cases hb0 : b.natAbs = 0
  · rw [if_pos hb0] at h; simp at h
  rw [if_neg hb0] at h
  obtain ⟨fx, rfl, rfl, rfl⟩ := fit_of h
  have hk : 0 < b.natAbs * 10 ^ s.toNat := Nat.mul_pos (by omega) (Nat.pow_pos (by decide))
  obtain ⟨n1, n2⟩ := qrd_near (n := !(sg a == sg b)) (a := a.natAbs * 10 ^ (sc + t).toNat) hk h4
  have off := off_eq a b (10 ^ (sc + t).toNat) (10 ^ s.toNat) (qrd (!(sg a == sg b)) (a.natAbs * 10 ^ (sc + t).toNat) (b.natAbs * 10 ^ s.toNat) md)
  rw [← off] at n1 n2
  clear off hk h
  have k1 : 10 ^ (sc + t).toNat ≤ 10 ^ 24 := pow_le12 (by omega)
  have k2 : 10 ^ s.toNat ≤ 10 ^ 12 := Nat.pow_le_pow_right (by decide) (by omega)
  generalize zof (!(sg a == sg b)) (qrd (!(sg a == sg b)) (a.natAbs * 10 ^ (sc + t).toNat) (b.natAbs * 10 ^ s.toNat) md) = x at *
  refine ⟨rfl, ⟨a0, a1⟩, ⟨b0, b1⟩, h3, a, b, x, 10 ^ (sc + t).toNat, 10 ^ s.toNat, rfl, rfl, rfl, rfl, rfl, rfl, rfl, rfl, ?_⟩
  generalize 10 ^ (sc + t).toNat = U at *
  generalize 10 ^ s.toNat = V at *
  unfold Fit at *
  have e1 : (a * (U : Int)).natAbs = a.natAbs * U := by rw [Int.natAbs_mul, Int.natAbs_natCast]
  have e2 : (b * (V : Int)).natAbs = b.natAbs * V := by rw [Int.natAbs_mul, Int.natAbs_natCast]
  have e3 : (x * b).natAbs = x.natAbs * b.natAbs := Int.natAbs_mul _ _
  have m1 : a.natAbs * U ≤ 10 ^ 30 * 10 ^ 24 := Nat.mul_le_mul (by omega) k1
  have m2 : b.natAbs * V ≤ 10 ^ 30 * 10 ^ 12 := Nat.mul_le_mul (by omega) k2
  have m3 : x.natAbs * b.natAbs ≤ 10 ^ 30 * 10 ^ 30 := Nat.mul_le_mul (by omega) (by omega)
  rw [← e1] at m1
  rw [← e2] at m2 n1 n2
  rw [← e3] at m3
  have l1 := lim16 (n := (a * (U : Int)).natAbs) (Nat.lt_of_le_of_lt m1 (by decide))
  have l2 := lim16 (n := (b * (V : Int)).natAbs) (Nat.lt_of_le_of_lt m2 (by decide))
  have l3 := lim16 (n := (x * b).natAbs) (Nat.lt_of_le_of_lt m3 (by decide))
  have l4 := lim16 (n := (a * (U : Int) - x * b * (V : Int)).natAbs) (by omega)
  have l5 := lim16 (n := (x * b * (V : Int)).natAbs) (by omega)
  have l6 := lim16 (n := (a * (U : Int) - x * b * (V : Int)).natAbs + (a * (U : Int) - x * b * (V : Int)).natAbs) (by omega)
  refine ⟨lim16 (by omega), lim16 (by omega), lim16 (by omega), lim16 (by omega), lim16 (by omega), l1, l3, l5, l2, l4, l6, ?_, fun h5 => ⟨_, rfl, ?_⟩⟩
  · rw [cmp_nat l4 l2]
    exact cmpZ_lt (by omega)
  · rw [cmp_nat l6 l2]
    have := n2 h5
    unfold cmpZ
    split
    · decide
    · split
      · omega
      · decide

end Go.Proofs.YthnkmjkgcnhlfaaGreatDoor
