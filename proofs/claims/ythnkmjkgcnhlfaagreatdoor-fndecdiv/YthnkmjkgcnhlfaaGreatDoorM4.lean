/- BigCmp of the program, by a contract. What is divided is the quotient as often, but for less than one step. Plain mathematics. -/
import Derived.Test.YthnkmjkgcnhlfaaGreatDoorH16
import Derived.Test.YthnkmjkgcnhlfaaGreatDoorH15
import Derived.Test.YthnkmjkgcnhlfaaGreatDoorH03
import Derived.Test.YthnkmjkgcnhlfaaGreatDoorOkA
import Derived.Deep.RegionHeld
import Derived.Test.YthnkmjkgcnhlfaaGreatDoorM1
import Derived.Test.YthnkmjkgcnhlfaaGreatDoorRqV
import Derived.Test.YthnkmjkgcnhlfaaGreatDoorK03
namespace Go.Proofs.YthnkmjkgcnhlfaaGreatDoor
open Go.RowKit
set_option maxRecDepth 100000


/-- What BigCmp answers. -/
def cmpR (p : Bool) (l : List Int) (q : Bool) (m : List Int) : Int := if okB p l = true ∧ okB q m = true then cmpZ (zv p l) (zv q m) else 2

set_option maxHeartbeats 2000000 in
theorem implBigCmp_any (w : World) (p q : Bool) (u v : Value) (l m : List Int) (hu : Reads w u l) (hv : Reads w v m) :
    Calls Tryz.prog 35 #[.agg #[.bool p, u], .agg #[.bool q, v]] w fun e w' => e = .returned (.int .i64 (cmpR p l q m)) ∧ Below w.heap.size w w' := by
  have CA := hide (fun W (h : Below w.heap.size w W) => implBigOk_any W p u l (hu.later h))
  have CB := hide (fun W (h : Below w.heap.size w W) => implBigOk_any W q v m (hv.later h))
  obtain ⟨ao, b1, off, cap, rfl, hu0⟩ := id hu
  obtain ⟨ao', b2, off', cap', rfl, hv0⟩ := id hv
  clear hu0 hv0
  by_cases ha : okB p l = true
  · rw [ha] at CA
    by_cases hb : okB q m = true
    · rw [hb] at CB
      obtain ⟨ea, la⟩ := ok_limbs ha
      obtain ⟨eb, lb⟩ := ok_limbs hb
      have hsp := ok_sign ha
      have hsq := ok_sign hb
      have Hfin := hide (by unfold cmpR; rw [if_pos ⟨ha, hb⟩] : cmpR p l q m = cmpZ (zv p l) (zv q m))
      have hua : Reads w (.slice ao l.length cap) (L (val l).toNat) := by rw [← ea]; exact hu
      have hva : Reads w (.slice ao' m.length cap') (L (val m).toNat) := by rw [← eb]; exact hv
      unfold zv at hsp hsq Hfin
      generalize (val l).toNat = a at *
      generalize (val m).toNat = b at *
      obtain ⟨z, hz⟩ : ∃ z, z = zof p a - zof q b := ⟨_, rfl⟩
      have hz' : z = zof p a + zof (!q && decide (b ≠ 0)) b := by rw [hz]; unfold zof; cases p <;> cases q <;> simp <;> split <;> omega
      have hc : cmpZ (zof p a) (zof q b) = if z < 0 then -1 else if 0 < z then 1 else 0 := by
        unfold cmpZ
        (repeat' split) <;> omega
      have C5 := hide (fun W s (h : Reads W s (L z.natAbs)) => signOf_any W s z h)
      generalize (if z < 0 then (-1 : Int) else if 0 < z then 1 else 0) = R at *
      have Hc := hide hc
      have C0 := hide (fun W (h : Below w.heap.size w W) => turned_any W q _ b (hva.later h))
      have C := hide (fun W s (h : Below w.heap.size w W) (hs : Reads W s (L b)) => sumOf_any W p (!q && decide (b ≠ 0)) _ s a b (hua.later h) hs (pow16 la (by decide)) (pow16 lb (by decide)) z hz')
      clear ha hb hu hv ea eb la lb hua hva hz hz' hsp hsq hc
      go_enter Tryz.func35, Tryz.ntmps35
      go_wp2_with fail
      refine (unhide CA _ (Bx2.start w p q _ _).below).mono ?_
      rintro e w1 ⟨rfl, b1⟩
      have K1 := (Bx2.start w p q (.slice ao l.length cap) (.slice ao' m.length cap')).later b1
      obtain ⟨kb1, ka01, ka11, kc01, kc11⟩ := id K1
      clear b1
      go_wp2_with fail
      refine (unhide CB w1 kb1).mono ?_
      rintro e w2 ⟨rfl, b2⟩
      have K2 := K1.later b2
      obtain ⟨kb2, ka02, ka12, kc02, kc12⟩ := id K2
      clear b2 ka01 ka11 kc01 kc11
      have stab : ∀ w' : World, Below w2.heap.size w2 w' → (w'.cell? ⟨w.heap.size, 0, none⟩ = some (.bool p) ∧ w'.cell? ⟨w.heap.size, 1, none⟩ = some (.slice ao l.length cap) ∧ w'.cell? ⟨w.heap.size + 1, 0, none⟩ = some (.bool q) ∧ w'.cell? ⟨w.heap.size + 1, 1, none⟩ = some (.slice ao' m.length cap')) :=
        fun w' h => ⟨cell_later h ka02, cell_later h ka12, cell_later h kc02, cell_later h kc12⟩
      have Stab := hide stab
      clear stab
      go_wp2
      generalize hqq : (!q && decide (b ≠ 0)) = qq at *
      clear hqq
      go_region_held (fun w' => w'.cell? ⟨w.heap.size, 0, none⟩ = some (.bool p) ∧ w'.cell? ⟨w.heap.size, 1, none⟩ = some (.slice ao l.length cap) ∧ w'.cell? ⟨w.heap.size + 1, 0, none⟩ = some (.bool q) ∧ w'.cell? ⟨w.heap.size + 1, 1, none⟩ = some (.slice ao' m.length cap'))
        (first | exact unhide Stab _ (Below.refl _ _).drew | (refine unhide Stab _ ?_; assumption))
        (first
          | (go_at_call 53; refine (unhide C0 _ ?_).mono ?_; exact kb2.drew; rintro e w3 ⟨v3, rfl, r3, b3⟩; have BW3 : Below w2.heap.size w2 w3 := (Below.refl _ _).drew.trans b3; have kb3 := kb2.trans (BW3.mono kb2.size))
          | (go_at_call 46; refine (unhide C _ _ ?_ ?_).mono ?_; exact kb3; exact r3; rintro e w4 ⟨ao4, cap4, rfl, o4, b4⟩; have BW4 : Below w2.heap.size w2 w4 := BW3.trans (b4.mono BW3.size))
          | (go_at_call 54; refine (unhide C5 _ _ o4.reads).mono ?_; rintro e w5 ⟨rfl, b5⟩; have BW5 : Below w2.heap.size w2 w5 := BW4.trans (b5.mono BW4.size)))
      all_goals
        go_wp2
        go_ret
        exact ⟨by rw [unhide Hfin, unhide Hc]; rfl, kb2.trans (BW5.mono kb2.size)⟩
    · have hb' : okB q m = false := by simpa using hb
      rw [hb'] at CB
      have Hfin := hide (by unfold cmpR; rw [if_neg (by simp [hb'])] : cmpR p l q m = 2)
      clear ha hb hb' hu hv
      go_enter Tryz.func35, Tryz.ntmps35
      go_wp2_with fail
      refine (unhide CA _ (Bx2.start w p q _ _).below).mono ?_
      rintro e w1 ⟨rfl, b1⟩
      have K1 := (Bx2.start w p q (.slice ao l.length cap) (.slice ao' m.length cap')).later b1
      obtain ⟨kb1, ka01, ka11, kc01, kc11⟩ := id K1
      clear b1
      go_wp2_with fail
      refine (unhide CB w1 kb1).mono ?_
      rintro e w2 ⟨rfl, b2⟩
      have K2 := K1.later b2
      obtain ⟨kb2, ka02, ka12, kc02, kc12⟩ := id K2
      clear b2 ka01 ka11 kc01 kc11
      go_wp2
      go_ret
      exact ⟨by rw [unhide Hfin]; rfl, kb2⟩
  · have ha' : okB p l = false := by simpa using ha
    rw [ha'] at CA
    have Hfin := hide (by unfold cmpR; rw [if_neg (by simp [ha'])] : cmpR p l q m = 2)
    clear ha ha' hu hv CB
    go_enter Tryz.func35, Tryz.ntmps35
    go_wp2_with fail
    refine (unhide CA _ (Bx2.start w p q _ _).below).mono ?_
    rintro e w1 ⟨rfl, b1⟩
    have K1 := (Bx2.start w p q (.slice ao l.length cap) (.slice ao' m.length cap')).later b1
    obtain ⟨kb1, ka01, ka11, kc01, kc11⟩ := id K1
    clear b1
    go_wp2
    go_ret
    exact ⟨by rw [unhide Hfin]; rfl, kb1⟩

end Go.Proofs.YthnkmjkgcnhlfaaGreatDoor

namespace Go.Proofs.YthnkmjkgcnhlfaaGreatDoor
open Go.RowKit

/-- A quotient is off by less than one, and by half of one at most where the nearer one is taken. -/
theorem qrd_near {n : Bool} {a b : Nat} {md : Int} (hb : 0 < b) (hm : 1 ≤ md ∧ md ≤ 7) :
    ((a : Int) - (qrd n a b md : Nat) * (b : Nat)).natAbs < b ∧ (5 ≤ md → 2 * ((a : Int) - (qrd n a b md : Nat) * (b : Nat)).natAbs ≤ b) := by
  have e := Nat.div_add_mod a b
  have hr := Nat.mod_lt a hb
  have hf := qrd_five (neg := n) (a := a) (b := b)
  have hor := qrd_or (neg := n) (a := a) (b := b) (m := md)
  generalize a / b = q at *
  generalize a % b = r at *
  have hqb : ((b * q : Nat) : Int) = (q : Nat) * (b : Nat) := by rw [Nat.mul_comm]; exact Int.natCast_mul q b
  have hqb1 : (((q + 1 : Nat) : Int)) * (b : Nat) = (q : Nat) * (b : Nat) + (b : Nat) := by rw [Int.natCast_add, Int.add_mul]; simp
  have m5 : 5 ≤ md → md = 5 ∨ md = 6 ∨ md = 7 := fun h => by omega
  rcases hf with ⟨h0, hq⟩ | ⟨h0, -, -, h5⟩
  · rw [hq]
    omega
  · constructor
    · rcases hor with h | ⟨h, -⟩
      · rw [h]; omega
      · rw [h, hqb1]; omega
    · intro h
      rcases m5 h with rfl | rfl | rfl
      · rcases h5 with ⟨c, h5, -, -⟩ | ⟨c, h5, -, -⟩ | ⟨c, h5, -, -, -⟩
        · rw [h5]; omega
        · rw [h5, hqb1]; omega
        · rw [h5, hqb1]; omega
      · rcases h5 with ⟨c, -, h5, -⟩ | ⟨c, -, h5, -⟩ | ⟨c, -, h5, -, -⟩
        · rw [h5]; omega
        · rw [h5, hqb1]; omega
        · rw [h5]; omega
      · rcases h5 with ⟨c, -, -, h5⟩ | ⟨c, -, -, h5⟩ | ⟨c, -, -, h5, -⟩
        · rw [h5]; omega
        · rw [h5, hqb1]; omega
        · rcases h5 with h5 | h5
          · rw [h5]; omega
          · rw [h5, hqb1]; omega

theorem lim16 {n : Nat} (h : n < 10 ^ 64) : (L n).length ≤ 16 := L_len_le (by rw [show (10000 : Nat) ^ 16 = 10 ^ 64 by rw [show (10000 : Nat) = 10 ^ 4 from rfl, ← Nat.pow_mul]]; exact h)

theorem pow_le12 {k : Nat} (h : k ≤ 24) : 10 ^ k ≤ 10 ^ 24 := Nat.pow_le_pow_right (by decide) h

theorem sgz_abs (z : Int) : zof (sg z) z.natAbs = z := zof_sg_abs z

theorem off_eq (a b : Int) (u v Q : Nat) : (a * (u : Int) - zof (!(sg a == sg b)) Q * b * (v : Int)).natAbs = (((a.natAbs * u : Nat) : Int) - (Q : Nat) * ((b.natAbs * v : Nat) : Int)).natAbs := by
  have e1 : ((a.natAbs * u : Nat) : Int) = (a.natAbs : Int) * u := Int.natCast_mul _ _
  have e2 : (Q : Int) * ((b.natAbs * v : Nat) : Int) = (Q : Int) * (b.natAbs : Int) * v := by rw [Int.natCast_mul, Int.mul_assoc]
  rw [e1, e2]
  clear e1 e2
  by_cases ha : a < 0
  · have ea : a = -(a.natAbs : Int) := by omega
    by_cases hb : b < 0
    · have s : (!(sg a == sg b)) = false := by simp [sg, ha, hb]
      have eb : b = -(b.natAbs : Int) := by omega
      rw [s]
      clear s ha hb
      generalize a.natAbs = A at *
      generalize b.natAbs = B at *
      subst ea eb
      unfold zof
      rw [if_neg (by simp), Int.neg_mul, Int.mul_neg, Int.neg_mul]
      omega
    · have s : (!(sg a == sg b)) = true := by simp [sg, ha, hb]
      have eb : b = (b.natAbs : Int) := by omega
      rw [s]
      clear s ha hb
      generalize a.natAbs = A at *
      generalize b.natAbs = B at *
      subst ea eb
      unfold zof
      rw [if_pos rfl, Int.neg_mul, Int.neg_mul, Int.neg_mul]
      omega
  · have ea : a = (a.natAbs : Int) := by omega
    by_cases hb : b < 0
    · have s : (!(sg a == sg b)) = true := by simp [sg, ha, hb]
      have eb : b = -(b.natAbs : Int) := by omega
      rw [s]
      clear s ha hb
      generalize a.natAbs = A at *
      generalize b.natAbs = B at *
      subst ea eb
      unfold zof
      rw [if_pos rfl, Int.neg_mul_neg]
    · have s : (!(sg a == sg b)) = false := by simp [sg, ha, hb]
      have eb : b = (b.natAbs : Int) := by omega
      rw [s]
      clear s ha hb
      generalize a.natAbs = A at *
      generalize b.natAbs = B at *
      subst ea eb
      unfold zof
      rw [if_neg (by simp)]

theorem cmp_nat {n k : Nat} (hn : (L n).length ≤ 16) (hk : (L k).length ≤ 16) : cmpR false (L n) false (L k) = cmpZ (n : Int) (k : Int) := by
  have h1 := okB_z (a := (n : Int)) (by rw [Int.natAbs_natCast]; exact hn)
  have h2 := okB_z (a := (k : Int)) (by rw [Int.natAbs_natCast]; exact hk)
  have z1 := zv_z (n : Int)
  have z2 := zv_z (k : Int)
  have e : ∀ n : Nat, sg (n : Int) = false := fun n => by unfold sg; simp
  rw [e, Int.natAbs_natCast] at h1 h2 z1 z2
  unfold cmpR
  rw [if_pos ⟨h1, h2⟩, z1, z2]

/-- What the law of division asks of its numbers. -/
theorem div_law {p q og : Bool} {l m ol : List Int} {s t sc md os : Int} (h : ddivR p l s q m t sc md = (og, ol, os, 0)) :
    os = sc ∧ (0 ≤ s ∧ s ≤ 12) ∧ (0 ≤ t ∧ t ≤ 12) ∧ (0 ≤ sc ∧ sc ≤ 12) ∧ ∃ (a b x : Int) (U V : Nat), U = 10 ^ (sc + t).toNat ∧ V = 10 ^ s.toNat ∧ p = sg a ∧ l = L a.natAbs ∧ q = sg b ∧ m = L b.natAbs ∧ og = sg x ∧ ol = L x.natAbs ∧
      (L a.natAbs).length ≤ 16 ∧ (L b.natAbs).length ≤ 16 ∧ (L x.natAbs).length ≤ 16 ∧ (L U).length ≤ 16 ∧ (L V).length ≤ 16 ∧
      (L (a * (U : Int)).natAbs).length ≤ 16 ∧ (L (x * b).natAbs).length ≤ 16 ∧ (L (x * b * (V : Int)).natAbs).length ≤ 16 ∧ (L (b * (V : Int)).natAbs).length ≤ 16 ∧
      (L (a * (U : Int) - x * b * (V : Int)).natAbs).length ≤ 16 ∧ (L ((a * (U : Int) - x * b * (V : Int)).natAbs + (a * (U : Int) - x * b * (V : Int)).natAbs)).length ≤ 16 ∧
      cmpR false (L (a * (U : Int) - x * b * (V : Int)).natAbs) false (L (b * (V : Int)).natAbs) = -1 ∧
      (5 ≤ md → ∃ c, cmpR false (L ((a * (U : Int) - x * b * (V : Int)).natAbs + (a * (U : Int) - x * b * (V : Int)).natAbs)) false (L (b * (V : Int)).natAbs) = c ∧ c ≠ 1) := by
  unfold ddivR at h
  by_cases ok : DivOk p l s q m t sc md
  case neg => rw [if_neg ok] at h; simp at h
  rw [if_pos ok] at h
  obtain ⟨h1, h2, h3, h4⟩ := ok
  obtain ⟨a, rfl, rfl, fa, a0, a1⟩ := dec_fit h1
  obtain ⟨b, rfl, rfl, fb, b0, b1⟩ := dec_fit h2
  rw [val_zD, val_zD] at h
  by_cases hb0 : b.natAbs = 0
  · rw [if_pos hb0] at h; simp at h
  rw [if_neg hb0] at h
  obtain ⟨fx, rfl, rfl, rfl⟩ := fit_of h
  have hk : 0 < b.natAbs * 10 ^ s.toNat := Nat.mul_pos (by omega) (Nat.pow_pos (by decide))
  obtain ⟨n1, n2⟩ := qrd_near (n := !(sg a == sg b)) (a := a.natAbs * 10 ^ (sc + t).toNat) hk h4
  have off := off_eq a b (10 ^ (sc + t).toNat) (10 ^ s.toNat) (qrd (!(sg a == sg b)) (a.natAbs * 10 ^ (sc + t).toNat) (b.natAbs * 10 ^ s.toNat) md)
  rw [← off] at n1 n2
  clear off hk h
  have k1 : 10 ^ (sc + t).toNat ≤ 10 ^ 24 := pow_le12 (by omega)
  have k2 : 10 ^ s.toNat ≤ 10 ^ 12 := Nat.pow_le_pow_right (by decide) (by omega)
  generalize zof (!(sg a == sg b)) (qrd (!(sg a == sg b)) (a.natAbs * 10 ^ (sc + t).toNat) (b.natAbs * 10 ^ s.toNat) md) = x at *
  refine ⟨rfl, ⟨a0, a1⟩, ⟨b0, b1⟩, h3, a, b, x, 10 ^ (sc + t).toNat, 10 ^ s.toNat, rfl, rfl, rfl, rfl, rfl, rfl, rfl, rfl, ?_⟩
  generalize 10 ^ (sc + t).toNat = U at *
  generalize 10 ^ s.toNat = V at *
  unfold Fit at *
  have e1 : (a * (U : Int)).natAbs = a.natAbs * U := by rw [Int.natAbs_mul, Int.natAbs_natCast]
  have e2 : (b * (V : Int)).natAbs = b.natAbs * V := by rw [Int.natAbs_mul, Int.natAbs_natCast]
  have e3 : (x * b).natAbs = x.natAbs * b.natAbs := Int.natAbs_mul _ _
  have m1 : a.natAbs * U ≤ 10 ^ 30 * 10 ^ 24 := Nat.mul_le_mul (by omega) k1
  have m2 : b.natAbs * V ≤ 10 ^ 30 * 10 ^ 12 := Nat.mul_le_mul (by omega) k2
  have m3 : x.natAbs * b.natAbs ≤ 10 ^ 30 * 10 ^ 30 := Nat.mul_le_mul (by omega) (by omega)
  rw [← e1] at m1
  rw [← e2] at m2 n1 n2
  rw [← e3] at m3
  have l1 := lim16 (n := (a * (U : Int)).natAbs) (Nat.lt_of_le_of_lt m1 (by decide))
  have l2 := lim16 (n := (b * (V : Int)).natAbs) (Nat.lt_of_le_of_lt m2 (by decide))
  have l3 := lim16 (n := (x * b).natAbs) (Nat.lt_of_le_of_lt m3 (by decide))
  have l4 := lim16 (n := (a * (U : Int) - x * b * (V : Int)).natAbs) (by omega)
  have l5 := lim16 (n := (x * b * (V : Int)).natAbs) (by omega)
  have l6 := lim16 (n := (a * (U : Int) - x * b * (V : Int)).natAbs + (a * (U : Int) - x * b * (V : Int)).natAbs) (by omega)
  refine ⟨lim16 (by omega), lim16 (by omega), lim16 (by omega), lim16 (by omega), lim16 (by omega), l1, l3, l5, l2, l4, l6, ?_, fun h5 => ⟨_, rfl, ?_⟩⟩
  · rw [cmp_nat l4 l2]
    exact cmpZ_lt (by omega)
  · rw [cmp_nat l6 l2]
    have := n2 h5
    unfold cmpZ
    split
    · decide
    · split
      · omega
      · decide

end Go.Proofs.YthnkmjkgcnhlfaaGreatDoor
