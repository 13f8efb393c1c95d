/- DecMul of the program and of the specification, by contracts. -/
import Derived.Test.YthnkmjkgcnhlfaaGreatDoorRqR
import Derived.Test.YthnkmjkgcnhlfaaGreatDoorK06
namespace Go.Proofs.YthnkmjkgcnhlfaaGreatDoor
open Go.RowKit
set_option maxRecDepth 100000

/-- What DecMul answers. -/
def dmulR (p : Bool) (l : List Int) (s : Int) (q : Bool) (m : List Int) (t : Int) : Bool × List Int × Int × Int :=
  if decB p l s = true ∧ decB q m t = true then dmake (resZ (zof p (val l).toNat * zof q (val m).toNat) (10 ^ (s + t - min (s + t) 12).toNat) 7) (min (s + t) 12) else (false, [], 0, 1)

theorem xDecMul_len (p : Bool) (l : List Int) (s : Int) (q : Bool) (m : List Int) (t : Int) : (dmulR p l s q m t).2.1.length ≤ 1000 := by
  unfold dmulR
  split
  · exact dmake_len _ _
  · simp

theorem dmul_no {p : Bool} {l : List Int} {s : Int} {q : Bool} {m : List Int} {t : Int} (h : ¬ (decB p l s = true ∧ decB q m t = true)) : dmulR p l s q m t = (false, [], 0, 1) := if_neg h

theorem mul_zof (p q : Bool) (a b : Nat) : zof p a * zof q b = zof (!(p == q)) (a * b) := by
  unfold zof
  cases p <;> cases q <;> simp [Int.neg_mul, Int.mul_neg]

theorem mul_abs (p q : Bool) (a b : Nat) : (zof p a * zof q b).natAbs = a * b := by rw [mul_zof, zof_abs2]

theorem sixteen {a b : Nat} (la : a < 10000 ^ 16) (lb : b < 10000 ^ 16) : a * b < 10000 ^ 32 := by
  rw [show (32 : Nat) = 16 + 16 from rfl, Nat.pow_add]
  exact Nat.mul_lt_mul_of_lt_of_lt la lb

/-- The sign of 0 does not count. -/
theorem res_mul (n : Bool) (N b : Nat) (mode : Int) : resZ (zof n N) b mode = zof n (qrd n N b mode) := by
  unfold resZ
  rw [zof_abs2]
  by_cases h : N = 0
  · subst h
    have e : ∀ k, qrd k 0 b mode = 0 := fun k => by rw [qrd_zero (Nat.zero_mod _), Nat.zero_div]
    rw [e, e]
    simp [zof]
  · have : sg (zof n N) = n := by
      unfold sg zof
      cases n
      · simp
      · simp; omega
    rw [this]

set_option maxHeartbeats 4000000 in
theorem implDecMul_ok (w : World) (p q : Bool) (u v : Value) (l m : List Int) (s t : Int) (hu : Reads w u l) (hv : Reads w v m) (tt : Tab w) (hd : Hd w) (ha : decB p l s = true) (hb : decB q m t = true) :
    Calls Tryz.prog 25 #[.agg #[.bool p, u, .int .i64 s], .agg #[.bool q, v, .int .i64 t]] w (GivesDecI w (dmulR p l s q m t)) := by
  have CA := hide (fun W (h : Below w.heap.size w W) => implDecOk_any W p u l s (hu.later h) (tt.later h))
  have CB := hide (fun W (h : Below w.heap.size w W) => implDecOk_any W q v m t (hv.later h) (tt.later h))
  rw [ha] at CA
  rw [hb] at CB
  obtain ⟨ao, b1, off, cap, rfl, hu0⟩ := id hu
  obtain ⟨ao', b2, off', cap', rfl, hv0⟩ := id hv
  clear hu0 hv0
  have K0 := Dx3.start w p q (.slice ao l.length cap) (.slice ao' m.length cap') s t
  obtain ⟨ha1, ha2, ha3, ha4⟩ := decB_iff.1 ha
  obtain ⟨hb1, hb2, hb3, hb4⟩ := decB_iff.1 hb
  obtain ⟨ea, la⟩ := ok_limbs (okB_true ha1)
  obtain ⟨eb, lb⟩ := ok_limbs (okB_true hb1)
  have Hfin := hide (show dmulR p l s q m t = dmake (resZ (zof p (val l).toNat * zof q (val m).toNat) (10 ^ (s + t - min (s + t) 12).toNat) 7) (min (s + t) 12) from if_pos ⟨ha, hb⟩)
  have hua : Reads w (.slice ao l.length cap) (L (val l).toNat) := by rw [← ea]; exact hu
  have hva : Reads w (.slice ao' m.length cap') (L (val m).toNat) := by rw [← eb]; exact hv
  generalize (val l).toNat = a at *
  generalize (val m).toNat = b at *
  have lab := sixteen la lb
  obtain ⟨P, hP⟩ : ∃ P, P = zof p a * zof q b := ⟨_, rfl⟩
  have CP := hide (fun W (h : Below w.heap.size w W) => productOf_any W p q _ _ a b (hua.later h) (hva.later h) (pow16 la (by decide)) (pow16 lb (by decide)) P hP)
  have bP : P.natAbs < 10000 ^ 32 := by rw [hP, mul_abs]; exact lab
  rw [← hP] at Hfin
  obtain ⟨e, he⟩ : ∃ e, e = s + t := ⟨_, rfl⟩
  obtain ⟨g, hg⟩ : ∃ g, g = min e 12 := ⟨_, rfl⟩
  rw [← he, ← hg] at Hfin
  obtain ⟨D, hD⟩ : ∃ D, D = resZ P (10 ^ (e - g).toNat) 7 := ⟨_, rfl⟩
  have hD2 : D = resZ (zof (sg P) (P.natAbs * 10 ^ (g - e).toNat)) (10 ^ (e - g).toNat) 7 := by rw [show (g - e).toNat = 0 by omega, Nat.pow_zero, Nat.mul_one, zof_sg_abs]; exact hD
  have CR := hide (fun W x (hx : Reads W x (L P.natAbs)) => rescaled_any W (sg P) x P.natAbs e g 7 hx (by omega) (by omega) (by omega) (by omega) (Nat.lt_of_lt_of_le bP (Nat.pow_le_pow_right (by decide) (by decide))) (by omega) (by omega) D hD2)
  have bD : (L D.natAbs).length ≤ 1000 := by rw [hD]; exact res_len (Nat.lt_of_lt_of_le bP (Nat.pow_le_pow_right (by decide) (by decide)))
  rw [← hD] at Hfin
  have HE1 := hide he
  have HG := hide hg
  have hgb : g ≤ 12 ∧ 0 ≤ g := by omega
  clear ha1 ha2 hb1 hb2 ha hb hu hv ea eb la lb hua hva hP bP lab hD hD2 hg he
  go_enter Tryz.func25, Tryz.ntmps25
  go_wp2_with fail
  refine (unhide CA _ K0.below).mono ?_
  rintro e w1 ⟨rfl, b1⟩
  have K1 := K0.later b1
  obtain ⟨kb1, ka01, ka11, ka21, kc01, kc11, kc21, -, -, -, -, -, -, -⟩ := id K1
  clear b1
  go_wp2_with fail
  refine (unhide CB w1 kb1).mono ?_
  rintro e w2 ⟨rfl, b2⟩
  have K2 := K1.later b2
  obtain ⟨kb2, ka02, ka12, ka22, kc02, kc12, kc22, -, -, -, -, -, -, -⟩ := id K2
  clear b2 ka01 ka11 ka21 kc01 kc11 kc21
  go_wp2_with fail
  refine (unhide CP w2 kb2).mono ?_
  rintro e w3 ⟨aq, cq, rfl, oq, b3⟩
  rw [← unhide HE1, ← unhide HG]
  have K3 := K2.later b3
  clear b3 ka02 ka12 ka22 kc02 kc12 kc22
  go_wp2_with fail
  refine (unhide CR w3 _ oq.reads).mono ?_
  rintro e w6 ⟨ab, cb, rfl, oD0, b6⟩
  have K6 := K3.later b6
  have K7 := K6.later ((Below.refl _ _).alloc (Nat.le_refl _) (.cells #[.bool (sg D), .slice ab (L D.natAbs).length cb] 25))
  have oD := oD0.later ((Below.refl _ _).alloc (Nat.le_refl _) (.cells #[.bool (sg D), .slice ab (L D.natAbs).length cb] 25))
  have kb3 := K7.below
  have hl3 := K3.lt
  clear K0 K1 K2 K3 K6 oD0 b6 CA CB CP CR oq
  by_cases hD : (txtL (L D.natAbs)).length ≤ 30
  · have F := fitted_fine _ (sg D) _ (L D.natAbs) g oD.reads (L_lim _) bD hD (tt.later kb3)
    have HE := hide (show dmake D g = (sg D, L D.natAbs, g, 0) from if_pos hD)
    have HF := hide F
    clear F hD
    go_wp2_with fail
    refine (unhide HF).mono ?_
    rintro e w4 ⟨rfl, b4⟩
    have K4 := K7.later b4
    go_wp2_with fail
    refine (coded_fine w4 _ _ _ _ _).mono ?_
    rintro e w5 ⟨rfl, b5⟩
    have K5 := K4.later b5
    obtain ⟨kb5, -, -, -, -, -, -, kd50, kd51, kd52, kf50, kf51, kf52, kl5⟩ := id K5
    have o5 := (oD.later b4).later b5
    clear K7 K4 K5 b4 b5
    go_wp2
    refine bodyPost_ret (v := .tuple #[.agg #[.bool (sg D), .slice ab (L D.natAbs).length cb, .int .i64 g], .int .i64 0]) (by simp [results, Tryz.results25, go_sem, kd50, kd51, kd52]) rfl ?_
    rw [unhide Hfin, unhide HE]
    refine ⟨ab, cb, rfl, ?_, ((kb5.setCell (by simp; omega) _).setCell (by simp; omega) _).setCell (by simp; omega) _⟩
    exact (((o5.setBelow (by simp <;> omega) _).setBelow (by simp <;> omega) _).setBelow (by simp <;> omega) _).mono (by omega)
  · have F := fitted_long _ (sg D) _ (L D.natAbs) g oD.reads (L_lim _) bD hD (tt.later kb3)
    have HE := hide (show dmake D g = (false, [], 0, 3) from if_neg hD)
    have HF := hide F
    clear F hD
    go_wp2_with fail
    refine (unhide HF).mono ?_
    rintro e w4 ⟨rfl, b4⟩
    have K4 := K7.later b4
    go_wp2_with fail
    refine (coded_long w4 _ _ _ _ _ _ _ (hd.later K4.below)).mono ?_
    rintro e w5 ⟨rfl, b5⟩
    have K5 := K4.later b5
    obtain ⟨kb5, -, -, -, -, -, -, kd50, kd51, kd52, kf50, kf51, kf52, kl5⟩ := id K5
    clear K7 K4 K5 b4 b5
    go_wp2
    refine bodyPost_ret (v := .tuple #[.agg #[.bool false, .slice none 0 0, .int .i64 0], .int .i64 3]) (by simp [results, Tryz.results25, go_sem, kd50, kd51, kd52]) rfl ?_
    rw [unhide Hfin, unhide HE]
    exact ⟨none, 0, rfl, Own.nil _ _, ((kb5.setCell (by simp; omega) _).setCell (by simp; omega) _).setCell (by simp; omega) _⟩

set_option maxHeartbeats 4000000 in
theorem implDecMul_no (w : World) (p q : Bool) (u v : Value) (l m : List Int) (s t : Int) (hu : Reads w u l) (hv : Reads w v m) (tt : Tab w) (h : ¬ (decB p l s = true ∧ decB q m t = true)) :
    Calls Tryz.prog 25 #[.agg #[.bool p, u, .int .i64 s], .agg #[.bool q, v, .int .i64 t]] w (GivesDecI w (dmulR p l s q m t)) := by
  have CA := hide (fun W (h : Below w.heap.size w W) => implDecOk_any W p u l s (hu.later h) (tt.later h))
  have CB := hide (fun W (h : Below w.heap.size w W) => implDecOk_any W q v m t (hv.later h) (tt.later h))
  obtain ⟨ao, b1, off, cap, rfl, hu0⟩ := id hu
  obtain ⟨ao', b2, off', cap', rfl, hv0⟩ := id hv
  clear hu0 hv0
  have K0 := Dx3.start w p q (.slice ao l.length cap) (.slice ao' m.length cap') s t
  have Hfin := hide (by exact dmul_no h : dmulR p l s q m t = (false, [], 0, 1))
  cases ha : decB p l s with
  | false =>
    rw [ha] at CA
    clear ha h hu hv
    go_enter Tryz.func25, Tryz.ntmps25
    go_wp2_with fail
    refine (unhide CA _ K0.below).mono ?_
    rintro e w1 ⟨rfl, b1⟩
    have K1 := K0.later b1
    obtain ⟨kb5, -, -, -, -, -, -, kd50, kd51, kd52, kf50, kf51, kf52, kl5⟩ := id K1
    clear b1
    go_wp2
    refine bodyPost_ret (v := .tuple #[.agg #[.bool false, .slice none 0 0, .int .i64 0], .int .i64 1]) (by simp [results, Tryz.results25, go_sem, kd50, kd51, kd52]) rfl ?_
    rw [unhide Hfin]
    exact ⟨none, 0, rfl, Own.nil _ _, ((kb5.setCell (by simp; omega) _).setCell (by simp; omega) _).setCell (by simp; omega) _⟩
  | true =>
    have hb : decB q m t = false := by
      cases hb : decB q m t with
      | false => rfl
      | true => exact absurd ⟨ha, hb⟩ h
    rw [ha] at CA
    rw [hb] at CB
    clear ha hb h hu hv
    go_enter Tryz.func25, Tryz.ntmps25
    go_wp2_with fail
    refine (unhide CA _ K0.below).mono ?_
    rintro e w1 ⟨rfl, b1⟩
    have K1 := K0.later b1
    obtain ⟨kb1, ka01, ka11, ka21, kc01, kc11, kc21, -, -, -, -, -, -, -⟩ := id K1
    clear b1
    go_wp2_with fail
    refine (unhide CB w1 kb1).mono ?_
    rintro e w2 ⟨rfl, b2⟩
    have K2 := K1.later b2
    obtain ⟨kb5, -, -, -, -, -, -, kd50, kd51, kd52, kf50, kf51, kf52, kl5⟩ := id K2
    clear b2 ka01 ka11 ka21 kc01 kc11 kc21
    go_wp2
    refine bodyPost_ret (v := .tuple #[.agg #[.bool false, .slice none 0 0, .int .i64 0], .int .i64 1]) (by simp [results, Tryz.results25, go_sem, kd50, kd51, kd52]) rfl ?_
    rw [unhide Hfin]
    exact ⟨none, 0, rfl, Own.nil _ _, ((kb5.setCell (by simp; omega) _).setCell (by simp; omega) _).setCell (by simp; omega) _⟩

theorem implDecMul_any (w : World) (p q : Bool) (u v : Value) (l m : List Int) (s t : Int) (hu : Reads w u l) (hv : Reads w v m) (tt : Tab w) (hd : Hd w) :
    Calls Tryz.prog 25 #[.agg #[.bool p, u, .int .i64 s], .agg #[.bool q, v, .int .i64 t]] w (GivesDecI w (dmulR p l s q m t)) := by
  by_cases h : decB p l s = true ∧ decB q m t = true
  · exact implDecMul_ok w p q u v l m s t hu hv tt hd h.1 h.2
  · exact implDecMul_no w p q u v l m s t hu hv tt h

set_option maxHeartbeats 4000000 in
theorem l2Mul_any (w : World) (p q : Bool) (u v : Value) (a b : Nat) (s t : Int) (hu : Reads w u (L a)) (hv : Reads w v (L b)) (hs0 : 0 ≤ s) (hs : s ≤ 12) (ht0 : 0 ≤ t) (ht : t ≤ 12) (la : a < 10000 ^ 16) (lb : b < 10000 ^ 16) (O : Bool × List Int × Int × Int) (hO : O = dmake (resZ (zof p a * zof q b) (10 ^ (s + t - min (s + t) 12).toNat) 7) (min (s + t) 12)) :
    Calls Tryz.prog 64 #[.agg #[.bool p, u, .int .i64 s], .agg #[.bool q, v, .int .i64 t]] w (GivesDecI w O) := by
  have lab := sixteen la lb
  rw [mul_zof, res_mul] at hO
  have CM := hide (fun W (h : Below w.heap.size w W) => l1MulAbs_any W u v a b (hu.later h) (hv.later h) (pow16 la (by decide)) (pow16 lb (by decide)))
  obtain ⟨n, hn⟩ : ∃ n, n = (!(p == q)) := ⟨_, rfl⟩
  have HN := hide hn
  rw [← hn] at hO
  generalize a * b = P at *
  obtain ⟨ao, b1, off, cap, rfl, hu0⟩ := id hu
  obtain ⟨ao', b2, off', cap', rfl, hv0⟩ := id hv
  have K0 := Dx3.start w p q (.slice ao (L a).length cap) (.slice ao' (L b).length cap') s t
  clear hu0 hv0 hu hv la lb hn
  by_cases h12 : s + t ≤ 12
  · rw [show min (s + t) 12 = s + t by omega, show (s + t - (s + t)).toNat = 0 by omega, Nat.pow_zero, qrd_zero (Nat.mod_one _), Nat.div_one] at hO
    have Hfin := hide hO
    have bN : (L P).length ≤ 1000 := Nat.le_trans (L_len_le lab) (by decide)
    have h12' : ¬ (12 : Int) < s + t := by omega
    clear hO
    go_enter Tryz.func64, Tryz.ntmps64
    go_wp2_with fail
    refine (unhide CM _ K0.below).mono ?_
    rintro e w1 ⟨ab, cb, rfl, oN, b1⟩
    have K1 := K0.later b1
    obtain ⟨kb1, ka01, ka11, ka21, kc01, kc11, kc21, -, -, -, -, -, -, -⟩ := id K1
    have hl0 := K0.lt
    rw [← unhide HN]
    clear b1 K0
    by_cases hD : (txtL (L P)).length ≤ 30
    · have F := l2Make_fine _ n _ (L P) (s + t) oN.reads (L_lim _) bN hD
      rw [neg_zof] at F
      have HE := hide (show dmake (zof n P) (s + t) = (sg (zof n P), L P, (s + t), 0) by unfold dmake; rw [zof_abs2, if_pos hD])
      have HF := hide F
      clear F hD
      go_wp2_with fail
      refine (unhide HF).mono ?_
      rintro e w6 ⟨rfl, b6⟩
      have K6 := K1.later b6
      obtain ⟨kb6, -, -, -, -, -, -, kd50, kd51, kd52, kf50, kf51, kf52, kl5⟩ := id K6
      have o6 := oN.later b6
      clear K6 b6 oN
      go_wp2
      refine bodyPost_ret (v := .tuple #[.agg #[.bool (sg (zof n P)), .slice ab (L P).length cb, .int .i64 (s + t)], .int .i64 0]) (by simp [results, Tryz.results64, go_sem, kd50, kd51, kd52]) rfl ?_
      rw [unhide Hfin, unhide HE]
      refine ⟨ab, cb, rfl, ?_, ((kb6.setCell (by simp; omega) _).setCell (by simp; omega) _).setCell (by simp; omega) _⟩
      exact (((o6.setBelow (by simp <;> omega) _).setBelow (by simp <;> omega) _).setBelow (by simp <;> omega) _).mono (by omega)
    · have F := l2Make_long _ n _ (L P) (s + t) oN.reads (L_lim _) bN hD
      have HE := hide (show dmake (zof n P) (s + t) = (false, [], 0, 3) by unfold dmake; rw [zof_abs2, if_neg hD])
      have HF := hide F
      clear F hD
      go_wp2_with fail
      refine (unhide HF).mono ?_
      rintro e w6 ⟨rfl, b6⟩
      have K6 := K1.later b6
      obtain ⟨kb6, -, -, -, -, -, -, kd50, kd51, kd52, kf50, kf51, kf52, kl5⟩ := id K6
      clear K6 b6 oN
      go_wp2
      refine bodyPost_ret (v := .tuple #[.agg #[.bool false, .slice none 0 0, .int .i64 0], .int .i64 3]) (by simp [results, Tryz.results64, go_sem, kd50, kd51, kd52]) rfl ?_
      rw [unhide Hfin, unhide HE]
      exact ⟨none, 0, rfl, Own.nil _ _, ((kb6.setCell (by simp; omega) _).setCell (by simp; omega) _).setCell (by simp; omega) _⟩
  · rw [show min (s + t) 12 = 12 by omega] at hO
    obtain ⟨k, hk⟩ : ∃ k : Nat, (s + t - 12).toNat = k := ⟨_, rfl⟩
    rw [hk] at hO
    have HZ1 := hide (show s + t - 12 = (k : Int) by omega)
    have HZ1' := hide (show IntKind.i64.wrap (s + t - 12) = (k : Int) by rw [IntKind.wrap_i64]; omega)
    have Hfin := hide hO
    have bT : 10 ^ k < 10000 ^ 99 := by
      have h2 : 10 ^ k < (10 ^ 4) ^ 99 := ten_lt (by omega)
      exact h2
    have CT := hide (fun W (y : Int) (hy : y = (k : Nat)) => l1Ten_e W y k hy (by omega))
    have CV := hide (fun W x y (hx : Reads W x (L P)) (hy : Reads W y (L (10 ^ k))) => l2Div_any W n x y P (10 ^ k) 7 hx hy (ten_pos _) (Nat.lt_of_lt_of_le lab (Nat.pow_le_pow_right (by decide) (by decide))) bT (by omega) (by omega))
    have bN : (L (qrd n P (10 ^ k) 7)).length ≤ 1000 := by
      refine Nat.le_trans (L_len_le (k := 33) (Nat.lt_of_le_of_lt (qrd_le _ _ _ _) ?_)) (by decide)
      have e : (10000 : Nat) ^ 33 = 10000 ^ 32 * 10000 := Nat.pow_succ ..
      rw [e]
      generalize (10000 : Nat) ^ 32 = M at *
      omega
    generalize qrd n P (10 ^ k) 7 = N at *
    have h12' : (12 : Int) < s + t := by omega
    clear hO hk bT lab
    go_enter Tryz.func64, Tryz.ntmps64
    go_wp2_with fail
    refine (unhide CM _ K0.below).mono ?_
    rintro e w1 ⟨aa, ca, rfl, oP, b1⟩
    have K1 := K0.later b1
    obtain ⟨kb1, ka01, ka11, ka21, kc01, kc11, kc21, -, -, -, -, -, -, -⟩ := id K1
    have hl0 := K0.lt
    rw [← unhide HN]
    clear b1 K0
    go_wp2_with fail
    refine (unhide CT _ _ (by first | with_reducible exact unhide HZ1 | with_reducible exact unhide HZ1')).mono ?_
    rintro e w2 ⟨at2, ct2, rfl, oT, b2⟩
    have K2 := K1.later b2
    go_wp2_with fail
    refine (unhide CV _ _ _ (oP.later b2).reads oT.reads).mono ?_
    rintro e w3 ⟨ab, cb, rfl, oN, b3⟩
    have K3 := K2.later b3
    have hl2 := K2.lt
    clear b2 b3 K1 K2 oP oT
    by_cases hD : (txtL (L N)).length ≤ 30
    · have F := l2Make_fine _ n _ (L N) 12 oN.reads (L_lim _) bN hD
      rw [neg_zof] at F
      have HE := hide (show dmake (zof n N) 12 = (sg (zof n N), L N, 12, 0) by unfold dmake; rw [zof_abs2, if_pos hD])
      have HF := hide F
      clear F hD
      go_wp2_with fail
      refine (unhide HF).mono ?_
      rintro e w6 ⟨rfl, b6⟩
      have K6 := K3.later b6
      obtain ⟨kb6, -, -, -, -, -, -, kd50, kd51, kd52, kf50, kf51, kf52, kl5⟩ := id K6
      have o6 := oN.later b6
      clear K6 b6 oN
      go_wp2
      refine bodyPost_ret (v := .tuple #[.agg #[.bool (sg (zof n N)), .slice ab (L N).length cb, .int .i64 12], .int .i64 0]) (by simp [results, Tryz.results64, go_sem, kd50, kd51, kd52]) rfl ?_
      rw [unhide Hfin, unhide HE]
      refine ⟨ab, cb, rfl, ?_, ((kb6.setCell (by simp; omega) _).setCell (by simp; omega) _).setCell (by simp; omega) _⟩
      exact (((o6.setBelow (by simp <;> omega) _).setBelow (by simp <;> omega) _).setBelow (by simp <;> omega) _).mono (by omega)
    · have F := l2Make_long _ n _ (L N) 12 oN.reads (L_lim _) bN hD
      have HE := hide (show dmake (zof n N) 12 = (false, [], 0, 3) by unfold dmake; rw [zof_abs2, if_neg hD])
      have HF := hide F
      clear F hD
      go_wp2_with fail
      refine (unhide HF).mono ?_
      rintro e w6 ⟨rfl, b6⟩
      have K6 := K3.later b6
      obtain ⟨kb6, -, -, -, -, -, -, kd50, kd51, kd52, kf50, kf51, kf52, kl5⟩ := id K6
      clear K6 b6 oN
      go_wp2
      refine bodyPost_ret (v := .tuple #[.agg #[.bool false, .slice none 0 0, .int .i64 0], .int .i64 3]) (by simp [results, Tryz.results64, go_sem, kd50, kd51, kd52]) rfl ?_
      rw [unhide Hfin, unhide HE]
      exact ⟨none, 0, rfl, Own.nil _ _, ((kb6.setCell (by simp; omega) _).setCell (by simp; omega) _).setCell (by simp; omega) _⟩

set_option maxHeartbeats 4000000 in
theorem specDecMul_any (w : World) (p q : Bool) (u v : Value) (l m : List Int) (s t : Int) (hu : Reads w u l) (hv : Reads w v m) :
    Calls Tryz.prog 26 #[.agg #[.bool p, u, .int .i64 s], .agg #[.bool q, v, .int .i64 t]] w (GivesDecI w (dmulR p l s q m t)) := by
  have CA := hide (fun W (h : Below w.heap.size w W) => l2Ok_any W p u l s (hu.later h))
  have CB := hide (fun W (h : Below w.heap.size w W) => l2Ok_any W q v m t (hv.later h))
  obtain ⟨ao, b1, off, cap, rfl, hu0⟩ := id hu
  obtain ⟨ao', b2, off', cap', rfl, hv0⟩ := id hv
  clear hu0 hv0
  have K0 := Dx3.start w p q (.slice ao l.length cap) (.slice ao' m.length cap') s t
  cases ha : decB p l s with
  | false =>
    rw [ha] at CA
    have Hfin := hide (by unfold dmulR; rw [if_neg (by simp [ha])] : dmulR p l s q m t = (false, [], 0, 1))
    clear ha hu hv
    go_enter Tryz.func26, Tryz.ntmps26
    go_wp2_with fail
    refine (unhide CA _ K0.below).mono ?_
    rintro e w1 ⟨rfl, b1⟩
    have K1 := K0.later b1
    obtain ⟨kb5, -, -, -, -, -, -, kd50, kd51, kd52, kf50, kf51, kf52, kl5⟩ := id K1
    clear b1
    go_wp2
    refine bodyPost_ret (v := .tuple #[.agg #[.bool false, .slice none 0 0, .int .i64 0], .int .i64 1]) (by simp [results, Tryz.results26, go_sem, kd50, kd51, kd52]) rfl ?_
    rw [unhide Hfin]
    exact ⟨none, 0, rfl, Own.nil _ _, ((kb5.setCell (by simp; omega) _).setCell (by simp; omega) _).setCell (by simp; omega) _⟩
  | true =>
    rw [ha] at CA
    cases hb : decB q m t with
    | false =>
      have Hfin := hide (by unfold dmulR; rw [if_neg (by simp [hb])] : dmulR p l s q m t = (false, [], 0, 1))
      rw [hb] at CB
      clear ha hb hu hv
      go_enter Tryz.func26, Tryz.ntmps26
      go_wp2_with fail
      refine (unhide CA _ K0.below).mono ?_
      rintro e w1 ⟨rfl, b1⟩
      have K1 := K0.later b1
      obtain ⟨kb1, ka01, ka11, ka21, kc01, kc11, kc21, -, -, -, -, -, -, -⟩ := id K1
      clear b1
      go_wp2_with fail
      refine (unhide CB w1 kb1).mono ?_
      rintro e w2 ⟨rfl, b2⟩
      have K2 := K1.later b2
      obtain ⟨kb5, -, -, -, -, -, -, kd50, kd51, kd52, kf50, kf51, kf52, kl5⟩ := id K2
      clear b2 ka01 ka11 ka21 kc01 kc11 kc21
      go_wp2
      refine bodyPost_ret (v := .tuple #[.agg #[.bool false, .slice none 0 0, .int .i64 0], .int .i64 1]) (by simp [results, Tryz.results26, go_sem, kd50, kd51, kd52]) rfl ?_
      rw [unhide Hfin]
      exact ⟨none, 0, rfl, Own.nil _ _, ((kb5.setCell (by simp; omega) _).setCell (by simp; omega) _).setCell (by simp; omega) _⟩
    | true =>
      rw [hb] at CB
      obtain ⟨ha1, ha2, ha3, ha4⟩ := decB_iff.1 ha
      obtain ⟨hb1, hb2, hb3, hb4⟩ := decB_iff.1 hb
      obtain ⟨ea, la⟩ := ok_limbs (okB_true ha1)
      obtain ⟨eb, lb⟩ := ok_limbs (okB_true hb1)
      have hua : Reads w (.slice ao l.length cap) (L (val l).toNat) := by rw [← ea]; exact hu
      have hva : Reads w (.slice ao' m.length cap') (L (val m).toNat) := by rw [← eb]; exact hv
      obtain ⟨O, hO⟩ : ∃ O, O = dmake (resZ (zof p (val l).toNat * zof q (val m).toNat) (10 ^ (s + t - min (s + t) 12).toNat) 7) (min (s + t) 12) := ⟨_, rfl⟩
      have HC := hide (fun W (h : Below w.heap.size w W) => l2Mul_any W p q _ _ _ _ s t (hua.later h) (hva.later h) ha3 ha4 hb3 hb4 la lb O hO)
      have Hfin := hide (show dmulR p l s q m t = O by rw [hO]; exact if_pos ⟨ha, hb⟩)
      clear hO
      obtain ⟨og, ol, os, oc⟩ := O
      clear ha1 ha2 ha3 ha4 hb1 hb2 hb3 hb4 ea eb la lb hua hva hu hv ha hb
      go_enter Tryz.func26, Tryz.ntmps26
      go_wp2_with fail
      refine (unhide CA _ K0.below).mono ?_
      rintro e w1 ⟨rfl, b1⟩
      have K1 := K0.later b1
      obtain ⟨kb1, ka01, ka11, ka21, kc01, kc11, kc21, -, -, -, -, -, -, -⟩ := id K1
      clear b1
      go_wp2_with fail
      refine (unhide CB w1 kb1).mono ?_
      rintro e w2 ⟨rfl, b2⟩
      have K2 := K1.later b2
      obtain ⟨kb2, ka02, ka12, ka22, kc02, kc12, kc22, -, -, -, -, -, -, -⟩ := id K2
      clear b2 ka01 ka11 ka21 kc01 kc11 kc21
      go_wp2_with fail
      refine (unhide HC w2 kb2).mono ?_
      rintro e w3 ⟨ab, cb, rfl, o3, b3⟩
      have K3 := K2.later b3
      obtain ⟨kb5, -, -, -, -, -, -, kd50, kd51, kd52, kf50, kf51, kf52, kl5⟩ := id K3
      have kz := K2.lt
      clear b3 ka02 ka12 ka22 kc02 kc12 kc22
      go_wp2
      refine bodyPost_ret (v := .tuple #[.agg #[.bool og, .slice ab ol.length cb, .int .i64 os], .int .i64 oc]) (by simp [results, Tryz.results26, go_sem, kd50, kd51, kd52]) rfl ?_
      rw [unhide Hfin]
      refine ⟨ab, cb, rfl, ?_, ((kb5.setCell (by simp; omega) _).setCell (by simp; omega) _).setCell (by simp; omega) _⟩
      exact (((o3.setBelow (by simp <;> omega) _).setBelow (by simp <;> omega) _).setBelow (by simp <;> omega) _).mono (by omega)

end Go.Proofs.YthnkmjkgcnhlfaaGreatDoor
