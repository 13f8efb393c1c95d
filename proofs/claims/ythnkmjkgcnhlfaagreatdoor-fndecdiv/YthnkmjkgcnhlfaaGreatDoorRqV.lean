/- DecDiv of the program and of the specification, by contracts. -/
import Derived.Test.YthnkmjkgcnhlfaaGreatDoorRqM
namespace Go.Proofs.YthnkmjkgcnhlfaaGreatDoor
open Go.RowKit
set_option maxRecDepth 100000

/-- Whether what DecDiv is given is ok. -/
def DivOk (p : Bool) (l : List Int) (s : Int) (q : Bool) (m : List Int) (t sc md : Int) : Prop := decB p l s = true ∧ decB q m t = true ∧ (0 ≤ sc ∧ sc ≤ 12) ∧ (1 ≤ md ∧ md ≤ 7)
instance (p : Bool) (l : List Int) (s : Int) (q : Bool) (m : List Int) (t sc md : Int) : Decidable (DivOk p l s q m t sc md) := by unfold DivOk; exact inferInstance
/-- What DecDiv answers. -/
def ddivR (p : Bool) (l : List Int) (s : Int) (q : Bool) (m : List Int) (t sc md : Int) : Bool × List Int × Int × Int :=
  if DivOk p l s q m t sc md then (if (val m).toNat = 0 then (false, [], 0, 2) else dmake (zof (!(p == q)) (qrd (!(p == q)) ((val l).toNat * 10 ^ (sc + t).toNat) ((val m).toNat * 10 ^ s.toNat) md)) sc) else (false, [], 0, 1)

theorem xDecDiv_len (p : Bool) (l : List Int) (s : Int) (q : Bool) (m : List Int) (t sc md : Int) : (ddivR p l s q m t sc md).2.1.length ≤ 1000 := by
  unfold ddivR
  split
  · split
    · simp
    · exact dmake_len _ _
  · simp

theorem sg_times2 {p : Bool} {a k : Nat} (h : p = sg (zof p a)) : sg (zof p (a * 10 ^ k)) = p := by
  have hp : 0 < 10 ^ k := Nat.pow_pos (by decide)
  have hz : 0 < a → 0 < a * 10 ^ k := fun h => Nat.mul_pos h hp
  generalize a * 10 ^ k = n at *
  unfold sg zof at *
  cases p
  · rw [if_neg (by simp), decide_eq_false_iff_not]; omega
  · rw [if_pos rfl] at *
    rw [eq_comm, decide_eq_true_iff] at h
    rw [decide_eq_true_iff]
    omega

theorem cmp_mul {x y k : Nat} (hk : 0 < k) : cmpZ (x * k : Nat) (y * k : Nat) = cmpZ x y := by
  rcases Nat.lt_trichotomy x y with h | h | h
  · have := Nat.mul_lt_mul_of_pos_right h hk
    rw [cmpZ_lt (by omega), cmpZ_lt (by omega)]
  · subst h
    rw [cmpZ_eq rfl, cmpZ_eq rfl]
  · have := Nat.mul_lt_mul_of_pos_right h hk
    rw [cmpZ_gt (by omega), cmpZ_gt (by omega)]

theorem qrd_mul {n : Bool} {A B k : Nat} {md : Int} (hk : 0 < k) : qrd n (A * k) (B * k) md = qrd n A B md := by
  unfold qrd
  rw [Nat.mul_div_mul_right A B hk, Nat.mul_mod_mul_right]
  unfold awayZ
  have e1 : decide (A % B * k ≠ 0) = decide (A % B ≠ 0) := decide_eq_decide.2 ⟨fun h e => h (by rw [e, Nat.zero_mul]), fun h => Nat.mul_ne_zero h (by omega)⟩
  have e2 : cmpZ (A % B * k + A % B * k : Nat) (B * k : Nat) = cmpZ (A % B + A % B : Nat) B := by rw [← Nat.add_mul]; exact cmp_mul hk
  rw [e1, e2]

theorem div_same {p q : Bool} {a b : Nat} {s t sc md : Int} (hp : p = sg (zof p a)) (hq : q = sg (zof q b)) (hs : 0 ≤ s) (ht : 0 ≤ sc + t) :
    zof (sg (zof p (a * 10 ^ (sc + t - s).toNat)) != sg (zof q (b * 10 ^ (-(sc + t - s)).toNat))) (qrd (sg (zof p (a * 10 ^ (sc + t - s).toNat)) != sg (zof q (b * 10 ^ (-(sc + t - s)).toNat))) (zof p (a * 10 ^ (sc + t - s).toNat)).natAbs (zof q (b * 10 ^ (-(sc + t - s)).toNat)).natAbs md)
      = zof (!(p == q)) (qrd (!(p == q)) (a * 10 ^ (sc + t).toNat) (b * 10 ^ s.toNat) md) := by
  rw [sg_times2 hp, sg_times2 hq, zof_abs2, zof_abs2]
  have e : qrd (!(p == q)) (a * 10 ^ (sc + t).toNat) (b * 10 ^ s.toNat) md = qrd (!(p == q)) (a * 10 ^ (sc + t - s).toNat) (b * 10 ^ (-(sc + t - s)).toNat) md := by
    by_cases h : s ≤ sc + t
    · rw [show (sc + t).toNat = (sc + t - s).toNat + s.toNat by omega, show (-(sc + t - s)).toNat = 0 by omega, Nat.pow_add, ← Nat.mul_assoc, Nat.pow_zero, Nat.mul_one]
      exact qrd_mul (Nat.pow_pos (by decide))
    · rw [show s.toNat = (-(sc + t - s)).toNat + (sc + t).toNat by omega, show (sc + t - s).toNat = 0 by omega, Nat.pow_add, ← Nat.mul_assoc, Nat.pow_zero, Nat.mul_one]
      exact qrd_mul (Nat.pow_pos (by decide))
  rw [e]
  rfl

set_option maxHeartbeats 4000000 in
theorem implDecDiv_ok (w : World) (p q : Bool) (u v : Value) (l m : List Int) (s t sc md : Int) (hu : Reads w u l) (hv : Reads w v m) (tt : Tab w) (hd : Hd w) (hok : DivOk p l s q m t sc md) (hb0 : (val m).toNat ≠ 0) :
    Calls Tryz.prog 29 #[.agg #[.bool p, u, .int .i64 s], .agg #[.bool q, v, .int .i64 t], .int .i64 sc, .int .i64 md] w (GivesDecI w (ddivR p l s q m t sc md)) := by
  obtain ⟨ha, hb, hs, hm⟩ := id hok
  have CA := hide (fun W (h : Below w.heap.size w W) => implDecOk_any W p u l s (hu.later h) (tt.later h))
  have CB := hide (fun W (h : Below w.heap.size w W) => implDecOk_any W q v m t (hv.later h) (tt.later h))
  have CS := hide (fun W => scaleOk_any W sc)
  have CM := hide (fun W => modeOk_any W md)
  rw [ha] at CA
  rw [hb] at CB
  rw [decide_eq_true hs] at CS
  rw [decide_eq_true hm] at CM
  obtain ⟨ao, b1, off, cap, rfl, hu0⟩ := id hu
  obtain ⟨ao', b2, off', cap', rfl, hv0⟩ := id hv
  clear hu0 hv0
  have K0 := Dx3.start w p q (.slice ao l.length cap) (.slice ao' m.length cap') s t
  obtain ⟨ha1, ha2, ha3, ha4⟩ := decB_iff.1 ha
  obtain ⟨hb1, hb2, hb3, hb4⟩ := decB_iff.1 hb
  obtain ⟨ea, la⟩ := ok_limbs (okB_true ha1)
  obtain ⟨eb, lb⟩ := ok_limbs (okB_true hb1)
  have hsp := ok_sign (okB_true ha1)
  have hsq := ok_sign (okB_true hb1)
  unfold zv at hsp hsq
  have Hfin := hide (show ddivR p l s q m t sc md = dmake (zof (!(p == q)) (qrd (!(p == q)) ((val l).toNat * 10 ^ (sc + t).toNat) ((val m).toNat * 10 ^ s.toNat) md)) sc by unfold ddivR; rw [if_pos hok, if_neg hb0])
  have hua : Reads w (.slice ao l.length cap) (L (val l).toNat) := by rw [← ea]; exact hu
  have hva : Reads w (.slice ao' m.length cap') (L (val m).toNat) := by rw [← eb]; exact hv
  have hml : ((m.length : Int) == 0) = false := by
    rw [beq_eq_false_iff_ne]
    intro e
    apply hb0
    have : m = [] := List.length_eq_zero_iff.1 (by omega)
    rw [this]; rfl
  generalize (val l).toNat = a at *
  generalize (val m).toNat = b at *
  have hds := div_same (md := md) hsp hsq ha3 (show 0 ≤ sc + t by omega)
  obtain ⟨g, hg⟩ : ∃ g : Int, g = sc + t - s := ⟨_, rfl⟩
  rw [← hg] at hds
  obtain ⟨X, hX⟩ : ∃ X, X = zof p (a * 10 ^ g.toNat) := ⟨_, rfl⟩
  obtain ⟨Y, hY⟩ : ∃ Y, Y = zof q (b * 10 ^ (-g).toNat) := ⟨_, rfl⟩
  have bX : X.natAbs < 10000 ^ 99 := by
    rw [hX, zof_abs2]
    have h2 : 10 ^ g.toNat < (10 ^ 4) ^ 50 := ten_lt (by omega)
    refine Nat.lt_of_lt_of_le (Nat.mul_lt_mul_of_lt_of_le la (Nat.le_of_lt h2) (Nat.pow_pos (by decide))) ?_
    rw [show (10 : Nat) ^ 4 = 10000 from rfl, ← Nat.pow_add]
    exact Nat.pow_le_pow_right (by decide) (by decide)
  have bY : Y.natAbs < 10000 ^ 99 := by
    rw [hY, zof_abs2]
    have h2 : 10 ^ (-g).toNat < (10 ^ 4) ^ 50 := ten_lt (by omega)
    refine Nat.lt_of_lt_of_le (Nat.mul_lt_mul_of_lt_of_le lb (Nat.le_of_lt h2) (Nat.pow_pos (by decide))) ?_
    rw [show (10 : Nat) ^ 4 = 10000 from rfl, ← Nat.pow_add]
    exact Nat.pow_le_pow_right (by decide) (by decide)
  have pY : 0 < Y.natAbs := by
    rw [hY, zof_abs2]
    exact Nat.mul_pos (by omega) (Nat.pow_pos (by decide))
  rw [← hX, ← hY] at hds
  have RA := hide (fun W (h : Below w.heap.size w W) (z : Int) (hz : z = g) => (by subst hz; exact raised_any W p _ a _ (hua.later h) (by omega) (pow16 la (by decide)) X hX : Calls Tryz.prog 47 #[.agg #[.bool p, .slice ao l.length cap], .int .i64 z] W (GivesBig W (sg X) (L X.natAbs))))
  have RB := hide (fun W (h : Below w.heap.size w W) (z : Int) (hz : z = -g) => (by subst hz; exact raised_any W q _ b _ (hva.later h) (by omega) (pow16 lb (by decide)) Y hY : Calls Tryz.prog 47 #[.agg #[.bool q, .slice ao' m.length cap'], .int .i64 z] W (GivesBig W (sg Y) (L Y.natAbs))))
  obtain ⟨D, hD⟩ : ∃ D, D = zof (!(p == q)) (qrd (!(p == q)) (a * 10 ^ (sc + t).toNat) (b * 10 ^ s.toNat) md) := ⟨_, rfl⟩
  rw [← hD] at Hfin hds
  have C4 := hide (fun W x y (hx : Reads W x (L X.natAbs)) (hy : Reads W y (L Y.natAbs)) => roundedQuotient_any W (sg X) (sg Y) x y X.natAbs Y.natAbs md hx hy pY bX bY hm.1 hm.2 D hds.symm)
  have bD : (L D.natAbs).length ≤ 1000 := by
    rw [← hds, zof_abs2]
    refine Nat.le_trans (L_len_le (k := 100) (Nat.lt_of_le_of_lt (qrd_le _ _ _ _) ?_)) (by decide)
    have e : (10000 : Nat) ^ 100 = 10000 ^ 99 * 10000 := Nat.pow_succ ..
    rw [e]
    have : 0 < (10000 : Nat) ^ 99 := Nat.pow_pos (by decide)
    generalize (10000 : Nat) ^ 99 = M at *
    omega
  have HZ1 := hide (show g = g from rfl)
  have HZ2 := hide (show -g = -g from rfl)
  have HZ1' := hide (show IntKind.i64.wrap g = g by rw [IntKind.wrap_i64]; omega)
  have HZ2' := hide (show IntKind.i64.wrap (-g) = -g by rw [IntKind.wrap_i64]; omega)
  have HG := hide hg
  have hgb : -24 ≤ g ∧ g ≤ 24 := by omega
  clear ha1 ha2 hb1 hb2 ha hb hu hv ea eb la lb hua hva hX hY bX bY pY hds hD hsp hsq hok hb0 hg hm
  go_enter Tryz.func29, Tryz.ntmps29
  go_wp2_with fail
  refine (unhide CA _ K0.below).mono ?_
  rintro e w1 ⟨rfl, b1⟩
  have K1 := K0.later b1
  obtain ⟨kb1, ka01, ka11, ka21, kc01, kc11, kc21, -, -, -, -, -, -, -⟩ := id K1
  clear b1
  go_wp2_with fail
  refine (unhide CB w1 kb1).mono ?_
  rintro e w2 ⟨rfl, b2⟩
  have K2 := K1.later b2
  obtain ⟨kb2, ka02, ka12, ka22, kc02, kc12, kc22, kd0, kd1, kd2, kf0, kf1, kf2, kl⟩ := id K2
  clear b2 ka01 ka11 ka21 kc01 kc11 kc21
  go_wp2_with fail
  refine (unhide CS _).mono ?_
  rintro e wz ⟨rfl, hw⟩
  have hw' := hw.symm
  subst hw'
  clear hw
  go_wp2_with fail
  refine (unhide CM _).mono ?_
  rintro e wz ⟨rfl, hw⟩
  have hw' := hw.symm
  subst hw'
  clear hw
  have stab : ∀ w' : World, Below w2.heap.size w2 w' → ((w'.cell? ⟨w.heap.size, 0, none⟩ = some (.bool p) ∧ w'.cell? ⟨w.heap.size, 1, none⟩ = some (.slice ao l.length cap) ∧ w'.cell? ⟨w.heap.size, 2, none⟩ = some (.int .i64 s) ∧ w'.cell? ⟨w.heap.size + 1, 0, none⟩ = some (.bool q) ∧ w'.cell? ⟨w.heap.size + 1, 1, none⟩ = some (.slice ao' m.length cap') ∧ w'.cell? ⟨w.heap.size + 1, 2, none⟩ = some (.int .i64 t)) ∧ Below w2.heap.size w2 w') := fun w' h => ⟨⟨cell_later h ka02, cell_later h ka12, cell_later h ka22, cell_later h kc02, cell_later h kc12, cell_later h kc22⟩, h⟩
  have hB : ∀ X : World, ((X.cell? ⟨w.heap.size, 0, none⟩ = some (.bool p) ∧ X.cell? ⟨w.heap.size, 1, none⟩ = some (.slice ao l.length cap) ∧ X.cell? ⟨w.heap.size, 2, none⟩ = some (.int .i64 s) ∧ X.cell? ⟨w.heap.size + 1, 0, none⟩ = some (.bool q) ∧ X.cell? ⟨w.heap.size + 1, 1, none⟩ = some (.slice ao' m.length cap') ∧ X.cell? ⟨w.heap.size + 1, 2, none⟩ = some (.int .i64 t)) ∧ Below w2.heap.size w2 X) → Below w2.heap.size w2 X := fun X h => h.2
  have Stab := hide stab
  have HB := hide hB
  clear stab hB
  go_wp2
  rw [← unhide HG]
  go_cut [11] (fun sp wk => ∃ (nB : Nat) (ab : Option Addr) (cb : Nat), sp = .pointer (some ⟨nB, 0, none⟩) ∧ wk.cell? ⟨nB, 0, none⟩ = some (.bool (sg D)) ∧ wk.cell? ⟨nB, 1, none⟩ = some (.slice ab (L D.natAbs).length cb) ∧ Own w2.heap.size wk (.slice ab (L D.natAbs).length cb) (L D.natAbs) ∧ Below w2.heap.size w2 wk)
  case first => as_aux_lemma =>
    go_region_held3 (fun w' => (w'.cell? ⟨w.heap.size, 0, none⟩ = some (.bool p) ∧ w'.cell? ⟨w.heap.size, 1, none⟩ = some (.slice ao l.length cap) ∧ w'.cell? ⟨w.heap.size, 2, none⟩ = some (.int .i64 s) ∧ w'.cell? ⟨w.heap.size + 1, 0, none⟩ = some (.bool q) ∧ w'.cell? ⟨w.heap.size + 1, 1, none⟩ = some (.slice ao' m.length cap') ∧ w'.cell? ⟨w.heap.size + 1, 2, none⟩ = some (.int .i64 t)) ∧ Below w2.heap.size w2 w')
      ((refine unhide Stab _ ?_; repeat' (first | with_reducible exact BW5 | with_reducible exact BW4 | with_reducible exact BW3 | with_reducible exact Below.refl _ _ | (with_reducible exact unhide HB _ (by assumption)) | refine Below.drew ?_ | refine Below.alloc ?_ ?_ _ | refine Below.setCell ?_ ?_ _ | omega | (simp <;> omega))))
      (first
        | (go_at_call_of 47 (Value.slice ao l.length cap); refine (unhide RA _ ?_ _ ?_).mono ?_; exact kb2.trans ((unhide HB _ (by assumption)).mono kb2.size); (first | with_reducible rfl | with_reducible exact unhide HZ1 | with_reducible exact unhide HZ1'); rintro e w3 ⟨aa, ca, rfl, o3, b3⟩; have BW3 : Below w2.heap.size w2 w3 := (unhide HB _ (by assumption)).trans (b3.mono (unhide HB _ (by assumption)).size); have y3 := BW3.size; have E3 : EBs w3 _ := (by first | with_reducible exact EBs.drew1 b3 | exact EBs.empty w3); have l3 := E3.lts; (try simp at l3))
        | (go_at_call_of 47 (Value.slice ao' m.length cap'); refine (unhide RB _ ?_ _ ?_).mono ?_; exact kb2.trans ((unhide HB _ (by assumption)).mono kb2.size); (first | with_reducible rfl | with_reducible exact unhide HZ2 | with_reducible exact unhide HZ2'); rintro e w4 ⟨ad, cd, rfl, o4, b4⟩; have K4 : Below w3.heap.size w3 w4 := (by first | with_reducible exact b4 | with_reducible exact below_back b4); have BW4 : Below w2.heap.size w2 w4 := BW3.trans (K4.mono BW3.size); have y4 := K4.size; have o3' := o3.later K4; have E4 : EBs w4 _ := (by first | with_reducible exact E3.later b4 | with_reducible exact E3.step1 b4); have l4 := E4.lts; (try simp at l4))
        | (go_at_call 70; refine (unhide C4 _ _ _ ?_ ?_).mono ?_; (first | exact o3'.reads | exact o3'.reads.alloc _); (first | exact o4.reads | exact o4.reads.alloc _); rintro e w5 ⟨ab, cb, rfl, o5, b5⟩; have K5 : Below w4.heap.size w4 w5 := (by first | with_reducible exact b5 | with_reducible exact below_back b5); have BW5 : Below w2.heap.size w2 w5 := BW4.trans (K5.mono BW4.size); have y5 := K5.size; have q5 := b5.size; (try simp only [World.size_alloc] at q5); have E5 : EBs w5 _ := (by first | with_reducible exact E4.later b5 | with_reducible exact E4.step1 b5); (first | (obtain ⟨⟨e0, e1, e2, e3, e4⟩, e10, e11⟩ := EBs.open1 E5) | skip)))
    all_goals
      go_wp2
      go_meet
      case rel =>
        refine ⟨_, ab, cb, rfl, ?_⟩
        refine fin1 o5 ?_ ?_ ?_ ?_ ?_ ?_
        · first | omega | (simp <;> omega)
        · intro j j1 j2
          repeat (first | with_reducible rfl | rw [Below.heap_setCell _ _ _ _ (by exact j2)] | (refine (heap_alloc_lt _ _ _ ?_).trans ?_; (first | omega | (simp <;> omega))))
        · first | omega | (simp <;> omega)
        · go_simp
        · go_simp
        · repeat' (first | with_reducible exact BW5 | with_reducible exact BW4 | with_reducible exact BW3 | with_reducible exact Below.refl _ _ | (with_reducible exact unhide HB _ (by assumption)) | refine Below.drew ?_ | refine Below.alloc ?_ ?_ _ | refine Below.setCell ?_ ?_ _ | omega | (simp <;> omega))
  case rest =>
  obtain ⟨nB, ab, cb, rfl, n0, n1, oD, bw⟩ := hcut
  have K7 := K2.later bw
  have kb3 := K7.below
  have hl3 := K2.lt
  clear K0 K1 K2 bw Stab HB RA RB CA CB C4 CS CM
  by_cases hD : (txtL (L D.natAbs)).length ≤ 30
  · have F := fitted_fine wc (sg D) _ (L D.natAbs) sc oD.reads (L_lim _) bD hD (tt.later kb3)
    have HE := hide (show dmake D sc = (sg D, L D.natAbs, sc, 0) from if_pos hD)
    have HF := hide F
    clear F hD
    go_wp2_with fail
    refine (unhide HF).mono ?_
    rintro e w4 ⟨rfl, b4⟩
    have K4 := K7.later b4
    go_wp2_with fail
    refine (coded_fine w4 _ _ _ _ _).mono ?_
    rintro e w5 ⟨rfl, b5⟩
    have K5 := K4.later b5
    obtain ⟨kb5, -, -, -, -, -, -, kd50, kd51, kd52, kf50, kf51, kf52, kl5⟩ := id K5
    have o5 := (oD.later b4).later b5
    clear K7 K4 K5 b4 b5
    go_wp2
    refine bodyPost_ret (v := .tuple #[.agg #[.bool (sg D), .slice ab (L D.natAbs).length cb, .int .i64 sc], .int .i64 0]) (by simp [results, Tryz.results29, go_sem, kd50, kd51, kd52]) rfl ?_
    rw [unhide Hfin, unhide HE]
    refine ⟨ab, cb, rfl, ?_, ((kb5.setCell (by simp; omega) _).setCell (by simp; omega) _).setCell (by simp; omega) _⟩
    exact (((o5.setBelow (by simp <;> omega) _).setBelow (by simp <;> omega) _).setBelow (by simp <;> omega) _).mono (by omega)
  · have F := fitted_long wc (sg D) _ (L D.natAbs) sc oD.reads (L_lim _) bD hD (tt.later kb3)
    have HE := hide (show dmake D sc = (false, [], 0, 3) from if_neg hD)
    have HF := hide F
    clear F hD
    go_wp2_with fail
    refine (unhide HF).mono ?_
    rintro e w4 ⟨rfl, b4⟩
    have K4 := K7.later b4
    go_wp2_with fail
    refine (coded_long w4 _ _ _ _ _ _ _ (hd.later K4.below)).mono ?_
    rintro e w5 ⟨rfl, b5⟩
    have K5 := K4.later b5
    obtain ⟨kb5, -, -, -, -, -, -, kd50, kd51, kd52, kf50, kf51, kf52, kl5⟩ := id K5
    clear K7 K4 K5 b4 b5
    go_wp2
    refine bodyPost_ret (v := .tuple #[.agg #[.bool false, .slice none 0 0, .int .i64 0], .int .i64 3]) (by simp [results, Tryz.results29, go_sem, kd50, kd51, kd52]) rfl ?_
    rw [unhide Hfin, unhide HE]
    exact ⟨none, 0, rfl, Own.nil _ _, ((kb5.setCell (by simp; omega) _).setCell (by simp; omega) _).setCell (by simp; omega) _⟩

set_option maxHeartbeats 4000000 in
theorem implDecDiv_no (w : World) (p q : Bool) (u v : Value) (l m : List Int) (s t sc md : Int) (hu : Reads w u l) (hv : Reads w v m) (tt : Tab w) (h : ¬ DivOk p l s q m t sc md) :
    Calls Tryz.prog 29 #[.agg #[.bool p, u, .int .i64 s], .agg #[.bool q, v, .int .i64 t], .int .i64 sc, .int .i64 md] w (GivesDecI w (ddivR p l s q m t sc md)) := by
  have CA := hide (fun W (h : Below w.heap.size w W) => implDecOk_any W p u l s (hu.later h) (tt.later h))
  have CB := hide (fun W (h : Below w.heap.size w W) => implDecOk_any W q v m t (hv.later h) (tt.later h))
  have CS := hide (fun W => scaleOk_any W sc)
  have CM := hide (fun W => modeOk_any W md)
  have Hfin := hide (show ddivR p l s q m t sc md = (false, [], 0, 1) from if_neg h)
  obtain ⟨ao, b1, off, cap, rfl, hu0⟩ := id hu
  obtain ⟨ao', b2, off', cap', rfl, hv0⟩ := id hv
  clear hu0 hv0 hu hv
  have K0 := Dx3.start w p q (.slice ao l.length cap) (.slice ao' m.length cap') s t
  cases ha : decB p l s with
  | false =>
    rw [ha] at CA
    clear ha h
    go_enter Tryz.func29, Tryz.ntmps29
    go_wp2_with fail
    refine (unhide CA _ K0.below).mono ?_
    rintro e w1 ⟨rfl, b1⟩
    have K1 := K0.later b1
    clear b1
    obtain ⟨kb5, ka01, ka11, ka21, kc01, kc11, kc21, kd50, kd51, kd52, kf50, kf51, kf52, kl5⟩ := id K1
    go_wp2
    refine bodyPost_ret (v := .tuple #[.agg #[.bool false, .slice none 0 0, .int .i64 0], .int .i64 1]) (by simp [results, Tryz.results29, go_sem, kd50, kd51, kd52]) rfl ?_
    rw [unhide Hfin]
    exact ⟨none, 0, rfl, Own.nil _ _, ((kb5.setCell (by simp; omega) _).setCell (by simp; omega) _).setCell (by simp; omega) _⟩
  | true =>
    rw [ha] at CA
    cases hb : decB q m t with
    | false =>
      rw [hb] at CB
      clear ha hb h
      go_enter Tryz.func29, Tryz.ntmps29
      go_wp2_with fail
      refine (unhide CA _ K0.below).mono ?_
      rintro e w1 ⟨rfl, b1⟩
      have K1 := K0.later b1
      clear b1
      obtain ⟨kb5, ka01, ka11, ka21, kc01, kc11, kc21, kd50, kd51, kd52, kf50, kf51, kf52, kl5⟩ := id K1
      go_wp2_with fail
      refine (unhide CB w1 kb5).mono ?_
      rintro e w2 ⟨rfl, b2⟩
      have K2 := K1.later b2
      clear b2 kb5 ka01 ka11 ka21 kc01 kc11 kc21 kd50 kd51 kd52 kf50 kf51 kf52 kl5
      obtain ⟨kb5, ka01, ka11, ka21, kc01, kc11, kc21, kd50, kd51, kd52, kf50, kf51, kf52, kl5⟩ := id K2
      go_wp2
      refine bodyPost_ret (v := .tuple #[.agg #[.bool false, .slice none 0 0, .int .i64 0], .int .i64 1]) (by simp [results, Tryz.results29, go_sem, kd50, kd51, kd52]) rfl ?_
      rw [unhide Hfin]
      exact ⟨none, 0, rfl, Own.nil _ _, ((kb5.setCell (by simp; omega) _).setCell (by simp; omega) _).setCell (by simp; omega) _⟩
    | true =>
      rw [hb] at CB
      cases hs : decide (0 ≤ sc ∧ sc ≤ 12) with
      | false =>
        rw [hs] at CS
        clear ha hb h hs
        go_enter Tryz.func29, Tryz.ntmps29
        go_wp2_with fail
        refine (unhide CA _ K0.below).mono ?_
        rintro e w1 ⟨rfl, b1⟩
        have K1 := K0.later b1
        clear b1
        obtain ⟨kb5, ka01, ka11, ka21, kc01, kc11, kc21, kd50, kd51, kd52, kf50, kf51, kf52, kl5⟩ := id K1
        go_wp2_with fail
        refine (unhide CB w1 kb5).mono ?_
        rintro e w2 ⟨rfl, b2⟩
        have K2 := K1.later b2
        clear b2 kb5 ka01 ka11 ka21 kc01 kc11 kc21 kd50 kd51 kd52 kf50 kf51 kf52 kl5
        obtain ⟨kb5, ka01, ka11, ka21, kc01, kc11, kc21, kd50, kd51, kd52, kf50, kf51, kf52, kl5⟩ := id K2
        go_wp2_with fail
        refine (unhide CS _).mono ?_
        rintro e wz ⟨rfl, hw⟩
        have hw' := hw.symm
        subst hw'
        clear hw
        go_wp2
        refine bodyPost_ret (v := .tuple #[.agg #[.bool false, .slice none 0 0, .int .i64 0], .int .i64 1]) (by simp [results, Tryz.results29, go_sem, kd50, kd51, kd52]) rfl ?_
        rw [unhide Hfin]
        exact ⟨none, 0, rfl, Own.nil _ _, ((kb5.setCell (by simp; omega) _).setCell (by simp; omega) _).setCell (by simp; omega) _⟩
      | true =>
        have hm : decide (1 ≤ md ∧ md ≤ 7) = false := by
          rw [decide_eq_false_iff_not]
          intro k
          exact h ⟨ha, hb, of_decide_eq_true hs, k⟩
        rw [hs] at CS
        rw [hm] at CM
        clear ha hb h hs hm
        go_enter Tryz.func29, Tryz.ntmps29
        go_wp2_with fail
        refine (unhide CA _ K0.below).mono ?_
        rintro e w1 ⟨rfl, b1⟩
        have K1 := K0.later b1
        clear b1
        obtain ⟨kb5, ka01, ka11, ka21, kc01, kc11, kc21, kd50, kd51, kd52, kf50, kf51, kf52, kl5⟩ := id K1
        go_wp2_with fail
        refine (unhide CB w1 kb5).mono ?_
        rintro e w2 ⟨rfl, b2⟩
        have K2 := K1.later b2
        clear b2 kb5 ka01 ka11 ka21 kc01 kc11 kc21 kd50 kd51 kd52 kf50 kf51 kf52 kl5
        obtain ⟨kb5, ka01, ka11, ka21, kc01, kc11, kc21, kd50, kd51, kd52, kf50, kf51, kf52, kl5⟩ := id K2
        go_wp2_with fail
        refine (unhide CS _).mono ?_
        rintro e wz ⟨rfl, hw⟩
        have hw' := hw.symm
        subst hw'
        clear hw
        go_wp2_with fail
        refine (unhide CM _).mono ?_
        rintro e wz ⟨rfl, hw⟩
        have hw' := hw.symm
        subst hw'
        clear hw
        go_wp2
        refine bodyPost_ret (v := .tuple #[.agg #[.bool false, .slice none 0 0, .int .i64 0], .int .i64 1]) (by simp [results, Tryz.results29, go_sem, kd50, kd51, kd52]) rfl ?_
        rw [unhide Hfin]
        exact ⟨none, 0, rfl, Own.nil _ _, ((kb5.setCell (by simp; omega) _).setCell (by simp; omega) _).setCell (by simp; omega) _⟩

set_option maxHeartbeats 4000000 in
theorem implDecDiv_zero (w : World) (p q : Bool) (u v : Value) (l m : List Int) (s t sc md : Int) (hu : Reads w u l) (hv : Reads w v m) (tt : Tab w) (hok : DivOk p l s q m t sc md) (hb0 : (val m).toNat = 0) :
    Calls Tryz.prog 29 #[.agg #[.bool p, u, .int .i64 s], .agg #[.bool q, v, .int .i64 t], .int .i64 sc, .int .i64 md] w (GivesDecI w (ddivR p l s q m t sc md)) := by
  obtain ⟨ha, hb, hs, hm⟩ := id hok
  have CA := hide (fun W (h : Below w.heap.size w W) => implDecOk_any W p u l s (hu.later h) (tt.later h))
  have CB := hide (fun W (h : Below w.heap.size w W) => implDecOk_any W q v m t (hv.later h) (tt.later h))
  have CS := hide (fun W => scaleOk_any W sc)
  have CM := hide (fun W => modeOk_any W md)
  rw [ha] at CA
  rw [hb] at CB
  rw [decide_eq_true hs] at CS
  rw [decide_eq_true hm] at CM
  have Hfin := hide (show ddivR p l s q m t sc md = (false, [], 0, 2) by unfold ddivR; rw [if_pos hok, if_pos hb0])
  have hml : ((m.length : Int) == 0) = true := by
    obtain ⟨eb, lb⟩ := ok_limbs (okB_true (decB_iff.1 hb).1)
    rw [eb, hb0, L_zero]
    rfl
  obtain ⟨ao, b1, off, cap, rfl, hu0⟩ := id hu
  obtain ⟨ao', b2, off', cap', rfl, hv0⟩ := id hv
  clear hu0 hv0 hu hv ha hb hs hm hok hb0
  have K0 := Dx3.start w p q (.slice ao l.length cap) (.slice ao' m.length cap') s t
  go_enter Tryz.func29, Tryz.ntmps29
  go_wp2_with fail
  refine (unhide CA _ K0.below).mono ?_
  rintro e w1 ⟨rfl, b1⟩
  have K1 := K0.later b1
  obtain ⟨kb1, ka01, ka11, ka21, kc01, kc11, kc21, -, -, -, -, -, -, -⟩ := id K1
  clear b1
  go_wp2_with fail
  refine (unhide CB w1 kb1).mono ?_
  rintro e w2 ⟨rfl, b2⟩
  have K2 := K1.later b2
  obtain ⟨kb5, ka02, ka12, ka22, kc02, kc12, kc22, kd50, kd51, kd52, kf50, kf51, kf52, kl5⟩ := id K2
  clear b2 ka01 ka11 ka21 kc01 kc11 kc21
  go_wp2_with fail
  refine (unhide CS _).mono ?_
  rintro e wz ⟨rfl, hw⟩
  have hw' := hw.symm
  subst hw'
  clear hw
  go_wp2_with fail
  refine (unhide CM _).mono ?_
  rintro e wz ⟨rfl, hw⟩
  have hw' := hw.symm
  subst hw'
  clear hw
  go_wp2
  refine bodyPost_ret (v := .tuple #[.agg #[.bool false, .slice none 0 0, .int .i64 0], .int .i64 2]) (by simp [results, Tryz.results29, go_sem, kd50, kd51, kd52]) rfl ?_
  rw [unhide Hfin]
  exact ⟨none, 0, rfl, Own.nil _ _, ((kb5.setCell (by simp; omega) _).setCell (by simp; omega) _).setCell (by simp; omega) _⟩

theorem implDecDiv_any (w : World) (p q : Bool) (u v : Value) (l m : List Int) (s t sc md : Int) (hu : Reads w u l) (hv : Reads w v m) (tt : Tab w) (hd : Hd w) :
    Calls Tryz.prog 29 #[.agg #[.bool p, u, .int .i64 s], .agg #[.bool q, v, .int .i64 t], .int .i64 sc, .int .i64 md] w (GivesDecI w (ddivR p l s q m t sc md)) := by
  by_cases h : DivOk p l s q m t sc md
  · by_cases h0 : (val m).toNat = 0
    · exact implDecDiv_zero w p q u v l m s t sc md hu hv tt h h0
    · exact implDecDiv_ok w p q u v l m s t sc md hu hv tt hd h h0
  · exact implDecDiv_no w p q u v l m s t sc md hu hv tt h

set_option maxHeartbeats 4000000 in
theorem specDecDiv_no (w : World) (p q : Bool) (u v : Value) (l m : List Int) (s t sc md : Int) (hu : Reads w u l) (hv : Reads w v m) (h : ¬ DivOk p l s q m t sc md) :
    Calls Tryz.prog 30 #[.agg #[.bool p, u, .int .i64 s], .agg #[.bool q, v, .int .i64 t], .int .i64 sc, .int .i64 md] w (GivesDecI w (ddivR p l s q m t sc md)) := by
  have CA := hide (fun W (h : Below w.heap.size w W) => l2Ok_any W p u l s (hu.later h))
  have CB := hide (fun W (h : Below w.heap.size w W) => l2Ok_any W q v m t (hv.later h))
  have CS := hide (fun W => l1In_any W sc 0 12)
  have CM := hide (fun W => l2Mode_any W md)
  have Hfin := hide (show ddivR p l s q m t sc md = (false, [], 0, 1) from if_neg h)
  obtain ⟨ao, b1, off, cap, rfl, hu0⟩ := id hu
  obtain ⟨ao', b2, off', cap', rfl, hv0⟩ := id hv
  clear hu0 hv0 hu hv
  have K0 := Dx3.start w p q (.slice ao l.length cap) (.slice ao' m.length cap') s t
  cases ha : decB p l s with
  | false =>
    rw [ha] at CA
    clear ha h
    go_enter Tryz.func30, Tryz.ntmps30
    go_wp2_with fail
    refine (unhide CA _ K0.below).mono ?_
    rintro e w1 ⟨rfl, b1⟩
    have K1 := K0.later b1
    clear b1
    obtain ⟨kb5, ka01, ka11, ka21, kc01, kc11, kc21, kd50, kd51, kd52, kf50, kf51, kf52, kl5⟩ := id K1
    go_wp2
    refine bodyPost_ret (v := .tuple #[.agg #[.bool false, .slice none 0 0, .int .i64 0], .int .i64 1]) (by simp [results, Tryz.results30, go_sem, kd50, kd51, kd52]) rfl ?_
    rw [unhide Hfin]
    exact ⟨none, 0, rfl, Own.nil _ _, ((kb5.setCell (by simp; omega) _).setCell (by simp; omega) _).setCell (by simp; omega) _⟩
  | true =>
    rw [ha] at CA
    cases hb : decB q m t with
    | false =>
      rw [hb] at CB
      clear ha hb h
      go_enter Tryz.func30, Tryz.ntmps30
      go_wp2_with fail
      refine (unhide CA _ K0.below).mono ?_
      rintro e w1 ⟨rfl, b1⟩
      have K1 := K0.later b1
      clear b1
      obtain ⟨kb5, ka01, ka11, ka21, kc01, kc11, kc21, kd50, kd51, kd52, kf50, kf51, kf52, kl5⟩ := id K1
      go_wp2_with fail
      refine (unhide CB w1 kb5).mono ?_
      rintro e w2 ⟨rfl, b2⟩
      have K2 := K1.later b2
      clear b2 kb5 ka01 ka11 ka21 kc01 kc11 kc21 kd50 kd51 kd52 kf50 kf51 kf52 kl5
      obtain ⟨kb5, ka01, ka11, ka21, kc01, kc11, kc21, kd50, kd51, kd52, kf50, kf51, kf52, kl5⟩ := id K2
      go_wp2
      refine bodyPost_ret (v := .tuple #[.agg #[.bool false, .slice none 0 0, .int .i64 0], .int .i64 1]) (by simp [results, Tryz.results30, go_sem, kd50, kd51, kd52]) rfl ?_
      rw [unhide Hfin]
      exact ⟨none, 0, rfl, Own.nil _ _, ((kb5.setCell (by simp; omega) _).setCell (by simp; omega) _).setCell (by simp; omega) _⟩
    | true =>
      rw [hb] at CB
      cases hs : decide (0 ≤ sc ∧ sc ≤ 12) with
      | false =>
        rw [hs] at CS
        clear ha hb h hs
        go_enter Tryz.func30, Tryz.ntmps30
        go_wp2_with fail
        refine (unhide CA _ K0.below).mono ?_
        rintro e w1 ⟨rfl, b1⟩
        have K1 := K0.later b1
        clear b1
        obtain ⟨kb5, ka01, ka11, ka21, kc01, kc11, kc21, kd50, kd51, kd52, kf50, kf51, kf52, kl5⟩ := id K1
        go_wp2_with fail
        refine (unhide CB w1 kb5).mono ?_
        rintro e w2 ⟨rfl, b2⟩
        have K2 := K1.later b2
        clear b2 kb5 ka01 ka11 ka21 kc01 kc11 kc21 kd50 kd51 kd52 kf50 kf51 kf52 kl5
        obtain ⟨kb5, ka01, ka11, ka21, kc01, kc11, kc21, kd50, kd51, kd52, kf50, kf51, kf52, kl5⟩ := id K2
        go_wp2_with fail
        refine (unhide CS _).mono ?_
        rintro e wz ⟨rfl, hw⟩
        have hw' := hw.symm
        subst hw'
        clear hw
        go_wp2
        refine bodyPost_ret (v := .tuple #[.agg #[.bool false, .slice none 0 0, .int .i64 0], .int .i64 1]) (by simp [results, Tryz.results30, go_sem, kd50, kd51, kd52]) rfl ?_
        rw [unhide Hfin]
        exact ⟨none, 0, rfl, Own.nil _ _, ((kb5.setCell (by simp; omega) _).setCell (by simp; omega) _).setCell (by simp; omega) _⟩
      | true =>
        have hm : decide (1 ≤ md ∧ md ≤ 7) = false := by
          rw [decide_eq_false_iff_not]
          intro k
          exact h ⟨ha, hb, of_decide_eq_true hs, k⟩
        rw [hs] at CS
        rw [hm] at CM
        clear ha hb h hs hm
        go_enter Tryz.func30, Tryz.ntmps30
        go_wp2_with fail
        refine (unhide CA _ K0.below).mono ?_
        rintro e w1 ⟨rfl, b1⟩
        have K1 := K0.later b1
        clear b1
        obtain ⟨kb5, ka01, ka11, ka21, kc01, kc11, kc21, kd50, kd51, kd52, kf50, kf51, kf52, kl5⟩ := id K1
        go_wp2_with fail
        refine (unhide CB w1 kb5).mono ?_
        rintro e w2 ⟨rfl, b2⟩
        have K2 := K1.later b2
        clear b2 kb5 ka01 ka11 ka21 kc01 kc11 kc21 kd50 kd51 kd52 kf50 kf51 kf52 kl5
        obtain ⟨kb5, ka01, ka11, ka21, kc01, kc11, kc21, kd50, kd51, kd52, kf50, kf51, kf52, kl5⟩ := id K2
        go_wp2_with fail
        refine (unhide CS _).mono ?_
        rintro e wz ⟨rfl, hw⟩
        have hw' := hw.symm
        subst hw'
        clear hw
        go_wp2_with fail
        refine (unhide CM _).mono ?_
        rintro e wz ⟨rfl, hw⟩
        have hw' := hw.symm
        subst hw'
        clear hw
        go_wp2
        refine bodyPost_ret (v := .tuple #[.agg #[.bool false, .slice none 0 0, .int .i64 0], .int .i64 1]) (by simp [results, Tryz.results30, go_sem, kd50, kd51, kd52]) rfl ?_
        rw [unhide Hfin]
        exact ⟨none, 0, rfl, Own.nil _ _, ((kb5.setCell (by simp; omega) _).setCell (by simp; omega) _).setCell (by simp; omega) _⟩

theorem l2Quo_zero (w : World) (p q : Bool) (ao ao' : Option Addr) (nl nm cap cap' : Nat) (s t sc md : Int) (h : nm = 0) :
    Calls Tryz.prog 73 #[.agg #[.bool p, .slice ao nl cap, .int .i64 s], .agg #[.bool q, .slice ao' nm cap', .int .i64 t], .int .i64 sc, .int .i64 md] w (GivesDecI w (false, [], 0, 2)) := by
  have hml : ((nm : Int) == 0) = true := by rw [h]; rfl
  clear h
  have K0 := Dx3.start w p q (.slice ao nl cap) (.slice ao' nm cap') s t
  obtain ⟨kb5, -, -, -, -, -, -, kd50, kd51, kd52, kf50, kf51, kf52, kl5⟩ := id K0
  go_enter Tryz.func73, Tryz.ntmps73
  go_wp2
  refine bodyPost_ret (v := .tuple #[.agg #[.bool false, .slice none 0 0, .int .i64 0], .int .i64 2]) (by simp [results, Tryz.results73, go_sem]) rfl ?_
  exact ⟨none, 0, rfl, Own.nil _ _, by first | exact kb5 | exact ((kb5.setCell (by simp; omega) _).setCell (by simp; omega) _).setCell (by simp; omega) _⟩

set_option maxHeartbeats 4000000 in
theorem l2Quo_any (w : World) (p q : Bool) (u v : Value) (a b : Nat) (s t sc md : Int) (hu : Reads w u (L a)) (hv : Reads w v (L b)) (hs0 : 0 ≤ s) (hs : s ≤ 12) (ht0 : 0 ≤ t) (ht : t ≤ 12) (hc0 : 0 ≤ sc) (hc : sc ≤ 12) (h1 : 1 ≤ md) (h7 : md ≤ 7) (la : a < 10000 ^ 16) (lb : b < 10000 ^ 16) (hb0 : b ≠ 0) (O : Bool × List Int × Int × Int) (hO : O = dmake (zof (!(p == q)) (qrd (!(p == q)) (a * 10 ^ (sc + t).toNat) (b * 10 ^ s.toNat) md)) sc) :
    Calls Tryz.prog 73 #[.agg #[.bool p, u, .int .i64 s], .agg #[.bool q, v, .int .i64 t], .int .i64 sc, .int .i64 md] w (GivesDecI w O) := by
  obtain ⟨k, hk⟩ : ∃ k : Nat, (sc + t).toNat = k := ⟨_, rfl⟩
  obtain ⟨j, hj⟩ : ∃ j : Nat, s.toNat = j := ⟨_, rfl⟩
  rw [hk, hj] at hO
  have hk2 : k ≤ 24 := by omega
  have hj2 : j ≤ 12 := by omega
  have HZ1 := hide (show sc + t = (k : Int) by omega)
  have HZ1' := hide (show IntKind.i64.wrap (sc + t) = (k : Int) by rw [IntKind.wrap_i64]; omega)
  have HZ2 := hide (show s = (j : Int) by omega)
  have HZ2' := hide (show IntKind.i64.wrap s = (j : Int) by rw [IntKind.wrap_i64]; omega)
  have b200 : ∀ i : Nat, i ≤ 200 → 10 ^ i < 10000 ^ 200 := fun i hi => Nat.lt_of_lt_of_le (ten_small hi) (Nat.pow_le_pow_right (by decide) (by decide))
  have CT1 := hide (fun W (y : Int) (hy : y = (k : Nat)) => l1Ten_e W y k hy (by omega))
  have CT2 := hide (fun W (y : Int) (hy : y = (j : Nat)) => l1Ten_e W y j hy (by omega))
  have CM1 := hide (fun W x (h : Below w.heap.size w W) (hx : Reads W x (L (10 ^ k))) => l1MulAbs_any W u x a (10 ^ k) (hu.later h) hx (pow16 la (by decide)) (b200 k (by omega)))
  have CM2 := hide (fun W x (h : Below w.heap.size w W) (hx : Reads W x (L (10 ^ j))) => l1MulAbs_any W v x b (10 ^ j) (hv.later h) hx (pow16 lb (by decide)) (b200 j (by omega)))
  have sm : ∀ x i : Nat, x < 10000 ^ 16 → i ≤ 24 → x * 10 ^ i < 10000 ^ 98 := fun x i hx hi => by
    have h2 : 10 ^ i < (10 ^ 4) ^ 50 := ten_lt (by omega)
    refine Nat.lt_of_lt_of_le (Nat.mul_lt_mul_of_lt_of_le hx (Nat.le_of_lt h2) (Nat.pow_pos (by decide))) ?_
    rw [show (10 : Nat) ^ 4 = 10000 from rfl, ← Nat.pow_add]
    exact Nat.pow_le_pow_right (by decide) (by decide)
  have bA := sm a k la hk2
  have bB := sm b j lb (by omega)
  have pB : 0 < b * 10 ^ j := Nat.mul_pos (by omega) (Nat.pow_pos (by decide))
  have up : (10000 : Nat) ^ 98 ≤ 10000 ^ 99 := Nat.pow_le_pow_right (by decide) (by decide)
  obtain ⟨n, hn⟩ : ∃ n, n = (!(p == q)) := ⟨_, rfl⟩
  rw [← hn] at hO
  have HN := hide hn
  have CV := hide (fun W x y (hx : Reads W x (L (a * 10 ^ k))) (hy : Reads W y (L (b * 10 ^ j))) => l2Div_any W n x y (a * 10 ^ k) (b * 10 ^ j) md hx hy pB (Nat.lt_of_lt_of_le bA up) (Nat.lt_of_lt_of_le bB up) h1 h7)
  have bN : (L (qrd n (a * 10 ^ k) (b * 10 ^ j) md)).length ≤ 1000 := by
    refine Nat.le_trans (L_len_le (k := 99) (Nat.lt_of_le_of_lt (qrd_le _ _ _ _) ?_)) (by decide)
    have e : (10000 : Nat) ^ 99 = 10000 ^ 98 * 10000 := Nat.pow_succ ..
    rw [e]
    generalize (10000 : Nat) ^ 98 = M at *
    omega
  generalize qrd n (a * 10 ^ k) (b * 10 ^ j) md = N at *
  generalize a * 10 ^ k = A at *
  generalize b * 10 ^ j = B at *
  have Hfin := hide hO
  have hbl : (((L b).length : Int) == 0) = false := by
    rw [beq_eq_false_iff_ne]
    have := mt L_len_zero.1 hb0
    omega
  obtain ⟨ao, b1, off, cap, rfl, hu0⟩ := id hu
  obtain ⟨ao', b2, off', cap', rfl, hv0⟩ := id hv
  clear hu0 hv0 hu hv la lb hn hO bA bB pB up b200 sm hk hj hb0
  have K0 := Dx3.start w p q (.slice ao (L a).length cap) (.slice ao' (L b).length cap') s t
  go_enter Tryz.func73, Tryz.ntmps73
  go_wp2
  generalize (((w.alloc (.cells #[.bool p, .slice ao (L a).length cap, .int .i64 s] 27)).alloc (.cells #[.bool q, .slice ao' (L b).length cap', .int .i64 t] 27)).alloc (.cells #[.bool false, .slice none 0 0, .int .i64 0] 27)) = w0 at *
  obtain ⟨kbw0, ka0, ka1, ka2, kc0, kc1, kc2, -, -, -, -, -, -, -⟩ := id K0
  have stab : ∀ w' : World, Below w0.heap.size w0 w' → (w'.cell? ⟨w.heap.size, 1, none⟩ = some (.slice ao (L a).length cap) ∧ w'.cell? ⟨w.heap.size + 1, 2, none⟩ = some (.int .i64 t)) := fun w' h => ⟨cell_later h ka1, cell_later h kc2⟩
  have Stab := hide stab
  clear stab
  go_region_held3 (fun w' => w'.cell? ⟨w.heap.size, 1, none⟩ = some (.slice ao (L a).length cap) ∧ w'.cell? ⟨w.heap.size + 1, 2, none⟩ = some (.int .i64 t))
    (first | with_reducible exact unhide Stab _ (Below.refl _ _).drew | with_reducible exact unhide Stab _ BX | with_reducible exact unhide Stab _ BY)
    (first
      | (go_at_call 100; refine (unhide CT1 _ _ ?_).mono ?_; (first | with_reducible exact unhide HZ1 | with_reducible exact unhide HZ1'); rintro e wt ⟨at0, ct0, rfl, ot, bt⟩; have BX : Below w0.heap.size w0 wt := (Below.refl _ _).drew.trans bt)
      | (go_at_call 98; refine (unhide CM1 _ _ ?_ ot.reads).mono ?_; exact kbw0.trans (BX.mono kbw0.size); rintro e wa ⟨aA, cA, rfl, oA, bm⟩; have BY : Below w0.heap.size w0 wa := BX.trans (bm.mono BX.size)))
  have K1 := K0.later BY
  have oA1 := oA
  have hsz1 := BX.size
  clear ka0 ka1 ka2 kc0 kc1 kc2 BX BY Stab bt bm ot
  obtain ⟨kbwa, ka0, ka1, ka2, kc0, kc1, kc2, -, -, -, -, -, -, -⟩ := id K1
  have stab : ∀ w' : World, Below wa.heap.size wa w' → (w'.cell? ⟨w.heap.size + 1, 1, none⟩ = some (.slice ao' (L b).length cap') ∧ w'.cell? ⟨w.heap.size, 2, none⟩ = some (.int .i64 s)) := fun w' h => ⟨cell_later h kc1, cell_later h ka2⟩
  have Stab := hide stab
  clear stab
  go_wp2
  go_region_held3 (fun w' => w'.cell? ⟨w.heap.size + 1, 1, none⟩ = some (.slice ao' (L b).length cap') ∧ w'.cell? ⟨w.heap.size, 2, none⟩ = some (.int .i64 s))
    (first | with_reducible exact unhide Stab _ (Below.refl _ _).drew | with_reducible exact unhide Stab _ BX | with_reducible exact unhide Stab _ BY)
    (first
      | (go_at_call 100; refine (unhide CT2 _ _ ?_).mono ?_; (first | with_reducible exact unhide HZ2 | with_reducible exact unhide HZ2'); rintro e wt ⟨at0, ct0, rfl, ot, bt⟩; have BX : Below wa.heap.size wa wt := (Below.refl _ _).drew.trans bt)
      | (go_at_call 98; refine (unhide CM2 _ _ ?_ ot.reads).mono ?_; exact kbwa.trans (BX.mono kbwa.size); rintro e wb ⟨aB, cB, rfl, oB, bm⟩; have BY : Below wa.heap.size wa wb := BX.trans (bm.mono BX.size)))
  have K2 := K1.later BY
  have oA2 := oA1.later BY
  have hsz2 := BX.size
  clear ka0 ka1 ka2 kc0 kc1 kc2 BX BY Stab bt bm ot oA oA1
  obtain ⟨kbwb, ka0, ka1, ka2, kc0, kc1, kc2, -, -, -, -, -, -, -⟩ := id K2
  have HNb := hide (show (!(p == q)) = n from (unhide HN).symm)
  go_wp2_with fail
  rw [unhide HNb]
  refine (unhide CV _ _ _ oA2.reads oB.reads).mono ?_
  rintro e w3 ⟨ab, cb, rfl, oN, b3⟩
  have K3 := K2.later b3
  have hl2 := K2.lt
  clear b3 oA2 oB
  by_cases hD : (txtL (L N)).length ≤ 30
  · have F := l2Make_fine _ n _ (L N) sc oN.reads (L_lim _) bN hD
    rw [neg_zof] at F
    have HE := hide (show dmake (zof n N) sc = (sg (zof n N), L N, sc, 0) by unfold dmake; rw [zof_abs2, if_pos hD])
    have HF := hide F
    clear F hD
    go_wp2_with fail
    refine (unhide HF).mono ?_
    rintro e w6 ⟨rfl, b6⟩
    have K6 := K3.later b6
    obtain ⟨kb6, -, -, -, -, -, -, kd50, kd51, kd52, kf50, kf51, kf52, kl5⟩ := id K6
    have o6 := oN.later b6
    clear K6 b6 oN
    go_wp2
    refine bodyPost_ret (v := .tuple #[.agg #[.bool (sg (zof n N)), .slice ab (L N).length cb, .int .i64 sc], .int .i64 0]) (by simp [results, Tryz.results73, go_sem, kd50, kd51, kd52]) rfl ?_
    rw [unhide Hfin, unhide HE]
    refine ⟨ab, cb, rfl, ?_, ((kb6.setCell (by simp; omega) _).setCell (by simp; omega) _).setCell (by simp; omega) _⟩
    exact (((o6.setBelow (by simp <;> omega) _).setBelow (by simp <;> omega) _).setBelow (by simp <;> omega) _).mono (by omega)
  · have F := l2Make_long _ n _ (L N) sc oN.reads (L_lim _) bN hD
    have HE := hide (show dmake (zof n N) sc = (false, [], 0, 3) by unfold dmake; rw [zof_abs2, if_neg hD])
    have HF := hide F
    clear F hD
    go_wp2_with fail
    refine (unhide HF).mono ?_
    rintro e w6 ⟨rfl, b6⟩
    have K6 := K3.later b6
    obtain ⟨kb6, -, -, -, -, -, -, kd50, kd51, kd52, kf50, kf51, kf52, kl5⟩ := id K6
    clear K6 b6 oN
    go_wp2
    refine bodyPost_ret (v := .tuple #[.agg #[.bool false, .slice none 0 0, .int .i64 0], .int .i64 3]) (by simp [results, Tryz.results73, go_sem, kd50, kd51, kd52]) rfl ?_
    rw [unhide Hfin, unhide HE]
    exact ⟨none, 0, rfl, Own.nil _ _, ((kb6.setCell (by simp; omega) _).setCell (by simp; omega) _).setCell (by simp; omega) _⟩

set_option maxHeartbeats 4000000 in
theorem specDecDiv_ok (w : World) (p q : Bool) (u v : Value) (l m : List Int) (s t sc md : Int) (hu : Reads w u l) (hv : Reads w v m) (hok : DivOk p l s q m t sc md) :
    Calls Tryz.prog 30 #[.agg #[.bool p, u, .int .i64 s], .agg #[.bool q, v, .int .i64 t], .int .i64 sc, .int .i64 md] w (GivesDecI w (ddivR p l s q m t sc md)) := by
  obtain ⟨ha, hb, hs, hm⟩ := id hok
  have CA := hide (fun W (h : Below w.heap.size w W) => l2Ok_any W p u l s (hu.later h))
  have CB := hide (fun W (h : Below w.heap.size w W) => l2Ok_any W q v m t (hv.later h))
  have CS := hide (fun W => l1In_any W sc 0 12)
  have CM := hide (fun W => l2Mode_any W md)
  rw [ha] at CA
  rw [hb] at CB
  rw [decide_eq_true hs] at CS
  rw [decide_eq_true hm] at CM
  obtain ⟨ao, b1, off, cap, rfl, hu0⟩ := id hu
  obtain ⟨ao', b2, off', cap', rfl, hv0⟩ := id hv
  clear hu0 hv0
  have K0 := Dx3.start w p q (.slice ao l.length cap) (.slice ao' m.length cap') s t
  obtain ⟨ha1, ha2, ha3, ha4⟩ := decB_iff.1 ha
  obtain ⟨hb1, hb2, hb3, hb4⟩ := decB_iff.1 hb
  obtain ⟨ea, la⟩ := ok_limbs (okB_true ha1)
  obtain ⟨eb, lb⟩ := ok_limbs (okB_true hb1)
  have hua : Reads w (.slice ao l.length cap) (L (val l).toNat) := by rw [← ea]; exact hu
  have hva : Reads w (.slice ao' m.length cap') (L (val m).toNat) := by rw [← eb]; exact hv
  obtain ⟨O, hO⟩ : ∃ O, O = ddivR p l s q m t sc md := ⟨_, rfl⟩
  have HC : ∀ W, Below w.heap.size w W → Calls Tryz.prog 73 #[.agg #[.bool p, .slice ao l.length cap, .int .i64 s], .agg #[.bool q, .slice ao' m.length cap', .int .i64 t], .int .i64 sc, .int .i64 md] W (GivesDecI W O) := by
    intro W h
    by_cases h0 : (val m).toNat = 0
    · have e : O = (false, [], 0, 2) := by rw [hO]; unfold ddivR; rw [if_pos hok, if_pos h0]
      rw [e]
      have em : m.length = 0 := by rw [eb, h0, L_zero]; rfl
      exact l2Quo_zero W p q _ _ l.length m.length _ _ s t sc md em
    · exact l2Quo_any W p q _ _ _ _ s t sc md (hua.later h) (hva.later h) ha3 ha4 hb3 hb4 hs.1 hs.2 hm.1 hm.2 la lb h0 O (by rw [hO]; unfold ddivR; rw [if_pos hok, if_neg h0])
  have HC := hide HC
  rw [← hO]
  obtain ⟨og, ol, os, oc⟩ := O
  clear ha1 ha2 hb1 hb2 ha hb hu hv ea eb la lb hua hva hok hs hm hO
  go_enter Tryz.func30, Tryz.ntmps30
  go_wp2_with fail
  refine (unhide CA _ K0.below).mono ?_
  rintro e w1 ⟨rfl, b1⟩
  have K1 := K0.later b1
  obtain ⟨kb1, ka01, ka11, ka21, kc01, kc11, kc21, -, -, -, -, -, -, -⟩ := id K1
  clear b1
  go_wp2_with fail
  refine (unhide CB w1 kb1).mono ?_
  rintro e w2 ⟨rfl, b2⟩
  have K2 := K1.later b2
  obtain ⟨kb2, ka02, ka12, ka22, kc02, kc12, kc22, -, -, -, -, -, -, -⟩ := id K2
  clear b2 ka01 ka11 ka21 kc01 kc11 kc21
  go_wp2_with fail
  refine (unhide CS _).mono ?_
  rintro e wz ⟨rfl, hw⟩
  have hw' := hw.symm
  subst hw'
  clear hw
  go_wp2_with fail
  refine (unhide CM _).mono ?_
  rintro e wz ⟨rfl, hw⟩
  have hw' := hw.symm
  subst hw'
  clear hw
  go_wp2_with fail
  refine (unhide HC w2 kb2).mono ?_
  rintro e w3 ⟨ab, cb, rfl, o3, b3⟩
  have K3 := K2.later b3
  obtain ⟨kb5, -, -, -, -, -, -, kd50, kd51, kd52, kf50, kf51, kf52, kl5⟩ := id K3
  have kz := K2.lt
  clear b3 ka02 ka12 ka22 kc02 kc12 kc22
  go_wp2
  refine bodyPost_ret (v := .tuple #[.agg #[.bool og, .slice ab ol.length cb, .int .i64 os], .int .i64 oc]) (by simp [results, Tryz.results30, go_sem, kd50, kd51, kd52]) rfl ?_
  refine ⟨ab, cb, rfl, ?_, ((kb5.setCell (by simp; omega) _).setCell (by simp; omega) _).setCell (by simp; omega) _⟩
  exact (((o3.setBelow (by simp <;> omega) _).setBelow (by simp <;> omega) _).setBelow (by simp <;> omega) _).mono (by omega)

theorem specDecDiv_any (w : World) (p q : Bool) (u v : Value) (l m : List Int) (s t sc md : Int) (hu : Reads w u l) (hv : Reads w v m) :
    Calls Tryz.prog 30 #[.agg #[.bool p, u, .int .i64 s], .agg #[.bool q, v, .int .i64 t], .int .i64 sc, .int .i64 md] w (GivesDecI w (ddivR p l s q m t sc md)) := by
  by_cases h : DivOk p l s q m t sc md
  · exact specDecDiv_ok w p q u v l m s t sc md hu hv h
  · exact specDecDiv_no w p q u v l m s t sc md hu hv h

end Go.Proofs.YthnkmjkgcnhlfaaGreatDoor
