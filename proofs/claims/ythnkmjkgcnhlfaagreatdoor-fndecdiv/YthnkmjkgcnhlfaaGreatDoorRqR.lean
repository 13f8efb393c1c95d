/- DecRound of the program and of the specification, by contracts. -/
import Derived.Test.YthnkmjkgcnhlfaaGreatDoorH20
import Derived.Test.YthnkmjkgcnhlfaaGreatDoorDcE
import Derived.Test.YthnkmjkgcnhlfaaGreatDoorH17
namespace Go.Proofs.YthnkmjkgcnhlfaaGreatDoor
open Go.RowKit
set_option maxRecDepth 100000

/-- What DecRound answers. -/
def droundR (p : Bool) (l : List Int) (s t mode : Int) : Bool × List Int × Int × Int :=
  if decB p l s = true ∧ (0 ≤ t ∧ t ≤ 12) ∧ (1 ≤ mode ∧ mode ≤ 7) then dmake (resZ (zof p ((val l).toNat * 10 ^ (t - s).toNat)) (10 ^ (s - t).toNat) mode) t else (false, [], 0, 1)

theorem xDecRound_len (p : Bool) (l : List Int) (s t mode : Int) : (droundR p l s t mode).2.1.length ≤ 1000 := by
  unfold droundR
  split
  · exact dmake_len _ _
  · simp

theorem dround_no {p : Bool} {l : List Int} {s t mode : Int} (h : ¬ (decB p l s = true ∧ (0 ≤ t ∧ t ≤ 12) ∧ (1 ≤ mode ∧ mode ≤ 7))) : droundR p l s t mode = (false, [], 0, 1) := if_neg h

theorem len_1000 {n : Nat} (h : n < 10000 ^ 500) : (L n).length ≤ 1000 := Nat.le_trans (L_len_le h) (by decide)

theorem res_len {X : Int} {b : Nat} {mode : Int} (h : X.natAbs < 10000 ^ 99) : (L (resZ X b mode).natAbs).length ≤ 1000 := by
  refine Nat.le_trans (L_len_le (k := 100) (Nat.lt_of_le_of_lt (resZ_abs X b mode) ?_)) (by decide)
  have e : (10000 : Nat) ^ 100 = 10000 ^ 99 * 10000 := Nat.pow_succ ..
  rw [e]
  have : 0 < (10000 : Nat) ^ 99 := Nat.pow_pos (by decide)
  generalize (10000 : Nat) ^ 99 = M at *
  omega

set_option maxHeartbeats 4000000 in
theorem implDecRound_ok (w : World) (p : Bool) (u : Value) (l : List Int) (s t mode : Int) (hu : Reads w u l) (tt : Tab w) (hd : Hd w) (ha : decB p l s = true) (ht : 0 ≤ t ∧ t ≤ 12) (hm : 1 ≤ mode ∧ mode ≤ 7) :
    Calls Tryz.prog 37 #[.agg #[.bool p, u, .int .i64 s], .int .i64 t, .int .i64 mode] w (GivesDecI w (droundR p l s t mode)) := by
  have CA := hide (fun W (h : Below w.heap.size w W) => implDecOk_any W p u l s (hu.later h) (tt.later h))
  have CS := hide (fun W => scaleOk_any W t)
  have CM := hide (fun W => modeOk_any W mode)
  rw [ha] at CA
  rw [decide_eq_true ht] at CS
  rw [decide_eq_true hm] at CM
  obtain ⟨ao, b1, off, cap, rfl, hu0⟩ := id hu
  clear hu0
  have K0 := DcBx.start w p (.slice ao l.length cap) s
  obtain ⟨ha1, ha2, ha3, ha4⟩ := decB_iff.1 ha
  obtain ⟨ea, la⟩ := ok_limbs (okB_true ha1)
  have Hfin := hide (show droundR p l s t mode = dmake (resZ (zof p ((val l).toNat * 10 ^ (t - s).toNat)) (10 ^ (s - t).toNat) mode) t from if_pos ⟨ha, ht, hm⟩)
  have hua : Reads w (.slice ao l.length cap) (L (val l).toNat) := by rw [← ea]; exact hu
  generalize (val l).toNat = a at *
  have bX : (zof p (a * 10 ^ (t - s).toNat)).natAbs < 10000 ^ 99 := by
    rw [zof_abs2]
    have h2 : 10 ^ (t - s).toNat < (10 ^ 4) ^ 50 := ten_lt (by omega)
    refine Nat.lt_of_lt_of_le (Nat.mul_lt_mul_of_lt_of_le la (Nat.le_of_lt h2) (Nat.pow_pos (by decide))) ?_
    rw [show (10 : Nat) ^ 4 = 10000 from rfl, ← Nat.pow_add]
    exact Nat.pow_le_pow_right (by decide) (by decide)
  have bD := res_len (b := 10 ^ (s - t).toNat) (mode := mode) bX
  obtain ⟨D, hD⟩ : ∃ D, D = resZ (zof p (a * 10 ^ (t - s).toNat)) (10 ^ (s - t).toNat) mode := ⟨_, rfl⟩
  have CR := hide (fun W (h : Below w.heap.size w W) => rescaled_any W p _ a s t mode (hua.later h) ha3 (by omega) ht.1 (by omega) (pow16 la (by decide)) hm.1 hm.2 D hD)
  rw [← hD] at Hfin bD
  clear ha1 ha2 ha ea la hua hu hD bX ht hm ha3 ha4
  go_enter Tryz.func37, Tryz.ntmps37
  go_wp2_with fail
  refine (unhide CA _ K0.below).mono ?_
  rintro e w1 ⟨rfl, b1⟩
  have K1 := K0.later b1
  obtain ⟨kb1, ka0, ka1, ka2, -, -, -, -, -, -, -⟩ := id K1
  clear b1
  go_wp2_with fail
  refine (unhide CS _).mono ?_
  rintro e w2 ⟨rfl, rfl⟩
  go_wp2_with fail
  refine (unhide CM _).mono ?_
  rintro e w3 ⟨rfl, rfl⟩
  go_wp2_with fail
  refine (unhide CR _ kb1).mono ?_
  rintro e wc ⟨ab, cb, rfl, oD, bC⟩
  have K3 := K1.later bC
  have kb3 := K3.below
  have kl1 := K1.lt
  clear K0 CA CS CM CR bC ka0 ka1 ka2
  by_cases hD : (txtL (L D.natAbs)).length ≤ 30
  · have F := fitted_fine wc (sg D) _ (L D.natAbs) t oD.reads (L_lim _) bD hD (tt.later kb3)
    have HE := hide (show dmake D t = (sg D, L D.natAbs, t, 0) from if_pos hD)
    have HF := hide F
    clear F hD
    go_wp2_with fail
    refine (unhide HF).mono ?_
    rintro e w4 ⟨rfl, b4⟩
    have K4 := K3.later b4
    go_wp2_with fail
    refine (coded_fine w4 _ _ _ _ _).mono ?_
    rintro e w5 ⟨rfl, b5⟩
    have K5 := K4.later b5
    obtain ⟨kb5, -, -, -, kd50, kd51, kd52, kf50, kf51, kf52, kl5⟩ := id K5
    have o5 := (oD.later b4).later b5
    clear K3 K4 K5 b4 b5
    go_wp2
    refine bodyPost_ret (v := .tuple #[.agg #[.bool (sg D), .slice ab (L D.natAbs).length cb, .int .i64 t], .int .i64 0]) (by simp [results, Tryz.results37, go_sem, kd50, kd51, kd52]) rfl ?_
    rw [unhide Hfin, unhide HE]
    refine ⟨ab, cb, rfl, ?_, ((kb5.setCell (by simp) _).setCell (by simp) _).setCell (by simp) _⟩
    exact (((o5.setBelow (by simp; omega) _).setBelow (by simp; omega) _).setBelow (by simp; omega) _).mono (by omega)
  · have F := fitted_long wc (sg D) _ (L D.natAbs) t oD.reads (L_lim _) bD hD (tt.later kb3)
    have HE := hide (show dmake D t = (false, [], 0, 3) from if_neg hD)
    have HF := hide F
    clear F hD
    go_wp2_with fail
    refine (unhide HF).mono ?_
    rintro e w4 ⟨rfl, b4⟩
    have K4 := K3.later b4
    go_wp2_with fail
    refine (coded_long w4 _ _ _ _ _ _ _ (hd.later K4.below)).mono ?_
    rintro e w5 ⟨rfl, b5⟩
    have K5 := K4.later b5
    obtain ⟨kb5, -, -, -, kd50, kd51, kd52, kf50, kf51, kf52, kl5⟩ := id K5
    clear K3 K4 K5 b4 b5
    go_wp2
    refine bodyPost_ret (v := .tuple #[.agg #[.bool false, .slice none 0 0, .int .i64 0], .int .i64 3]) (by simp [results, Tryz.results37, go_sem, kd50, kd51, kd52]) rfl ?_
    rw [unhide Hfin, unhide HE]
    exact ⟨none, 0, rfl, Own.nil _ _, ((kb5.setCell (by simp) _).setCell (by simp) _).setCell (by simp) _⟩

set_option maxHeartbeats 4000000 in
theorem implDecRound_no (w : World) (p : Bool) (u : Value) (l : List Int) (s t mode : Int) (hu : Reads w u l) (tt : Tab w) (h : ¬ (decB p l s = true ∧ (0 ≤ t ∧ t ≤ 12) ∧ (1 ≤ mode ∧ mode ≤ 7))) :
    Calls Tryz.prog 37 #[.agg #[.bool p, u, .int .i64 s], .int .i64 t, .int .i64 mode] w (GivesDecI w (droundR p l s t mode)) := by
  have CA := hide (fun W (h : Below w.heap.size w W) => implDecOk_any W p u l s (hu.later h) (tt.later h))
  have CS := hide (fun W => scaleOk_any W t)
  have CM := hide (fun W => modeOk_any W mode)
  have Hfin := hide (dround_no h)
  obtain ⟨ao, b1, off, cap, rfl, hu0⟩ := id hu
  clear hu0 hu
  have K0 := DcBx.start w p (.slice ao l.length cap) s
  cases ha : decB p l s with
  | false =>
    rw [ha] at CA
    clear ha h CS CM
    go_enter Tryz.func37, Tryz.ntmps37
    go_wp2_with fail
    refine (unhide CA _ K0.below).mono ?_
    rintro e w1 ⟨rfl, b1⟩
    have K5 := K0.later b1
    obtain ⟨kb5, -, -, -, kd50, kd51, kd52, kf50, kf51, kf52, kl5⟩ := id K5
    clear b1 K0
    go_wp2
    refine bodyPost_ret (v := .tuple #[.agg #[.bool false, .slice none 0 0, .int .i64 0], .int .i64 1]) (by simp [results, Tryz.results37, go_sem, kd50, kd51, kd52]) rfl ?_
    rw [unhide Hfin]
    exact ⟨none, 0, rfl, Own.nil _ _, ((kb5.setCell (by simp) _).setCell (by simp) _).setCell (by simp) _⟩
  | true =>
    rw [ha] at CA
    cases hs : decide (0 ≤ t ∧ t ≤ 12) with
    | false =>
      rw [hs] at CS
      clear ha h hs CM
      go_enter Tryz.func37, Tryz.ntmps37
      go_wp2_with fail
      refine (unhide CA _ K0.below).mono ?_
      rintro e w1 ⟨rfl, b1⟩
      have K5 := K0.later b1
      obtain ⟨kb5, -, -, -, kd50, kd51, kd52, kf50, kf51, kf52, kl5⟩ := id K5
      clear b1 K0
      go_wp2_with fail
      refine (unhide CS _).mono ?_
      rintro e w2 ⟨rfl, rfl⟩
      go_wp2
      refine bodyPost_ret (v := .tuple #[.agg #[.bool false, .slice none 0 0, .int .i64 0], .int .i64 1]) (by simp [results, Tryz.results37, go_sem, kd50, kd51, kd52]) rfl ?_
      rw [unhide Hfin]
      exact ⟨none, 0, rfl, Own.nil _ _, ((kb5.setCell (by simp) _).setCell (by simp) _).setCell (by simp) _⟩
    | true =>
      have hm : decide (1 ≤ mode ∧ mode ≤ 7) = false := by
        rw [decide_eq_false_iff_not]
        intro k
        exact h ⟨ha, of_decide_eq_true hs, k⟩
      rw [hs] at CS
      rw [hm] at CM
      clear ha h hs hm
      go_enter Tryz.func37, Tryz.ntmps37
      go_wp2_with fail
      refine (unhide CA _ K0.below).mono ?_
      rintro e w1 ⟨rfl, b1⟩
      have K5 := K0.later b1
      obtain ⟨kb5, -, -, -, kd50, kd51, kd52, kf50, kf51, kf52, kl5⟩ := id K5
      clear b1 K0
      go_wp2_with fail
      refine (unhide CS _).mono ?_
      rintro e w2 ⟨rfl, rfl⟩
      go_wp2_with fail
      refine (unhide CM _).mono ?_
      rintro e w3 ⟨rfl, rfl⟩
      go_wp2
      refine bodyPost_ret (v := .tuple #[.agg #[.bool false, .slice none 0 0, .int .i64 0], .int .i64 1]) (by simp [results, Tryz.results37, go_sem, kd50, kd51, kd52]) rfl ?_
      rw [unhide Hfin]
      exact ⟨none, 0, rfl, Own.nil _ _, ((kb5.setCell (by simp) _).setCell (by simp) _).setCell (by simp) _⟩

set_option maxHeartbeats 4000000 in
theorem specDecRound_no (w : World) (p : Bool) (u : Value) (l : List Int) (s t mode : Int) (hu : Reads w u l) (h : ¬ (decB p l s = true ∧ (0 ≤ t ∧ t ≤ 12) ∧ (1 ≤ mode ∧ mode ≤ 7))) :
    Calls Tryz.prog 38 #[.agg #[.bool p, u, .int .i64 s], .int .i64 t, .int .i64 mode] w (GivesDecI w (droundR p l s t mode)) := by
  have CA := hide (fun W (h : Below w.heap.size w W) => l2Ok_any W p u l s (hu.later h))
  have CS := hide (fun W => l1In_any W t 0 12)
  have CM := hide (fun W => l2Mode_any W mode)
  have Hfin := hide (dround_no h)
  obtain ⟨ao, b1, off, cap, rfl, hu0⟩ := id hu
  clear hu0 hu
  have K0 := DcBx.start w p (.slice ao l.length cap) s
  cases ha : decB p l s with
  | false =>
    rw [ha] at CA
    clear ha h CS CM
    go_enter Tryz.func38, Tryz.ntmps38
    go_wp2_with fail
    refine (unhide CA _ K0.below).mono ?_
    rintro e w1 ⟨rfl, b1⟩
    have K5 := K0.later b1
    obtain ⟨kb5, -, -, -, kd50, kd51, kd52, kf50, kf51, kf52, kl5⟩ := id K5
    clear b1 K0
    go_wp2
    refine bodyPost_ret (v := .tuple #[.agg #[.bool false, .slice none 0 0, .int .i64 0], .int .i64 1]) (by simp [results, Tryz.results38, go_sem, kd50, kd51, kd52]) rfl ?_
    rw [unhide Hfin]
    exact ⟨none, 0, rfl, Own.nil _ _, ((kb5.setCell (by simp) _).setCell (by simp) _).setCell (by simp) _⟩
  | true =>
    rw [ha] at CA
    cases hs : decide (0 ≤ t ∧ t ≤ 12) with
    | false =>
      rw [hs] at CS
      clear ha h hs CM
      go_enter Tryz.func38, Tryz.ntmps38
      go_wp2_with fail
      refine (unhide CA _ K0.below).mono ?_
      rintro e w1 ⟨rfl, b1⟩
      have K5 := K0.later b1
      obtain ⟨kb5, -, -, -, kd50, kd51, kd52, kf50, kf51, kf52, kl5⟩ := id K5
      clear b1 K0
      go_wp2_with fail
      refine (unhide CS _).mono ?_
      rintro e w2 ⟨rfl, rfl⟩
      go_wp2
      refine bodyPost_ret (v := .tuple #[.agg #[.bool false, .slice none 0 0, .int .i64 0], .int .i64 1]) (by simp [results, Tryz.results38, go_sem, kd50, kd51, kd52]) rfl ?_
      rw [unhide Hfin]
      exact ⟨none, 0, rfl, Own.nil _ _, ((kb5.setCell (by simp) _).setCell (by simp) _).setCell (by simp) _⟩
    | true =>
      have hm : decide (1 ≤ mode ∧ mode ≤ 7) = false := by
        rw [decide_eq_false_iff_not]
        intro k
        exact h ⟨ha, of_decide_eq_true hs, k⟩
      rw [hs] at CS
      rw [hm] at CM
      clear ha h hs hm
      go_enter Tryz.func38, Tryz.ntmps38
      go_wp2_with fail
      refine (unhide CA _ K0.below).mono ?_
      rintro e w1 ⟨rfl, b1⟩
      have K5 := K0.later b1
      obtain ⟨kb5, -, -, -, kd50, kd51, kd52, kf50, kf51, kf52, kl5⟩ := id K5
      clear b1 K0
      go_wp2_with fail
      refine (unhide CS _).mono ?_
      rintro e w2 ⟨rfl, rfl⟩
      go_wp2_with fail
      refine (unhide CM _).mono ?_
      rintro e w3 ⟨rfl, rfl⟩
      go_wp2
      refine bodyPost_ret (v := .tuple #[.agg #[.bool false, .slice none 0 0, .int .i64 0], .int .i64 1]) (by simp [results, Tryz.results38, go_sem, kd50, kd51, kd52]) rfl ?_
      rw [unhide Hfin]
      exact ⟨none, 0, rfl, Own.nil _ _, ((kb5.setCell (by simp) _).setCell (by simp) _).setCell (by simp) _⟩

/-- The specification's l2Round. -/
theorem round_up {p : Bool} {a : Nat} {s t mode : Int} (h : s ≤ t) : resZ (zof p (a * 10 ^ (t - s).toNat)) (10 ^ (s - t).toNat) mode = zof p (a * 10 ^ (t - s).toNat) := by
  rw [show (s - t).toNat = 0 by omega, Nat.pow_zero, resZ_one]

theorem round_down {p : Bool} {a : Nat} {s t mode : Int} (h : t < s) (hp : p = sg (zof p a)) : resZ (zof p (a * 10 ^ (t - s).toNat)) (10 ^ (s - t).toNat) mode = zof p (qrd p a (10 ^ (s - t).toNat) mode) := by
  rw [show (t - s).toNat = 0 by omega, Nat.pow_zero, Nat.mul_one]
  unfold resZ
  rw [← hp, zof_abs2]

theorem neg_zof {p : Bool} {N : Nat} : (p && decide ((L N).length ≠ 0)) = sg (zof p N) := by
  by_cases h : N = 0
  · subst h
    simp [L_zero, sg, zof]
  · have : (L N).length ≠ 0 := mt L_len_zero.1 h
    simp only [this, ne_eq, not_false_eq_true, decide_true, Bool.and_true]
    unfold sg zof
    cases p
    · simp
    · simp; omega

set_option maxHeartbeats 4000000 in
theorem l2Round_any (w : World) (p : Bool) (u : Value) (a : Nat) (s t mode : Int) (hu : Reads w u (L a)) (hs0 : 0 ≤ s) (hs : s ≤ 12) (ht0 : 0 ≤ t) (ht : t ≤ 12) (h1 : 1 ≤ mode) (h7 : mode ≤ 7) (la : a < 10000 ^ 16) (hp : p = sg (zof p a)) :
    Calls Tryz.prog 76 #[.agg #[.bool p, u, .int .i64 s], .int .i64 t, .int .i64 mode] w (GivesDecI w (dmake (resZ (zof p (a * 10 ^ (t - s).toNat)) (10 ^ (s - t).toNat) mode) t)) := by
  by_cases hst : s ≤ t
  · rw [round_up hst]
    obtain ⟨s, rfl⟩ := Int.eq_ofNat_of_zero_le hs0
    obtain ⟨t, rfl⟩ := Int.eq_ofNat_of_zero_le ht0
    rw [show ((t : Int) - (s : Int)).toNat = t - s by omega]
    have CT := hide (fun W (h : Below w.heap.size w W) => l2At_any W p u a s t (hu.later h) (by omega) (by omega) (pow16 la (by decide)))
    have bN : (L (a * 10 ^ (t - s))).length ≤ 1000 := by
      refine Nat.le_trans (L_len_le (k := 150) ?_) (by decide)
      have := scaled_small (k := t - s) false la (by omega)
      rwa [zof_abs'] at this
    generalize a * 10 ^ (t - s) = N at *
    obtain ⟨ao, b1, off, cap, rfl, hu0⟩ := id hu
    clear hu0 hu la hp h1 h7
    have K2 := DcBx.start w p (.slice ao (L a).length cap) s
    go_enter Tryz.func76, Tryz.ntmps76
    go_wp2
    generalize ((w.alloc (.cells #[.bool p, .slice ao (L a).length cap, .int .i64 s] 27)).alloc (.cells #[.bool false, .slice none 0 0, .int .i64 0] 27)) = w2 at *
    obtain ⟨kb2, ka0, ka1, ka2, -, -, -, -, -, -, -⟩ := id K2
    have stab : ∀ w' : World, Below (w.heap.size + 1) w2 w' → (w'.cell? ⟨w.heap.size, 0, none⟩ = some (.bool p) ∧ w'.cell? ⟨w.heap.size, 1, none⟩ = some (.slice ao (L a).length cap) ∧ w'.cell? ⟨w.heap.size, 2, none⟩ = some (.int .i64 s)) := fun w' h => ⟨(h.cell (p := ⟨w.heap.size, 0, none⟩) (by simp)).trans ka0, (h.cell (p := ⟨w.heap.size, 1, none⟩) (by simp)).trans ka1, (h.cell (p := ⟨w.heap.size, 2, none⟩) (by simp)).trans ka2⟩
    have Stab := hide stab
    clear stab
    by_cases hD : (txtL (L N)).length ≤ 30
    · have CK := hide (fun W x (hx : Reads W x (L N)) => l2Make_fine W p x (L N) t hx (L_lim _) bN hD)
      rw [neg_zof] at CK
      have HE := hide (show dmake (zof p N) t = (sg (zof p N), L N, (t : Int), 0) from by unfold dmake; rw [zof_abs2, if_pos hD])
      clear hD
      go_wp2_with fail
      go_region_held3 (fun w' => w'.cell? ⟨w.heap.size, 0, none⟩ = some (.bool p) ∧ w'.cell? ⟨w.heap.size, 1, none⟩ = some (.slice ao (L a).length cap) ∧ w'.cell? ⟨w.heap.size, 2, none⟩ = some (.int .i64 s))
        ((refine unhide Stab _ ?_; repeat' (first | (exact unhide BQ4) | (exact unhide BQ3) | with_reducible exact Below.refl _ _ | refine Below.drew ?_ | refine Below.setCell ?_ ?_ _ | omega | (simp <;> omega))))
        (first
          | (go_at_call 90; refine (unhide CT _ ?_).mono ?_; exact kb2.drew; rintro e w3 ⟨ab, cb, rfl, o3, b3⟩; have BW3 : Below w2.heap.size w2 w3 := (Below.refl _ _).drew.trans b3; have BQ3 := hide (BW3.mono (Nat.le_of_lt K2.lt)))
          | (go_at_call 91; refine (unhide CK _ _ o3.reads).mono ?_; rintro e w4 ⟨rfl, b4⟩; have BW4 : Below w2.heap.size w2 w4 := BW3.trans (b4.mono BW3.size); have BQ4 := hide (BW4.mono (Nat.le_of_lt K2.lt)); have K4 := K2.later BW4; obtain ⟨kb5, -, -, -, kd50, kd51, kd52, kf50, kf51, kf52, kl5⟩ := id K4; have kz := K2.lt; have kz3 := BW3.size; have o4 : Own w2.heap.size w4 _ (L N) := (o3.later b4).mono (by first | exact Nat.le_refl _ | (have := BWt.size; omega))))
      all_goals
        go_wp2
        refine bodyPost_ret (v := .tuple #[.agg #[.bool (sg (zof p N)), .slice ab (L N).length cb, .int .i64 t], .int .i64 0]) (by simp [results, Tryz.results76, go_sem, kd50, kd51, kd52]) rfl ?_
        rw [unhide HE]
        refine ⟨ab, cb, rfl, ?_, ((kb5.setCell (by simp) _).setCell (by simp) _).setCell (by simp) _⟩
        exact (((o4.setBelow (by simp; omega) _).setBelow (by simp; omega) _).setBelow (by simp; omega) _).mono (by omega)
    · have CK := hide (fun W x (hx : Reads W x (L N)) => l2Make_long W p x (L N) t hx (L_lim _) bN hD)
      skip
      have HE := hide (show dmake (zof p N) t = (false, [], 0, 3) from by unfold dmake; rw [zof_abs2, if_neg hD])
      clear hD
      go_wp2_with fail
      go_region_held3 (fun w' => w'.cell? ⟨w.heap.size, 0, none⟩ = some (.bool p) ∧ w'.cell? ⟨w.heap.size, 1, none⟩ = some (.slice ao (L a).length cap) ∧ w'.cell? ⟨w.heap.size, 2, none⟩ = some (.int .i64 s))
        ((refine unhide Stab _ ?_; repeat' (first | (exact unhide BQ4) | (exact unhide BQ3) | with_reducible exact Below.refl _ _ | refine Below.drew ?_ | refine Below.setCell ?_ ?_ _ | omega | (simp <;> omega))))
        (first
          | (go_at_call 90; refine (unhide CT _ ?_).mono ?_; exact kb2.drew; rintro e w3 ⟨ab, cb, rfl, o3, b3⟩; have BW3 : Below w2.heap.size w2 w3 := (Below.refl _ _).drew.trans b3; have BQ3 := hide (BW3.mono (Nat.le_of_lt K2.lt)))
          | (go_at_call 91; refine (unhide CK _ _ o3.reads).mono ?_; rintro e w4 ⟨rfl, b4⟩; have BW4 : Below w2.heap.size w2 w4 := BW3.trans (b4.mono BW3.size); have BQ4 := hide (BW4.mono (Nat.le_of_lt K2.lt)); have K4 := K2.later BW4; obtain ⟨kb5, -, -, -, kd50, kd51, kd52, kf50, kf51, kf52, kl5⟩ := id K4; have kz := K2.lt; have kz3 := BW3.size; have o4 : Own w2.heap.size w4 _ (L N) := (o3.later b4).mono (by first | exact Nat.le_refl _ | (have := BWt.size; omega))))
      all_goals
        go_wp2
        refine bodyPost_ret (v := .tuple #[.agg #[.bool false, .slice none 0 0, .int .i64 0], .int .i64 3]) (by simp [results, Tryz.results76, go_sem, kd50, kd51, kd52]) rfl ?_
        rw [unhide HE]
        refine ⟨none, 0, rfl, ?_, ((kb5.setCell (by simp) _).setCell (by simp) _).setCell (by simp) _⟩
        exact Own.nil _ _
  · have hts : t < s := by omega
    rw [round_down hts hp]
    obtain ⟨k, hk⟩ : ∃ k : Nat, (s - t).toNat = k := ⟨_, rfl⟩
    have HZ1 := hide (show s - t = (k : Int) by omega)
    have HZ1' := hide (show IntKind.i64.wrap (s - t) = (k : Int) by rw [IntKind.wrap_i64]; omega)
    rw [hk]
    have hk2 : k ≤ 12 := by omega
    have bT : 10 ^ k < 10000 ^ 99 := by
      have h2 : 10 ^ k < (10 ^ 4) ^ 99 := ten_lt (by omega)
      exact h2
    have CT := hide (fun W (y : Int) (hy : y = (k : Nat)) => l1Ten_e W y k hy (by omega))
    have CV := hide (fun W x (h : Below w.heap.size w W) (hx : Reads W x (L (10 ^ k))) => l2Div_any W p u x a (10 ^ k) mode (hu.later h) hx (ten_pos _) (pow16 la (by decide)) bT h1 h7)
    have bN : (L (qrd p a (10 ^ k) mode)).length ≤ 1000 := by
      refine Nat.le_trans (L_len_le (k := 17) (Nat.lt_of_le_of_lt (qrd_le _ _ _ _) ?_)) (by decide)
      have e : (10000 : Nat) ^ 17 = 10000 ^ 16 * 10000 := Nat.pow_succ ..
      rw [e]
      generalize (10000 : Nat) ^ 16 = M at *
      omega
    generalize qrd p a (10 ^ k) mode = N at *
    have hst' : ¬ s ≤ t := hst
    obtain ⟨ao, b1, off, cap, rfl, hu0⟩ := id hu
    clear hu0 hu la hp h1 h7 hk bT hst
    have K2 := DcBx.start w p (.slice ao (L a).length cap) s
    go_enter Tryz.func76, Tryz.ntmps76
    go_wp2
    generalize ((w.alloc (.cells #[.bool p, .slice ao (L a).length cap, .int .i64 s] 27)).alloc (.cells #[.bool false, .slice none 0 0, .int .i64 0] 27)) = w2 at *
    obtain ⟨kb2, ka0, ka1, ka2, -, -, -, -, -, -, -⟩ := id K2
    have stab : ∀ w' : World, Below (w.heap.size + 1) w2 w' → (w'.cell? ⟨w.heap.size, 0, none⟩ = some (.bool p) ∧ w'.cell? ⟨w.heap.size, 1, none⟩ = some (.slice ao (L a).length cap) ∧ w'.cell? ⟨w.heap.size, 2, none⟩ = some (.int .i64 s)) := fun w' h => ⟨(h.cell (p := ⟨w.heap.size, 0, none⟩) (by simp)).trans ka0, (h.cell (p := ⟨w.heap.size, 1, none⟩) (by simp)).trans ka1, (h.cell (p := ⟨w.heap.size, 2, none⟩) (by simp)).trans ka2⟩
    have Stab := hide stab
    clear stab
    by_cases hD : (txtL (L N)).length ≤ 30
    · have CK := hide (fun W x (hx : Reads W x (L N)) => l2Make_fine W p x (L N) t hx (L_lim _) bN hD)
      rw [neg_zof] at CK
      have HE := hide (show dmake (zof p N) t = (sg (zof p N), L N, (t : Int), 0) from by unfold dmake; rw [zof_abs2, if_pos hD])
      clear hD
      go_wp2_with fail
      go_region_held3 (fun w' => w'.cell? ⟨w.heap.size, 0, none⟩ = some (.bool p) ∧ w'.cell? ⟨w.heap.size, 1, none⟩ = some (.slice ao (L a).length cap) ∧ w'.cell? ⟨w.heap.size, 2, none⟩ = some (.int .i64 s))
        ((refine unhide Stab _ ?_; repeat' (first | (exact unhide BQ4) | (exact unhide BQ3) | (exact unhide BQt) | with_reducible exact Below.refl _ _ | refine Below.drew ?_ | refine Below.setCell ?_ ?_ _ | omega | (simp <;> omega))))
        (first
          | (go_at_call 100; refine (unhide CT _ _ ?_).mono ?_; (first | with_reducible exact unhide HZ1 | with_reducible exact unhide HZ1'); rintro e wt ⟨at0, ct0, rfl, ot, bt⟩; have BWt : Below w2.heap.size w2 wt := (Below.refl _ _).drew.trans bt; have BQt := hide (BWt.mono (Nat.le_of_lt K2.lt)))
          | (go_at_call 99; refine (unhide CV _ _ ?_ ot.reads).mono ?_; exact kb2.trans (BWt.mono kb2.size); rintro e w3 ⟨ab, cb, rfl, o3, b3⟩; have BW3 : Below w2.heap.size w2 w3 := BWt.trans (b3.mono BWt.size); have BQ3 := hide (BW3.mono (Nat.le_of_lt K2.lt)); have hs0 := BWt.size)
          | (go_at_call 91; refine (unhide CK _ _ o3.reads).mono ?_; rintro e w4 ⟨rfl, b4⟩; have BW4 : Below w2.heap.size w2 w4 := BW3.trans (b4.mono BW3.size); have BQ4 := hide (BW4.mono (Nat.le_of_lt K2.lt)); have K4 := K2.later BW4; obtain ⟨kb5, -, -, -, kd50, kd51, kd52, kf50, kf51, kf52, kl5⟩ := id K4; have kz := K2.lt; have kz3 := BW3.size; have o4 : Own w2.heap.size w4 _ (L N) := (o3.later b4).mono (by first | exact Nat.le_refl _ | (have := BWt.size; omega))))
      all_goals
        go_wp2
        refine bodyPost_ret (v := .tuple #[.agg #[.bool (sg (zof p N)), .slice ab (L N).length cb, .int .i64 t], .int .i64 0]) (by simp [results, Tryz.results76, go_sem, kd50, kd51, kd52]) rfl ?_
        rw [unhide HE]
        refine ⟨ab, cb, rfl, ?_, ((kb5.setCell (by simp) _).setCell (by simp) _).setCell (by simp) _⟩
        exact (((o4.setBelow (by simp; omega) _).setBelow (by simp; omega) _).setBelow (by simp; omega) _).mono (by omega)
    · have CK := hide (fun W x (hx : Reads W x (L N)) => l2Make_long W p x (L N) t hx (L_lim _) bN hD)
      skip
      have HE := hide (show dmake (zof p N) t = (false, [], 0, 3) from by unfold dmake; rw [zof_abs2, if_neg hD])
      clear hD
      go_wp2_with fail
      go_region_held3 (fun w' => w'.cell? ⟨w.heap.size, 0, none⟩ = some (.bool p) ∧ w'.cell? ⟨w.heap.size, 1, none⟩ = some (.slice ao (L a).length cap) ∧ w'.cell? ⟨w.heap.size, 2, none⟩ = some (.int .i64 s))
        ((refine unhide Stab _ ?_; repeat' (first | (exact unhide BQ4) | (exact unhide BQ3) | (exact unhide BQt) | with_reducible exact Below.refl _ _ | refine Below.drew ?_ | refine Below.setCell ?_ ?_ _ | omega | (simp <;> omega))))
        (first
          | (go_at_call 100; refine (unhide CT _ _ ?_).mono ?_; (first | with_reducible exact unhide HZ1 | with_reducible exact unhide HZ1'); rintro e wt ⟨at0, ct0, rfl, ot, bt⟩; have BWt : Below w2.heap.size w2 wt := (Below.refl _ _).drew.trans bt; have BQt := hide (BWt.mono (Nat.le_of_lt K2.lt)))
          | (go_at_call 99; refine (unhide CV _ _ ?_ ot.reads).mono ?_; exact kb2.trans (BWt.mono kb2.size); rintro e w3 ⟨ab, cb, rfl, o3, b3⟩; have BW3 : Below w2.heap.size w2 w3 := BWt.trans (b3.mono BWt.size); have BQ3 := hide (BW3.mono (Nat.le_of_lt K2.lt)); have hs0 := BWt.size)
          | (go_at_call 91; refine (unhide CK _ _ o3.reads).mono ?_; rintro e w4 ⟨rfl, b4⟩; have BW4 : Below w2.heap.size w2 w4 := BW3.trans (b4.mono BW3.size); have BQ4 := hide (BW4.mono (Nat.le_of_lt K2.lt)); have K4 := K2.later BW4; obtain ⟨kb5, -, -, -, kd50, kd51, kd52, kf50, kf51, kf52, kl5⟩ := id K4; have kz := K2.lt; have kz3 := BW3.size; have o4 : Own w2.heap.size w4 _ (L N) := (o3.later b4).mono (by first | exact Nat.le_refl _ | (have := BWt.size; omega))))
      all_goals
        go_wp2
        refine bodyPost_ret (v := .tuple #[.agg #[.bool false, .slice none 0 0, .int .i64 0], .int .i64 3]) (by simp [results, Tryz.results76, go_sem, kd50, kd51, kd52]) rfl ?_
        rw [unhide HE]
        refine ⟨none, 0, rfl, ?_, ((kb5.setCell (by simp) _).setCell (by simp) _).setCell (by simp) _⟩
        exact Own.nil _ _

set_option maxHeartbeats 4000000 in
theorem specDecRound_ok (w : World) (p : Bool) (u : Value) (l : List Int) (s t mode : Int) (hu : Reads w u l) (ha : decB p l s = true) (ht : 0 ≤ t ∧ t ≤ 12) (hm : 1 ≤ mode ∧ mode ≤ 7) :
    Calls Tryz.prog 38 #[.agg #[.bool p, u, .int .i64 s], .int .i64 t, .int .i64 mode] w (GivesDecI w (droundR p l s t mode)) := by
  have CA := hide (fun W (h : Below w.heap.size w W) => l2Ok_any W p u l s (hu.later h))
  have CS := hide (fun W => l1In_any W t 0 12)
  have CM := hide (fun W => l2Mode_any W mode)
  rw [ha] at CA
  rw [decide_eq_true ht] at CS
  rw [decide_eq_true hm] at CM
  obtain ⟨ao, b1, off, cap, rfl, hu0⟩ := id hu
  clear hu0
  have K0 := DcBx.start w p (.slice ao l.length cap) s
  obtain ⟨ha1, ha2, ha3, ha4⟩ := decB_iff.1 ha
  obtain ⟨ea, la⟩ := ok_limbs (okB_true ha1)
  have hsp := ok_sign (okB_true ha1)
  unfold zv at hsp
  have Hfin := hide (show droundR p l s t mode = dmake (resZ (zof p ((val l).toNat * 10 ^ (t - s).toNat)) (10 ^ (s - t).toNat) mode) t from if_pos ⟨ha, ht, hm⟩)
  have hua : Reads w (.slice ao l.length cap) (L (val l).toNat) := by rw [← ea]; exact hu
  have CR := hide (fun W (h : Below w.heap.size w W) => l2Round_any W p _ _ s t mode (hua.later h) ha3 ha4 ht.1 ht.2 hm.1 hm.2 la hsp)
  generalize dmake (resZ (zof p ((val l).toNat * 10 ^ (t - s).toNat)) (10 ^ (s - t).toNat) mode) t = O at *
  obtain ⟨og, ol, os, oc⟩ := O
  clear ha1 ha2 ha ea la hua hu hsp ht hm ha3 ha4
  go_enter Tryz.func38, Tryz.ntmps38
  go_wp2_with fail
  refine (unhide CA _ K0.below).mono ?_
  rintro e w1 ⟨rfl, b1⟩
  have K1 := K0.later b1
  obtain ⟨kb1, ka0, ka1, ka2, -, -, -, -, -, -, -⟩ := id K1
  clear b1
  go_wp2_with fail
  refine (unhide CS _).mono ?_
  rintro e w2 ⟨rfl, rfl⟩
  go_wp2_with fail
  refine (unhide CM _).mono ?_
  rintro e w3 ⟨rfl, rfl⟩
  go_wp2_with fail
  refine (unhide CR _ kb1).mono ?_
  rintro e wc ⟨ab, cb, rfl, oD, bC⟩
  have K3 := K1.later bC
  have kl1 := K1.lt
  obtain ⟨kb5, -, -, -, kd50, kd51, kd52, kf50, kf51, kf52, kl5⟩ := id K3
  clear K0 K3 CA CS CM CR bC ka0 ka1 ka2
  go_wp2
  refine bodyPost_ret (v := .tuple #[.agg #[.bool og, .slice ab ol.length cb, .int .i64 os], .int .i64 oc]) (by simp [results, Tryz.results38, go_sem, kd50, kd51, kd52]) rfl ?_
  rw [unhide Hfin]
  refine ⟨ab, cb, rfl, ?_, ((kb5.setCell (by simp) _).setCell (by simp) _).setCell (by simp) _⟩
  exact (((oD.setBelow (by simp; omega) _).setBelow (by simp; omega) _).setBelow (by simp; omega) _).mono (by omega)

theorem specDecRound_any (w : World) (p : Bool) (u : Value) (l : List Int) (s t mode : Int) (hu : Reads w u l) :
    Calls Tryz.prog 38 #[.agg #[.bool p, u, .int .i64 s], .int .i64 t, .int .i64 mode] w (GivesDecI w (droundR p l s t mode)) := by
  by_cases h : decB p l s = true ∧ (0 ≤ t ∧ t ≤ 12) ∧ (1 ≤ mode ∧ mode ≤ 7)
  · exact specDecRound_ok w p u l s t mode hu h.1 h.2.1 h.2.2
  · exact specDecRound_no w p u l s t mode hu h

theorem implDecRound_any (w : World) (p : Bool) (u : Value) (l : List Int) (s t mode : Int) (hu : Reads w u l) (tt : Tab w) (hd : Hd w) :
    Calls Tryz.prog 37 #[.agg #[.bool p, u, .int .i64 s], .int .i64 t, .int .i64 mode] w (GivesDecI w (droundR p l s t mode)) := by
  by_cases h : decB p l s = true ∧ (0 ≤ t ∧ t ≤ 12) ∧ (1 ≤ mode ∧ mode ≤ 7)
  · exact implDecRound_ok w p u l s t mode hu tt hd h.1 h.2.1 h.2.2
  · exact implDecRound_no w p u l s t mode hu tt h

end Go.Proofs.YthnkmjkgcnhlfaaGreatDoor
