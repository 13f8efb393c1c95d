/- DecAdd of the specification, by a contract. -/
import Derived.Test.YthnkmjkgcnhlfaaGreatDoorDcD
import Derived.Test.YthnkmjkgcnhlfaaGreatDoorL1A
namespace Go.Proofs.YthnkmjkgcnhlfaaGreatDoor
open Go.RowKit
set_option maxRecDepth 100000

theorem neg_made {D : Int} {neg : Bool} (h : D ≠ 0 → neg = sg D) : (neg && decide ((L D.natAbs).length ≠ 0)) = sg D := by
  by_cases h0 : D = 0
  · subst h0
    simp [L_zero, sg]
  · rw [h h0]
    have : (L D.natAbs).length ≠ 0 := by
      intro e
      have e2 : L D.natAbs = L 0 := by rw [L_zero]; exact List.length_eq_zero_iff.1 e
      have := L_inj e2
      omega
    simp [this]

set_option maxHeartbeats 4000000 in
theorem l2Add_any (w : World) (p q : Bool) (u v : Value) (a b : Nat) (s t : Int) (hu : Reads w u (L a)) (hv : Reads w v (L b)) (hs0 : 0 ≤ s) (hs : s ≤ 12) (ht0 : 0 ≤ t) (ht : t ≤ 12) (la : a < 10000 ^ 16) (lb : b < 10000 ^ 16) :
    Calls Tryz.prog 51 #[.agg #[.bool p, u, .int .i64 s], .agg #[.bool q, v, .int .i64 t]] w (GivesDecI w (dmake (zof p (a * 10 ^ (max s t - s).toNat) + zof q (b * 10 ^ (max s t - t).toNat)) (max s t))) := by
  have CG := hide (fun W => l2Greater_any W s t)
  obtain ⟨g, hg, hg2, hg3, hg4⟩ : ∃ g : Int, g = max s t ∧ g ≤ 12 ∧ s ≤ g ∧ t ≤ g := ⟨_, rfl, by omega, by omega, by omega⟩
  rw [← hg] at CG ⊢
  clear hg
  obtain ⟨s, rfl⟩ := Int.eq_ofNat_of_zero_le hs0
  obtain ⟨t, rfl⟩ := Int.eq_ofNat_of_zero_le ht0
  obtain ⟨g, rfl⟩ := Int.eq_ofNat_of_zero_le (show 0 ≤ g by omega)
  rw [show ((g : Int) - (s : Int)).toNat = g - s by omega, show ((g : Int) - (t : Int)).toNat = g - t by omega]
  have CA := hide (fun W (h : Below w.heap.size w W) => l2At_any W p u a s g (hu.later h) (by omega) (by omega) (pow16 la (by decide)))
  have CB := hide (fun W (h : Below w.heap.size w W) => l2At_any W q v b t g (hv.later h) (by omega) (by omega) (pow16 lb (by decide)))
  have bA : a * 10 ^ (g - s) < 10000 ^ 150 := by have := scaled_small (k := g - s) false la (by omega); rwa [zof_abs'] at this
  have bB : b * 10 ^ (g - t) < 10000 ^ 150 := by have := scaled_small (k := g - t) false lb (by omega); rwa [zof_abs'] at this
  have up : (10000 : Nat) ^ 150 ≤ 10000 ^ 199 := Nat.pow_le_pow_right (by decide) (by decide)
  generalize a * 10 ^ (g - s) = A at *
  generalize b * 10 ^ (g - t) = B at *
  obtain ⟨D, hD⟩ : ∃ D, D = zof p A + zof q B := ⟨_, rfl⟩
  have C4 := hide (fun W x y (hx : Reads W x (L A)) (hy : Reads W y (L B)) => l1Add_any W p q x y A B hx hy (Nat.lt_of_lt_of_le bA up) (Nat.lt_of_lt_of_le bB up) D hD)
  rw [← hD]
  have bD : (L D.natAbs).length ≤ 1000 := by
    refine Nat.le_trans (L_len_le (n := D.natAbs) (k := 151) ?_) (by decide)
    have e : (10000 : Nat) ^ 151 = 10000 ^ 150 * 10000 := Nat.pow_succ ..
    rw [e]
    have h1 := zof_abs' p A
    have h2 := zof_abs' q B
    have : 0 < (10000 : Nat) ^ 150 := Nat.pow_pos (by decide)
    generalize (10000 : Nat) ^ 150 = M at *
    omega
  clear hD bA bB up la lb hs0 hs ht0 ht hg2 hg3 hg4
  obtain ⟨ao, b1, off, cap, rfl, hu0⟩ := id hu
  obtain ⟨ao', b2, off', cap', rfl, hv0⟩ := id hv
  clear hu0 hv0 hu hv
  have K0 := Dx3.start w p q (.slice ao (L a).length cap) (.slice ao' (L b).length cap') s t
  go_enter Tryz.func51, Tryz.ntmps51
  go_wp2_with fail
  refine (unhide CG _).mono ?_
  rintro e w1 ⟨rfl, rfl⟩
  generalize (((w.alloc (.cells #[.bool p, .slice ao (L a).length cap, .int .i64 s] 27)).alloc (.cells #[.bool q, .slice ao' (L b).length cap', .int .i64 t] 27)).alloc (.cells #[.bool false, .slice none 0 0, .int .i64 0] 27)) = w2 at *
  obtain ⟨kb2, ka02, ka12, ka22, kc02, kc12, kc22, -, -, -, -, -, -, -⟩ := id K0
  have stab : ∀ w' : World, Below w2.heap.size w2 w' → ((w'.cell? ⟨w.heap.size, 0, none⟩ = some (.bool p) ∧ w'.cell? ⟨w.heap.size, 1, none⟩ = some (.slice ao (L a).length cap) ∧ w'.cell? ⟨w.heap.size, 2, none⟩ = some (.int .i64 s) ∧ w'.cell? ⟨w.heap.size + 1, 0, none⟩ = some (.bool q) ∧ w'.cell? ⟨w.heap.size + 1, 1, none⟩ = some (.slice ao' (L b).length cap') ∧ w'.cell? ⟨w.heap.size + 1, 2, none⟩ = some (.int .i64 t)) ∧ Below w2.heap.size w2 w') := fun w' h => ⟨⟨cell_later h ka02, cell_later h ka12, cell_later h ka22, cell_later h kc02, cell_later h kc12, cell_later h kc22⟩, h⟩
  have hB : ∀ X : World, ((X.cell? ⟨w.heap.size, 0, none⟩ = some (.bool p) ∧ X.cell? ⟨w.heap.size, 1, none⟩ = some (.slice ao (L a).length cap) ∧ X.cell? ⟨w.heap.size, 2, none⟩ = some (.int .i64 s) ∧ X.cell? ⟨w.heap.size + 1, 0, none⟩ = some (.bool q) ∧ X.cell? ⟨w.heap.size + 1, 1, none⟩ = some (.slice ao' (L b).length cap') ∧ X.cell? ⟨w.heap.size + 1, 2, none⟩ = some (.int .i64 t)) ∧ Below w2.heap.size w2 X) → Below w2.heap.size w2 X := fun X h => h.2
  have Stab := hide stab
  have HB := hide hB
  clear stab hB
  go_wp2
  go_region_held3 (fun w' => (w'.cell? ⟨w.heap.size, 0, none⟩ = some (.bool p) ∧ w'.cell? ⟨w.heap.size, 1, none⟩ = some (.slice ao (L a).length cap) ∧ w'.cell? ⟨w.heap.size, 2, none⟩ = some (.int .i64 s) ∧ w'.cell? ⟨w.heap.size + 1, 0, none⟩ = some (.bool q) ∧ w'.cell? ⟨w.heap.size + 1, 1, none⟩ = some (.slice ao' (L b).length cap') ∧ w'.cell? ⟨w.heap.size + 1, 2, none⟩ = some (.int .i64 t)) ∧ Below w2.heap.size w2 w')
    ((refine unhide Stab _ ?_; repeat' (first | with_reducible exact BW5 | with_reducible exact BW4 | with_reducible exact BW3 | with_reducible exact Below.refl _ _ | (with_reducible exact unhide HB _ (by assumption)) | refine Below.drew ?_ | refine Below.alloc ?_ ?_ _ | refine Below.setCell ?_ ?_ _ | omega | (simp <;> omega))))
    (first
      | (go_at_call_of 90 (Value.slice ao (L a).length cap); refine (unhide CA _ ?_).mono ?_; exact kb2.trans ((unhide HB _ (by assumption)).mono kb2.size); rintro e w3 ⟨aa, ca, rfl, o3, b3⟩; have BW3 : Below w2.heap.size w2 w3 := (unhide HB _ (by assumption)).trans (b3.mono (unhide HB _ (by assumption)).size))
      | (go_at_call_of 90 (Value.slice ao' (L b).length cap'); refine (unhide CB _ ?_).mono ?_; exact kb2.trans ((unhide HB _ (by assumption)).mono kb2.size); rintro e w4 ⟨ad, cd, rfl, o4, b4⟩; have BW4 : Below w2.heap.size w2 w4 := BW3.trans (b4.mono BW3.size); have o3' := o3.later b4)
      | (go_at_call 89; refine (unhide C4 _ _ _ o3'.reads o4.reads).mono ?_; rintro e w5 ⟨neg, ab, cb, rfl, hneg, o5, b5⟩; have BW5 : Below w2.heap.size w2 w5 := BW4.trans (b5.mono BW4.size)))
  all_goals
    have K5 := K0.later BW5
    obtain ⟨kb5, -, -, -, -, -, -, -, -, -, -, -, -, kl0⟩ := id K0
    have HN := hide (neg_made hneg)
    have hB5 : w2.heap.size ≤ w4.heap.size := BW4.size
    clear K0 hneg o3 o3' o4 b3 b4 b5 Stab HB CA CB C4 CG
    by_cases hD : (txtL (L D.natAbs)).length ≤ 30
    · have F := l2Make_fine w5 neg _ (L D.natAbs) g o5.reads (L_lim _) bD hD
      rw [unhide HN] at F
      have HE := hide (show dmake D g = (sg D, L D.natAbs, (g : Int), 0) from if_pos hD)
      have HF := hide F
      clear F hD
      go_wp2_with fail
      refine (unhide HF).mono ?_
      rintro e w6 ⟨rfl, b6⟩
      have K6 := K5.later b6
      obtain ⟨kb6, -, -, -, -, -, -, kd50, kd51, kd52, kf50, kf51, kf52, kl5⟩ := id K6
      have o6 := o5.later b6
      clear K5 K6 b6 o5
      go_wp2
      refine bodyPost_ret (v := .tuple #[.agg #[.bool (sg D), .slice ab (L D.natAbs).length cb, .int .i64 g], .int .i64 0]) (by simp [results, Tryz.results51, go_sem, kd50, kd51, kd52]) rfl ?_
      rw [unhide HE]
      refine ⟨ab, cb, rfl, ?_, ((kb6.setCell (by simp; omega) _).setCell (by simp; omega) _).setCell (by simp; omega) _⟩
      exact (((o6.setBelow (by simp; omega) _).setBelow (by simp; omega) _).setBelow (by simp; omega) _).mono (by omega)
    · have F := l2Make_long w5 neg _ (L D.natAbs) g o5.reads (L_lim _) bD hD
      have HE := hide (show dmake D g = (false, [], 0, 3) from if_neg hD)
      have HF := hide F
      clear F hD
      go_wp2_with fail
      refine (unhide HF).mono ?_
      rintro e w6 ⟨rfl, b6⟩
      have K6 := K5.later b6
      obtain ⟨kb6, -, -, -, -, -, -, kd50, kd51, kd52, kf50, kf51, kf52, kl5⟩ := id K6
      clear K5 K6 b6 o5
      go_wp2
      refine bodyPost_ret (v := .tuple #[.agg #[.bool false, .slice none 0 0, .int .i64 0], .int .i64 3]) (by simp [results, Tryz.results51, go_sem, kd50, kd51, kd52]) rfl ?_
      rw [unhide HE]
      exact ⟨none, 0, rfl, Own.nil _ _, ((kb6.setCell (by simp; omega) _).setCell (by simp; omega) _).setCell (by simp; omega) _⟩

set_option maxHeartbeats 4000000 in
theorem specDecAdd_any (w : World) (p q : Bool) (u v : Value) (l m : List Int) (s t : Int) (hu : Reads w u l) (hv : Reads w v m) :
    Calls Tryz.prog 16 #[.agg #[.bool p, u, .int .i64 s], .agg #[.bool q, v, .int .i64 t]] w (GivesDecI w (daddR p l s q m t)) := by
  have CA := hide (fun W (h : Below w.heap.size w W) => l2Ok_any W p u l s (hu.later h))
  have CB := hide (fun W (h : Below w.heap.size w W) => l2Ok_any W q v m t (hv.later h))
  obtain ⟨ao, b1, off, cap, rfl, hu0⟩ := id hu
  obtain ⟨ao', b2, off', cap', rfl, hv0⟩ := id hv
  clear hu0 hv0
  have K0 := Dx3.start w p q (.slice ao l.length cap) (.slice ao' m.length cap') s t
  cases ha : decB p l s with
  | false =>
    rw [ha] at CA
    have Hfin := hide (by unfold daddR; rw [if_neg (by simp [ha])] : daddR p l s q m t = (false, [], 0, 1))
    clear ha hu hv
    go_enter Tryz.func16, Tryz.ntmps16
    go_wp2_with fail
    refine (unhide CA _ K0.below).mono ?_
    rintro e w1 ⟨rfl, b1⟩
    have K1 := K0.later b1
    obtain ⟨kb5, -, -, -, -, -, -, kd50, kd51, kd52, kf50, kf51, kf52, kl5⟩ := id K1
    clear b1
    go_wp2
    refine bodyPost_ret (v := .tuple #[.agg #[.bool false, .slice none 0 0, .int .i64 0], .int .i64 1]) (by simp [results, Tryz.results16, go_sem, kd50, kd51, kd52]) rfl ?_
    rw [unhide Hfin]
    exact ⟨none, 0, rfl, Own.nil _ _, ((kb5.setCell (by simp; omega) _).setCell (by simp; omega) _).setCell (by simp; omega) _⟩
  | true =>
    rw [ha] at CA
    cases hb : decB q m t with
    | false =>
      have Hfin := hide (by unfold daddR; rw [if_neg (by simp [hb])] : daddR p l s q m t = (false, [], 0, 1))
      rw [hb] at CB
      clear ha hb hu hv
      go_enter Tryz.func16, Tryz.ntmps16
      go_wp2_with fail
      refine (unhide CA _ K0.below).mono ?_
      rintro e w1 ⟨rfl, b1⟩
      have K1 := K0.later b1
      obtain ⟨kb1, ka01, ka11, ka21, kc01, kc11, kc21, -, -, -, -, -, -, -⟩ := id K1
      clear b1
      go_wp2_with fail
      refine (unhide CB w1 kb1).mono ?_
      rintro e w2 ⟨rfl, b2⟩
      have K2 := K1.later b2
      obtain ⟨kb5, -, -, -, -, -, -, kd50, kd51, kd52, kf50, kf51, kf52, kl5⟩ := id K2
      clear b2 ka01 ka11 ka21 kc01 kc11 kc21
      go_wp2
      refine bodyPost_ret (v := .tuple #[.agg #[.bool false, .slice none 0 0, .int .i64 0], .int .i64 1]) (by simp [results, Tryz.results16, go_sem, kd50, kd51, kd52]) rfl ?_
      rw [unhide Hfin]
      exact ⟨none, 0, rfl, Own.nil _ _, ((kb5.setCell (by simp; omega) _).setCell (by simp; omega) _).setCell (by simp; omega) _⟩
    | true =>
      rw [hb] at CB
      obtain ⟨ha1, ha2, ha3, ha4⟩ := decB_iff.1 ha
      obtain ⟨hb1, hb2, hb3, hb4⟩ := decB_iff.1 hb
      obtain ⟨ea, la⟩ := ok_limbs (okB_true ha1)
      obtain ⟨eb, lb⟩ := ok_limbs (okB_true hb1)
      have hua : Reads w (.slice ao l.length cap) (L (val l).toNat) := by rw [← ea]; exact hu
      have hva : Reads w (.slice ao' m.length cap') (L (val m).toNat) := by rw [← eb]; exact hv
      have HC := hide (fun W (h : Below w.heap.size w W) => l2Add_any W p q _ _ _ _ s t (hua.later h) (hva.later h) ha3 ha4 hb3 hb4 la lb)
      have Hfin := hide (by unfold daddR; rw [if_pos ⟨ha, hb⟩] : daddR p l s q m t = dmake (zof p ((val l).toNat * 10 ^ (max s t - s).toNat) + zof q ((val m).toNat * 10 ^ (max s t - t).toNat)) (max s t))
      generalize dmake (zof p ((val l).toNat * 10 ^ (max s t - s).toNat) + zof q ((val m).toNat * 10 ^ (max s t - t).toNat)) (max s t) = O at *
      obtain ⟨og, ol, os, oc⟩ := O
      clear ha1 ha2 ha3 ha4 hb1 hb2 hb3 hb4 ea eb la lb hua hva hu hv ha hb
      go_enter Tryz.func16, Tryz.ntmps16
      go_wp2_with fail
      refine (unhide CA _ K0.below).mono ?_
      rintro e w1 ⟨rfl, b1⟩
      have K1 := K0.later b1
      obtain ⟨kb1, ka01, ka11, ka21, kc01, kc11, kc21, -, -, -, -, -, -, -⟩ := id K1
      clear b1
      go_wp2_with fail
      refine (unhide CB w1 kb1).mono ?_
      rintro e w2 ⟨rfl, b2⟩
      have K2 := K1.later b2
      obtain ⟨kb2, ka02, ka12, ka22, kc02, kc12, kc22, -, -, -, -, -, -, -⟩ := id K2
      clear b2 ka01 ka11 ka21 kc01 kc11 kc21
      go_wp2_with fail
      refine (unhide HC w2 kb2).mono ?_
      rintro e w3 ⟨ab, cb, rfl, o3, b3⟩
      have K3 := K2.later b3
      obtain ⟨kb5, -, -, -, -, -, -, kd50, kd51, kd52, kf50, kf51, kf52, kl5⟩ := id K3
      have kz := K2.lt
      clear b3 ka02 ka12 ka22 kc02 kc12 kc22
      go_wp2
      refine bodyPost_ret (v := .tuple #[.agg #[.bool og, .slice ab ol.length cb, .int .i64 os], .int .i64 oc]) (by simp [results, Tryz.results16, go_sem, kd50, kd51, kd52]) rfl ?_
      rw [unhide Hfin]
      refine ⟨ab, cb, rfl, ?_, ((kb5.setCell (by simp; omega) _).setCell (by simp; omega) _).setCell (by simp; omega) _⟩
      exact (((o3.setBelow (by simp; omega) _).setBelow (by simp; omega) _).setBelow (by simp; omega) _).mono (by omega)

theorem txtL_short (l : List Int) (hl : Lim l) : 4 * l.length ≤ (txtL l).length + 3 := by
  unfold txtL
  split
  · rename_i h
    subst h
    decide
  · rename_i h
    have t := hl.getD (l.length - 1)
    have d := dd_len_le (u := (l.getD (l.length - 1) 0).toNat) (by omega)
    unfold txtAt
    rw [List.length_append, flat_len _ (fun x hx => hl x (List.mem_of_mem_drop (List.mem_reverse.1 (List.mem_of_mem_tail hx)))), List.length_tail, List.length_reverse, List.length_drop]
    omega

theorem dmake_len (z s : Int) : (dmake z s).2.1.length ≤ 1000 := by
  unfold dmake
  split
  · rename_i h
    have h0 := txtL_short (L z.natAbs) (L_lim _)
    show (L z.natAbs).length ≤ 1000
    omega
  · simp

theorem xDecAdd_len (p : Bool) (l : List Int) (s : Int) (q : Bool) (m : List Int) (t : Int) : (daddR p l s q m t).2.1.length ≤ 1000 := by
  unfold daddR
  split
  · exact dmake_len _ _
  · simp

end Go.Proofs.YthnkmjkgcnhlfaaGreatDoor
