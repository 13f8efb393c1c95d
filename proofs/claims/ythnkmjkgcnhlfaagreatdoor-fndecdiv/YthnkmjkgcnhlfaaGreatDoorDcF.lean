/- DecSub of the program and of the specification, by contracts. -/
import Derived.Test.YthnkmjkgcnhlfaaGreatDoorDcE
import Derived.Test.YthnkmjkgcnhlfaaGreatDoorK05
namespace Go.Proofs.YthnkmjkgcnhlfaaGreatDoor
open Go.RowKit
set_option maxRecDepth 100000

/-- What DecSub answers. -/
def dsubR (p : Bool) (l : List Int) (s : Int) (q : Bool) (m : List Int) (t : Int) : Bool × List Int × Int × Int :=
  if decB p l s = true ∧ decB q m t = true then dmake (zof p ((val l).toNat * 10 ^ (max s t - s).toNat) - zof q ((val m).toNat * 10 ^ (max s t - t).toNat)) (max s t) else (false, [], 0, 1)

theorem xDecSub_len (p : Bool) (l : List Int) (s : Int) (q : Bool) (m : List Int) (t : Int) : (dsubR p l s q m t).2.1.length ≤ 1000 := by
  unfold dsubR
  split
  · exact dmake_len _ _
  · simp

theorem zof_turned (q : Bool) (b k : Nat) : zof (!q && decide (b ≠ 0)) (b * 10 ^ k) = - zof q (b * 10 ^ k) := by
  by_cases h : b = 0
  · subst h
    simp [zof]
  · simp only [ne_eq, h, not_false_eq_true, decide_true, Bool.and_true]
    unfold zof
    cases q <;> simp

/-- A decimal that is ok stays so when its sign is turned. -/
theorem turned_ok {q : Bool} {m : List Int} {t : Int} (h : decB q m t = true) : decB (!q && decide ((val m).toNat ≠ 0)) m t = true := by
  obtain ⟨⟨h1, h2, h3, h4⟩, h5⟩ := decB_iff.1 h
  refine decB_true ⟨⟨h1, h2, fun e => ?_, h4⟩, h5⟩
  subst e
  simp [val]

theorem dsub_add {p : Bool} {l : List Int} {s : Int} {q : Bool} {m : List Int} {t : Int} (h : decB q m t = true) : daddR p l s (!q && decide ((val m).toNat ≠ 0)) m t = dsubR p l s q m t := by
  unfold daddR dsubR
  rw [zof_turned, turned_ok h, h]
  simp only [Int.sub_eq_add_neg]

theorem l2Not_any (w : World) (q : Bool) (v : Value) (b : Nat) (t : Int) (hv : Reads w v (L b)) :
    Calls Tryz.prog 58 #[.agg #[.bool q, v, .int .i64 t]] w fun e w' => e = .returned (.agg #[.bool (!q && decide (b ≠ 0)), v, .int .i64 t]) ∧ Below w.heap.size w w' := by
  obtain ⟨ao, b1, off, cap, rfl, hr0⟩ := id hv
  have h1 := hr0.le
  have h2 := hr0.big
  unfold maxLen at h2
  clear hr0 hv
  obtain ⟨r, hr⟩ : ∃ r, decide (b ≠ 0) = r := ⟨_, rfl⟩
  have e1 : decide ((0 : Int) < (L b).length) = r := by rw [← hr]; refine decide_eq_decide.2 ⟨fun h e => ?_, fun h => ?_⟩; subst e; rw [L_zero] at h; simp at h; have := mt L_len_zero.1 h; omega
  have e2 : decide (0 < (L b).length) = r := by rw [← e1]; exact decide_eq_decide.2 (by omega)
  rw [hr]
  clear hr
  generalize (L b).length = n at *
  cases q
  · go_enter Tryz.func58, Tryz.ntmps58
    go_wp2
    refine bodyPost_ret (v := .agg #[.bool r, .slice ao n cap, .int .i64 t]) (by simp [results, Tryz.results58, go_sem]) rfl ⟨by simp, ?_⟩
    exact ((Below.refl _ _).alloc (Nat.le_refl _) _).alloc (by simp) _
  · go_enter Tryz.func58, Tryz.ntmps58
    go_wp2
    refine bodyPost_ret (v := .agg #[.bool false, .slice ao n cap, .int .i64 t]) (by simp [results, Tryz.results58, go_sem]) rfl ⟨by simp, ?_⟩
    exact ((Below.refl _ _).alloc (Nat.le_refl _) _).alloc (by simp) _

set_option maxHeartbeats 4000000 in
theorem specDecSub_any (w : World) (p q : Bool) (u v : Value) (l m : List Int) (s t : Int) (hu : Reads w u l) (hv : Reads w v m) :
    Calls Tryz.prog 22 #[.agg #[.bool p, u, .int .i64 s], .agg #[.bool q, v, .int .i64 t]] w (GivesDecI w (dsubR p l s q m t)) := by
  have CA := hide (fun W (h : Below w.heap.size w W) => l2Ok_any W p u l s (hu.later h))
  have CB := hide (fun W (h : Below w.heap.size w W) => l2Ok_any W q v m t (hv.later h))
  obtain ⟨ao, b1, off, cap, rfl, hu0⟩ := id hu
  obtain ⟨ao', b2, off', cap', rfl, hv0⟩ := id hv
  clear hu0 hv0
  have K0 := Dx3.start w p q (.slice ao l.length cap) (.slice ao' m.length cap') s t
  cases ha : decB p l s with
  | false =>
    rw [ha] at CA
    have Hfin := hide (by unfold dsubR; rw [if_neg (by simp [ha])] : dsubR p l s q m t = (false, [], 0, 1))
    clear ha hu hv
    go_enter Tryz.func22, Tryz.ntmps22
    go_wp2_with fail
    refine (unhide CA _ K0.below).mono ?_
    rintro e w1 ⟨rfl, b1⟩
    have K1 := K0.later b1
    obtain ⟨kb5, -, -, -, -, -, -, kd50, kd51, kd52, kf50, kf51, kf52, kl5⟩ := id K1
    clear b1
    go_wp2
    refine bodyPost_ret (v := .tuple #[.agg #[.bool false, .slice none 0 0, .int .i64 0], .int .i64 1]) (by simp [results, Tryz.results22, go_sem, kd50, kd51, kd52]) rfl ?_
    rw [unhide Hfin]
    exact ⟨none, 0, rfl, Own.nil _ _, ((kb5.setCell (by simp; omega) _).setCell (by simp; omega) _).setCell (by simp; omega) _⟩
  | true =>
    rw [ha] at CA
    cases hb : decB q m t with
    | false =>
      have Hfin := hide (by unfold dsubR; rw [if_neg (by simp [hb])] : dsubR p l s q m t = (false, [], 0, 1))
      rw [hb] at CB
      clear ha hb hu hv
      go_enter Tryz.func22, Tryz.ntmps22
      go_wp2_with fail
      refine (unhide CA _ K0.below).mono ?_
      rintro e w1 ⟨rfl, b1⟩
      have K1 := K0.later b1
      obtain ⟨kb1, ka01, ka11, ka21, kc01, kc11, kc21, -, -, -, -, -, -, -⟩ := id K1
      clear b1
      go_wp2_with fail
      refine (unhide CB w1 kb1).mono ?_
      rintro e w2 ⟨rfl, b2⟩
      have K2 := K1.later b2
      obtain ⟨kb5, -, -, -, -, -, -, kd50, kd51, kd52, kf50, kf51, kf52, kl5⟩ := id K2
      clear b2 ka01 ka11 ka21 kc01 kc11 kc21
      go_wp2
      refine bodyPost_ret (v := .tuple #[.agg #[.bool false, .slice none 0 0, .int .i64 0], .int .i64 1]) (by simp [results, Tryz.results22, go_sem, kd50, kd51, kd52]) rfl ?_
      rw [unhide Hfin]
      exact ⟨none, 0, rfl, Own.nil _ _, ((kb5.setCell (by simp; omega) _).setCell (by simp; omega) _).setCell (by simp; omega) _⟩
    | true =>
      rw [hb] at CB
      obtain ⟨ha1, ha2, ha3, ha4⟩ := decB_iff.1 ha
      obtain ⟨hb1, hb2, hb3, hb4⟩ := decB_iff.1 hb
      obtain ⟨ea, la⟩ := ok_limbs (okB_true ha1)
      obtain ⟨eb, lb⟩ := ok_limbs (okB_true hb1)
      have hua : Reads w (.slice ao l.length cap) (L (val l).toNat) := by rw [← ea]; exact hu
      have hva : Reads w (.slice ao' m.length cap') (L (val m).toNat) := by rw [← eb]; exact hv
      have HN := hide (fun W (h : Below w.heap.size w W) => l2Not_any W q _ _ t (hva.later h))
      have HC := hide (fun W (h : Below w.heap.size w W) => l2Add_any W p (!q && decide ((val m).toNat ≠ 0)) _ _ _ _ s t (hua.later h) (hva.later h) ha3 ha4 hb3 hb4 la lb)
      have Hfin := hide (by rw [← dsub_add hb]; unfold daddR; rw [if_pos ⟨ha, turned_ok hb⟩] : dsubR p l s q m t = dmake (zof p ((val l).toNat * 10 ^ (max s t - s).toNat) + zof (!q && decide ((val m).toNat ≠ 0)) ((val m).toNat * 10 ^ (max s t - t).toNat)) (max s t))
      generalize dmake (zof p ((val l).toNat * 10 ^ (max s t - s).toNat) + zof (!q && decide ((val m).toNat ≠ 0)) ((val m).toNat * 10 ^ (max s t - t).toNat)) (max s t) = O at *
      generalize (!q && decide ((val m).toNat ≠ 0)) = q' at *
      obtain ⟨og, ol, os, oc⟩ := O
      clear ha1 ha2 ha3 ha4 hb1 hb2 hb3 hb4 ea eb la lb hua hva hu hv ha hb
      go_enter Tryz.func22, Tryz.ntmps22
      go_wp2_with fail
      refine (unhide CA _ K0.below).mono ?_
      rintro e w1 ⟨rfl, b1⟩
      have K1 := K0.later b1
      obtain ⟨kb1, ka01, ka11, ka21, kc01, kc11, kc21, -, -, -, -, -, -, -⟩ := id K1
      clear b1
      go_wp2_with fail
      refine (unhide CB w1 kb1).mono ?_
      rintro e w2 ⟨rfl, b2⟩
      have K2 := K1.later b2
      obtain ⟨kb2, ka02, ka12, ka22, kc02, kc12, kc22, -, -, -, -, -, -, -⟩ := id K2
      clear b2 ka01 ka11 ka21 kc01 kc11 kc21
      have stab : ∀ w' : World, Below (w.heap.size + 1 + 1) w2 w' → (w'.cell? ⟨w.heap.size, 0, none⟩ = some (.bool p) ∧ w'.cell? ⟨w.heap.size, 1, none⟩ = some (.slice ao l.length cap) ∧ w'.cell? ⟨w.heap.size, 2, none⟩ = some (.int .i64 s) ∧ w'.cell? ⟨w.heap.size + 1, 0, none⟩ = some (.bool q) ∧ w'.cell? ⟨w.heap.size + 1, 1, none⟩ = some (.slice ao' m.length cap') ∧ w'.cell? ⟨w.heap.size + 1, 2, none⟩ = some (.int .i64 t)) := fun w' h => ⟨(h.cell (p := ⟨w.heap.size, 0, none⟩) (by simp; omega)).trans ka02, (h.cell (p := ⟨w.heap.size, 1, none⟩) (by simp; omega)).trans ka12, (h.cell (p := ⟨w.heap.size, 2, none⟩) (by simp; omega)).trans ka22, (h.cell (p := ⟨w.heap.size + 1, 0, none⟩) (by simp)).trans kc02, (h.cell (p := ⟨w.heap.size + 1, 1, none⟩) (by simp)).trans kc12, (h.cell (p := ⟨w.heap.size + 1, 2, none⟩) (by simp)).trans kc22⟩
      have kz := K2.lt
      have Stab := hide stab
      clear stab
      go_wp2
      go_region_held3 (fun w' => w'.cell? ⟨w.heap.size, 0, none⟩ = some (.bool p) ∧ w'.cell? ⟨w.heap.size, 1, none⟩ = some (.slice ao l.length cap) ∧ w'.cell? ⟨w.heap.size, 2, none⟩ = some (.int .i64 s) ∧ w'.cell? ⟨w.heap.size + 1, 0, none⟩ = some (.bool q) ∧ w'.cell? ⟨w.heap.size + 1, 1, none⟩ = some (.slice ao' m.length cap') ∧ w'.cell? ⟨w.heap.size + 1, 2, none⟩ = some (.int .i64 t))
        ((refine unhide Stab _ ?_; repeat' (first | (exact unhide BQ4) | (exact unhide BQ3) | with_reducible exact Below.refl _ _ | refine Below.drew ?_ | refine Below.setCell ?_ ?_ _ | omega | (simp <;> omega))))
        (first
          | (go_at_call 58; refine (unhide HN _ ?_).mono ?_; exact kb2.drew; rintro e w3 ⟨rfl, b3⟩; have BW3 : Below w2.heap.size w2 w3 := (Below.refl _ _).drew.trans b3; have BQ3 := hide (BW3.mono (Nat.le_of_lt K2.lt)))
          | (go_at_call 51; refine (unhide HC _ ?_).mono ?_; exact kb2.trans (BW3.mono kb2.size); rintro e w4 ⟨ab, cb, rfl, o4, b4⟩; have BW4 : Below w2.heap.size w2 w4 := BW3.trans (b4.mono BW3.size); have BQ4 := hide (BW4.mono (Nat.le_of_lt K2.lt)); have K4 := K2.later BW4; obtain ⟨kb5, -, -, -, -, -, -, kd50, kd51, kd52, kf50, kf51, kf52, kl5⟩ := id K4; have kz3 := BW3.size))
      all_goals
        go_wp2
        refine bodyPost_ret (v := .tuple #[.agg #[.bool og, .slice ab ol.length cb, .int .i64 os], .int .i64 oc]) (by simp [results, Tryz.results22, go_sem, kd50, kd51, kd52]) rfl ?_
        rw [unhide Hfin]
        refine ⟨ab, cb, rfl, ?_, ((kb5.setCell (by simp; omega) _).setCell (by simp; omega) _).setCell (by simp; omega) _⟩
        exact (((o4.setBelow (by simp; omega) _).setBelow (by simp; omega) _).setBelow (by simp; omega) _).mono (by omega)

set_option maxHeartbeats 4000000 in
theorem implDecSub_any (w : World) (p q : Bool) (u v : Value) (l m : List Int) (s t : Int) (hu : Reads w u l) (hv : Reads w v m) (tt : Tab w) (hd : Hd w) :
    Calls Tryz.prog 18 #[.agg #[.bool p, u, .int .i64 s], .agg #[.bool q, v, .int .i64 t]] w (GivesDecI w (dsubR p l s q m t)) := by
  have CB := hide (fun W (h : Below w.heap.size w W) => implDecOk_any W q v m t (hv.later h) (tt.later h))
  obtain ⟨ao, b1, off, cap, rfl, hu0⟩ := id hu
  obtain ⟨ao', b2, off', cap', rfl, hv0⟩ := id hv
  clear hu0 hv0
  have K0 := Dx3.start w p q (.slice ao l.length cap) (.slice ao' m.length cap') s t
  cases hb : decB q m t with
  | false =>
    have Hfin := hide (by unfold dsubR; rw [if_neg (by simp [hb])] : dsubR p l s q m t = (false, [], 0, 1))
    rw [hb] at CB
    clear hb hu hv
    go_enter Tryz.func18, Tryz.ntmps18
    go_wp2_with fail
    refine (unhide CB _ K0.below).mono ?_
    rintro e w1 ⟨rfl, b1⟩
    have K1 := K0.later b1
    obtain ⟨kb5, -, -, -, -, -, -, kd50, kd51, kd52, kf50, kf51, kf52, kl5⟩ := id K1
    clear b1
    go_wp2
    refine bodyPost_ret (v := .tuple #[.agg #[.bool false, .slice none 0 0, .int .i64 0], .int .i64 1]) (by simp [results, Tryz.results18, go_sem, kd50, kd51, kd52]) rfl ?_
    rw [unhide Hfin]
    exact ⟨none, 0, rfl, Own.nil _ _, ((kb5.setCell (by simp; omega) _).setCell (by simp; omega) _).setCell (by simp; omega) _⟩
  | true =>
    rw [hb] at CB
    obtain ⟨hb1, hb2, hb3, hb4⟩ := decB_iff.1 hb
    obtain ⟨eb, lb⟩ := ok_limbs (okB_true hb1)
    have hva : Reads w (.slice ao' m.length cap') (L (val m).toNat) := by rw [← eb]; exact hv
    have HN := hide (fun W (h : Below w.heap.size w W) => turned_any W q _ _ (hva.later h))
    have HC := hide (fun W x (h : Below w.heap.size w W) (hx : Reads W x (L (val m).toNat)) => implDecAdd_any W p (!q && decide ((val m).toNat ≠ 0)) _ x l m s t (hu.later h) (by rw [eb]; exact hx) (tt.later h) (hd.later h))
    have Hfin := hide (dsub_add (p := p) (l := l) (s := s) hb)
    generalize daddR p l s (!q && decide ((val m).toNat ≠ 0)) m t = O at *
    generalize (!q && decide ((val m).toNat ≠ 0)) = q' at *
    obtain ⟨og, ol, os, oc⟩ := O
    clear hb1 hb2 hb3 hb4 eb lb hva hu hv hb
    go_enter Tryz.func18, Tryz.ntmps18
    go_wp2_with fail
    refine (unhide CB _ K0.below).mono ?_
    rintro e w2 ⟨rfl, b2⟩
    have K2 := K0.later b2
    obtain ⟨kb2, ka02, ka12, ka22, kc02, kc12, kc22, -, -, -, -, -, -, -⟩ := id K2
    clear b2
    have stab : ∀ w' : World, Below (w.heap.size + 1 + 1) w2 w' → (w'.cell? ⟨w.heap.size, 0, none⟩ = some (.bool p) ∧ w'.cell? ⟨w.heap.size, 1, none⟩ = some (.slice ao l.length cap) ∧ w'.cell? ⟨w.heap.size, 2, none⟩ = some (.int .i64 s) ∧ w'.cell? ⟨w.heap.size + 1, 0, none⟩ = some (.bool q) ∧ w'.cell? ⟨w.heap.size + 1, 1, none⟩ = some (.slice ao' m.length cap') ∧ w'.cell? ⟨w.heap.size + 1, 2, none⟩ = some (.int .i64 t)) := fun w' h => ⟨(h.cell (p := ⟨w.heap.size, 0, none⟩) (by simp; omega)).trans ka02, (h.cell (p := ⟨w.heap.size, 1, none⟩) (by simp; omega)).trans ka12, (h.cell (p := ⟨w.heap.size, 2, none⟩) (by simp; omega)).trans ka22, (h.cell (p := ⟨w.heap.size + 1, 0, none⟩) (by simp)).trans kc02, (h.cell (p := ⟨w.heap.size + 1, 1, none⟩) (by simp)).trans kc12, (h.cell (p := ⟨w.heap.size + 1, 2, none⟩) (by simp)).trans kc22⟩
    have kz := K2.lt
    have Stab := hide stab
    clear stab
    go_wp2
    go_region_held3 (fun w' => w'.cell? ⟨w.heap.size, 0, none⟩ = some (.bool p) ∧ w'.cell? ⟨w.heap.size, 1, none⟩ = some (.slice ao l.length cap) ∧ w'.cell? ⟨w.heap.size, 2, none⟩ = some (.int .i64 s) ∧ w'.cell? ⟨w.heap.size + 1, 0, none⟩ = some (.bool q) ∧ w'.cell? ⟨w.heap.size + 1, 1, none⟩ = some (.slice ao' m.length cap') ∧ w'.cell? ⟨w.heap.size + 1, 2, none⟩ = some (.int .i64 t))
      ((refine unhide Stab _ ?_; repeat' (first | (exact unhide BQ4) | (exact unhide BQ3) | with_reducible exact Below.refl _ _ | refine Below.drew ?_ | refine Below.setCell ?_ ?_ _ | omega | (simp <;> omega))))
      (first
        | (go_at_call 53; refine (unhide HN _ ?_).mono ?_; exact kb2.drew; rintro e w3 ⟨v3, rfl, r3, b3⟩; have BW3 : Below w2.heap.size w2 w3 := (Below.refl _ _).drew.trans b3; have BQ3 := hide (BW3.mono (Nat.le_of_lt K2.lt)))
        | (go_at_call 15; refine (unhide HC _ _ ?_ r3).mono ?_; exact kb2.trans (BW3.mono kb2.size); rintro e w4 ⟨ab, cb, rfl, o4, b4⟩; have BW4 : Below w2.heap.size w2 w4 := BW3.trans (b4.mono BW3.size); have BQ4 := hide (BW4.mono (Nat.le_of_lt K2.lt)); have K4 := K2.later BW4; obtain ⟨kb5, -, -, -, -, -, -, kd50, kd51, kd52, kf50, kf51, kf52, kl5⟩ := id K4; have kz3 := BW3.size))
    all_goals
      go_wp2
      refine bodyPost_ret (v := .tuple #[.agg #[.bool og, .slice ab ol.length cb, .int .i64 os], .int .i64 oc]) (by simp [results, Tryz.results18, go_sem, kd50, kd51, kd52]) rfl ?_
      rw [← unhide Hfin]
      refine ⟨ab, cb, rfl, ?_, ((kb5.setCell (by simp; omega) _).setCell (by simp; omega) _).setCell (by simp; omega) _⟩
      exact (((o4.setBelow (by simp; omega) _).setBelow (by simp; omega) _).setBelow (by simp; omega) _).mono (by omega)

end Go.Proofs.YthnkmjkgcnhlfaaGreatDoor
