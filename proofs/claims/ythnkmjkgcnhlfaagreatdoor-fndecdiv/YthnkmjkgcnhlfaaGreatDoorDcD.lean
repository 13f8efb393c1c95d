/- DecAdd of the program, by a contract. -/
import Derived.Test.YthnkmjkgcnhlfaaGreatDoorDcM
import Derived.Test.YthnkmjkgcnhlfaaGreatDoorDcR
import Derived.Test.YthnkmjkgcnhlfaaGreatDoorH15
import Derived.Test.YthnkmjkgcnhlfaaGreatDoorH03
import Derived.Test.YthnkmjkgcnhlfaaGreatDoorEbS
import Derived.Test.YthnkmjkgcnhlfaaGreatDoorH08
import Derived.Deep.RegionHeld
import Derived.Deep.RegionHeld3
import Derived.Deep.DeepCutAuto
namespace Go.Proofs.YthnkmjkgcnhlfaaGreatDoor
open Go.RowKit
set_option maxRecDepth 100000

/-- Two decimals in their boxes, and the place for a third. -/
structure Dx3 (w0 w' : World) (p : Bool) (u : Value) (s : Int) (q : Bool) (v : Value) (t : Int) : Prop where
  below : Below w0.heap.size w0 w'
  a0 : w'.cell? ⟨w0.heap.size, 0, none⟩ = some (.bool p)
  a1 : w'.cell? ⟨w0.heap.size, 1, none⟩ = some u
  a2 : w'.cell? ⟨w0.heap.size, 2, none⟩ = some (.int .i64 s)
  b0 : w'.cell? ⟨w0.heap.size + 1, 0, none⟩ = some (.bool q)
  b1 : w'.cell? ⟨w0.heap.size + 1, 1, none⟩ = some v
  b2 : w'.cell? ⟨w0.heap.size + 1, 2, none⟩ = some (.int .i64 t)
  c0 : w'.cell? ⟨w0.heap.size + 1 + 1, 0, none⟩ = some (.bool false)
  c1 : w'.cell? ⟨w0.heap.size + 1 + 1, 1, none⟩ = some (.slice none 0 0)
  c2 : w'.cell? ⟨w0.heap.size + 1 + 1, 2, none⟩ = some (.int .i64 0)
  f0 : w'.frozen? ⟨w0.heap.size + 1 + 1, 0, none⟩ = false
  f1 : w'.frozen? ⟨w0.heap.size + 1 + 1, 1, none⟩ = false
  f2 : w'.frozen? ⟨w0.heap.size + 1 + 1, 2, none⟩ = false
  lt : w0.heap.size + 1 + 1 < w'.heap.size

theorem Dx3.later {w0 w w' : World} {p q : Bool} {u v : Value} {s t : Int} (h : Dx3 w0 w p u s q v t) (k : Below w.heap.size w w') : Dx3 w0 w' p u s q v t :=
  ⟨h.below.trans (k.mono h.below.size), cell_later k h.a0, cell_later k h.a1, cell_later k h.a2, cell_later k h.b0, cell_later k h.b1, cell_later k h.b2, cell_later k h.c0, cell_later k h.c1, cell_later k h.c2, frozen_later k h.f0 h.lt, frozen_later k h.f1 h.lt, frozen_later k h.f2 h.lt, lt_later k h.lt⟩

theorem Dx3.start (w : World) (p q : Bool) (u v : Value) (s t : Int) : Dx3 w (((w.alloc (.cells #[.bool p, u, .int .i64 s] 27)).alloc (.cells #[.bool q, v, .int .i64 t] 27)).alloc (.cells #[.bool false, .slice none 0 0, .int .i64 0] 27)) p u s q v t :=
  ⟨(((Below.refl _ _).alloc (Nat.le_refl _) _).alloc (by simp) _).alloc (by simp; omega) _, by go_simp, by go_simp, by go_simp, by go_simp, by go_simp, by go_simp, by go_simp, by go_simp, by go_simp, by go_simp, by go_simp, by go_simp, by simp⟩

/-- What DecAdd answers. -/
def daddR (p : Bool) (l : List Int) (s : Int) (q : Bool) (m : List Int) (t : Int) : Bool × List Int × Int × Int :=
  if decB p l s = true ∧ decB q m t = true then dmake (zof p ((val l).toNat * 10 ^ (max s t - s).toNat) + zof q ((val m).toNat * 10 ^ (max s t - t).toNat)) (max s t) else (false, [], 0, 1)

theorem zof_abs' (n : Bool) (N : Nat) : (zof n N).natAbs = N := by
  unfold zof
  split
  · exact (Int.natAbs_neg _).trans (Int.natAbs_natCast _)
  · exact Int.natAbs_natCast _

theorem scaled_small {a k : Nat} (p : Bool) (h : a < 10000 ^ 16) (hk : k ≤ 100) : (zof p (a * 10 ^ k)).natAbs < 10000 ^ 150 := by
  rw [zof_abs']
  have h1 : 10 ^ k ≤ 10000 ^ 100 := Nat.le_of_lt (ten_small (by omega))
  refine Nat.lt_of_lt_of_le (Nat.mul_lt_mul_of_lt_of_le h h1 (Nat.pow_pos (by decide))) ?_
  rw [← Nat.pow_add]
  exact Nat.pow_le_pow_right (by decide) (by decide)

/-- A box filled with a number that a call made, wherever the box was made. -/
theorem fin1 {w2 w5 W : World} {v x : Value} {l : List Int} {B k : Nat} (o : Own B w5 v l) (hB : w2.heap.size ≤ B) (hW : ∀ j, j < w5.heap.size → j ≠ k → W.heap[j]? = w5.heap[j]?) (hk : k < B ∨ w5.heap.size ≤ k)
    (h0 : W.cell? ⟨k, 0, none⟩ = some x) (h1 : W.cell? ⟨k, 1, none⟩ = some v) (hb : Below w2.heap.size w2 W) :
    W.cell? ⟨k, 0, none⟩ = some x ∧ W.cell? ⟨k, 1, none⟩ = some v ∧ Own w2.heap.size W v l ∧ Below w2.heap.size w2 W :=
  ⟨h0, h1, (o.ofBlock fun j hj => hW j (o.lt j hj).2 (by have := (o.lt j hj).1; have := (o.lt j hj).2; omega)).mono hB, hb⟩

-- TAIL
set_option maxHeartbeats 4000000 in
theorem implDecAdd_ok (w : World) (p q : Bool) (u v : Value) (l m : List Int) (s t : Int) (hu : Reads w u l) (hv : Reads w v m) (tt : Tab w) (hd : Hd w) (ha : decB p l s = true) (hb : decB q m t = true) :
    Calls Tryz.prog 15 #[.agg #[.bool p, u, .int .i64 s], .agg #[.bool q, v, .int .i64 t]] w (GivesDecI w (daddR p l s q m t)) := by
  have CA := hide (fun W (h : Below w.heap.size w W) => implDecOk_any W p u l s (hu.later h) (tt.later h))
  have CB := hide (fun W (h : Below w.heap.size w W) => implDecOk_any W q v m t (hv.later h) (tt.later h))
  obtain ⟨ao, b1, off, cap, rfl, hu0⟩ := id hu
  obtain ⟨ao', b2, off', cap', rfl, hv0⟩ := id hv
  clear hu0 hv0
  have K0 := Dx3.start w p q (.slice ao l.length cap) (.slice ao' m.length cap') s t
  rw [ha] at CA
  rw [hb] at CB
  obtain ⟨ha1, ha2, ha3, ha4⟩ := decB_iff.1 ha
  obtain ⟨hb1, hb2, hb3, hb4⟩ := decB_iff.1 hb
  obtain ⟨ea, la⟩ := ok_limbs (okB_true ha1)
  obtain ⟨eb, lb⟩ := ok_limbs (okB_true hb1)
  obtain ⟨g, hg, hg2⟩ : ∃ g : Int, g = max s t ∧ g ≤ 12 := ⟨_, rfl, by omega⟩
  have Hfin := hide (by unfold daddR; rw [if_pos ⟨ha, hb⟩, ← hg] : daddR p l s q m t = dmake (zof p ((val l).toNat * 10 ^ (g - s).toNat) + zof q ((val m).toNat * 10 ^ (g - t).toNat)) g)
  have hua : Reads w (.slice ao l.length cap) (L (val l).toNat) := by rw [← ea]; exact hu
  have hva : Reads w (.slice ao' m.length cap') (L (val m).toNat) := by rw [← eb]; exact hv
  generalize (val l).toNat = a at *
  generalize (val m).toNat = b at *
  clear ha1 ha2 hb1 hb2 ha hb hu hv ea eb
  obtain ⟨X, hX⟩ : ∃ X, X = zof p (a * 10 ^ (g - s).toNat) := ⟨_, rfl⟩
  obtain ⟨Y, hY⟩ : ∃ Y, Y = zof q (b * 10 ^ (g - t).toNat) := ⟨_, rfl⟩
  have bX : X.natAbs < 10000 ^ 150 := by rw [hX]; exact scaled_small p la (by omega)
  have bY : Y.natAbs < 10000 ^ 150 := by rw [hY]; exact scaled_small q lb (by omega)
  rw [← hX, ← hY] at Hfin
  have RA := hide (fun W (h : Below w.heap.size w W) (z : Int) (hz : z = g - s) => (by subst hz; exact raised_any W p _ a _ (hua.later h) (by omega) (pow16 la (by decide)) X hX : Calls Tryz.prog 47 #[.agg #[.bool p, .slice ao l.length cap], .int .i64 z] W (GivesBig W (sg X) (L X.natAbs))))
  have RB := hide (fun W (h : Below w.heap.size w W) (z : Int) (hz : z = g - t) => (by subst hz; exact raised_any W q _ b _ (hva.later h) (by omega) (pow16 lb (by decide)) Y hY : Calls Tryz.prog 47 #[.agg #[.bool q, .slice ao' m.length cap'], .int .i64 z] W (GivesBig W (sg Y) (L Y.natAbs))))
  have up : (10000 : Nat) ^ 150 ≤ 10000 ^ 199 := Nat.pow_le_pow_right (by decide) (by decide)
  obtain ⟨D, hD⟩ : ∃ D, D = X + Y := ⟨_, rfl⟩
  rw [← hD] at Hfin
  have hz' : D = zof (sg X) X.natAbs + zof (sg Y) Y.natAbs := by
    rw [hD]
    unfold zof sg
    by_cases h1 : X < 0 <;> by_cases h2 : Y < 0 <;> simp [h1, h2] <;> omega
  have C4 := hide (fun W x y (hx : Reads W x (L X.natAbs)) (hy : Reads W y (L Y.natAbs)) => sumOf_any W (sg X) (sg Y) x y X.natAbs Y.natAbs hx hy (Nat.lt_of_lt_of_le bX up) (Nat.lt_of_lt_of_le bY up) D hz')
  have HZ1 := hide (show g - s = g - s from rfl)
  have HZ2 := hide (show g - t = g - t from rfl)
  have HZ1' := hide (show IntKind.i64.wrap (g - s) = g - s by rw [IntKind.wrap_i64]; omega)
  have HZ2' := hide (show IntKind.i64.wrap (g - t) = g - t by rw [IntKind.wrap_i64]; omega)
  have bD : (L D.natAbs).length ≤ 1000 := by
    refine Nat.le_trans (L_len_le (n := D.natAbs) (k := 151) ?_) (by decide)
    have e : (10000 : Nat) ^ 151 = 10000 ^ 150 * 10000 := Nat.pow_succ ..
    rw [e]
    have : 0 < (10000 : Nat) ^ 150 := Nat.pow_pos (by decide)
    generalize (10000 : Nat) ^ 150 = M at *
    omega
  have HG := hide hg
  clear hX hY hz' up hua hva la lb hg hD
  go_enter Tryz.func15, Tryz.ntmps15
  go_wp2_with fail
  refine (unhide CA _ K0.below).mono ?_
  rintro e w1 ⟨rfl, b1⟩
  have K1 := K0.later b1
  obtain ⟨kb1, ka01, ka11, ka21, kc01, kc11, kc21, -, -, -, -, -, -, -⟩ := id K1
  clear b1
  go_wp2_with fail
  refine (unhide CB w1 kb1).mono ?_
  rintro e w2 ⟨rfl, b2⟩
  have K2 := K1.later b2
  obtain ⟨kb2, ka02, ka12, ka22, kc02, kc12, kc22, kd0, kd1, kd2, kf0, kf1, kf2, kl⟩ := id K2
  clear b2 ka01 ka11 ka21 kc01 kc11 kc21
  have stab : ∀ w' : World, Below w2.heap.size w2 w' → ((w'.cell? ⟨w.heap.size, 0, none⟩ = some (.bool p) ∧ w'.cell? ⟨w.heap.size, 1, none⟩ = some (.slice ao l.length cap) ∧ w'.cell? ⟨w.heap.size, 2, none⟩ = some (.int .i64 s) ∧ w'.cell? ⟨w.heap.size + 1, 0, none⟩ = some (.bool q) ∧ w'.cell? ⟨w.heap.size + 1, 1, none⟩ = some (.slice ao' m.length cap') ∧ w'.cell? ⟨w.heap.size + 1, 2, none⟩ = some (.int .i64 t)) ∧ Below w2.heap.size w2 w') := fun w' h => ⟨⟨cell_later h ka02, cell_later h ka12, cell_later h ka22, cell_later h kc02, cell_later h kc12, cell_later h kc22⟩, h⟩
  have hB : ∀ X : World, ((X.cell? ⟨w.heap.size, 0, none⟩ = some (.bool p) ∧ X.cell? ⟨w.heap.size, 1, none⟩ = some (.slice ao l.length cap) ∧ X.cell? ⟨w.heap.size, 2, none⟩ = some (.int .i64 s) ∧ X.cell? ⟨w.heap.size + 1, 0, none⟩ = some (.bool q) ∧ X.cell? ⟨w.heap.size + 1, 1, none⟩ = some (.slice ao' m.length cap') ∧ X.cell? ⟨w.heap.size + 1, 2, none⟩ = some (.int .i64 t)) ∧ Below w2.heap.size w2 X) → Below w2.heap.size w2 X := fun X h => h.2
  have Stab := hide stab
  have HB := hide hB
  clear stab hB
  go_wp2
  rw [← unhide HG]
  go_cut [7] (fun sp wk => ∃ (nB : Nat) (ab : Option Addr) (cb : Nat), sp = .pointer (some ⟨nB, 0, none⟩) ∧ wk.cell? ⟨nB, 0, none⟩ = some (.bool (sg D)) ∧ wk.cell? ⟨nB, 1, none⟩ = some (.slice ab (L D.natAbs).length cb) ∧ Own w2.heap.size wk (.slice ab (L D.natAbs).length cb) (L D.natAbs) ∧ Below w2.heap.size w2 wk)
  case first => as_aux_lemma =>
    go_region_held3 (fun w' => (w'.cell? ⟨w.heap.size, 0, none⟩ = some (.bool p) ∧ w'.cell? ⟨w.heap.size, 1, none⟩ = some (.slice ao l.length cap) ∧ w'.cell? ⟨w.heap.size, 2, none⟩ = some (.int .i64 s) ∧ w'.cell? ⟨w.heap.size + 1, 0, none⟩ = some (.bool q) ∧ w'.cell? ⟨w.heap.size + 1, 1, none⟩ = some (.slice ao' m.length cap') ∧ w'.cell? ⟨w.heap.size + 1, 2, none⟩ = some (.int .i64 t)) ∧ Below w2.heap.size w2 w')
      ((refine unhide Stab _ ?_; repeat' (first | with_reducible exact BW5 | with_reducible exact BW4 | with_reducible exact BW3 | with_reducible exact Below.refl _ _ | (with_reducible exact unhide HB _ (by assumption)) | refine Below.drew ?_ | refine Below.alloc ?_ ?_ _ | refine Below.setCell ?_ ?_ _ | omega | (simp <;> omega))))
      (first
        | (go_at_call_of 47 (Value.slice ao l.length cap); refine (unhide RA _ ?_ _ ?_).mono ?_; exact kb2.trans ((unhide HB _ (by assumption)).mono kb2.size); (first | with_reducible exact unhide HZ1 | with_reducible exact unhide HZ1'); rintro e w3 ⟨aa, ca, rfl, o3, b3⟩; have BW3 : Below w2.heap.size w2 w3 := (unhide HB _ (by assumption)).trans (b3.mono (unhide HB _ (by assumption)).size); have y3 := BW3.size; have E3 : EBs w3 _ := (by first | with_reducible exact EBs.drew1 b3 | exact EBs.empty w3); have l3 := E3.lts; (try simp at l3))
        | (go_at_call_of 47 (Value.slice ao' m.length cap'); refine (unhide RB _ ?_ _ ?_).mono ?_; exact kb2.trans ((unhide HB _ (by assumption)).mono kb2.size); (first | with_reducible exact unhide HZ2 | with_reducible exact unhide HZ2'); rintro e w4 ⟨ad, cd, rfl, o4, b4⟩; have K4 : Below w3.heap.size w3 w4 := (by first | with_reducible exact b4 | with_reducible exact below_back b4); have BW4 : Below w2.heap.size w2 w4 := BW3.trans (K4.mono BW3.size); have y4 := K4.size; have o3' := o3.later K4; have E4 : EBs w4 _ := (by first | with_reducible exact E3.later b4 | with_reducible exact E3.step1 b4); have l4 := E4.lts; (try simp at l4))
        | (go_at_call 46; refine (unhide C4 _ _ _ ?_ ?_).mono ?_; (first | exact o3'.reads | exact o3'.reads.alloc _); (first | exact o4.reads | exact o4.reads.alloc _); rintro e w5 ⟨ab, cb, rfl, o5, b5⟩; have K5 : Below w4.heap.size w4 w5 := (by first | with_reducible exact b5 | with_reducible exact below_back b5); have BW5 : Below w2.heap.size w2 w5 := BW4.trans (K5.mono BW4.size); have y5 := K5.size; have q5 := b5.size; (try simp only [World.size_alloc] at q5); have E5 : EBs w5 _ := (by first | with_reducible exact E4.later b5 | with_reducible exact E4.step1 b5); (first | (obtain ⟨⟨e0, e1, e2, e3, e4⟩, e10, e11⟩ := EBs.open1 E5) | skip)))
    all_goals
      go_wp2
      go_meet
      case rel =>
        refine ⟨_, ab, cb, rfl, ?_⟩
        refine fin1 o5 ?_ ?_ ?_ ?_ ?_ ?_
        · first | omega | (simp <;> omega)
        · intro j j1 j2
          repeat (first | with_reducible rfl | rw [Below.heap_setCell _ _ _ _ (by exact j2)] | (refine (heap_alloc_lt _ _ _ ?_).trans ?_; (first | omega | (simp <;> omega))))
        · first | omega | (simp <;> omega)
        · go_simp
        · go_simp
        · repeat' (first | with_reducible exact BW5 | with_reducible exact BW4 | with_reducible exact BW3 | with_reducible exact Below.refl _ _ | (with_reducible exact unhide HB _ (by assumption)) | refine Below.drew ?_ | refine Below.alloc ?_ ?_ _ | refine Below.setCell ?_ ?_ _ | omega | (simp <;> omega))
  case rest =>
  obtain ⟨nB, ab, cb, rfl, n0, n1, oD, bw⟩ := hcut
  have K3 := K2.later bw
  obtain ⟨kb3, -, -, -, -, -, -, kd0, kd1, kd2, kf0, kf1, kf2, kl⟩ := id K3
  have hbs := bw.size
  clear K0 K1 K2 bw Stab HB RA RB CA CB C4
  by_cases hD : (txtL (L D.natAbs)).length ≤ 30
  · have F := fitted_fine wc (sg D) _ (L D.natAbs) g oD.reads (L_lim _) bD hD (tt.later kb3)
    have E : dmake D g = (sg D, L D.natAbs, g, 0) := if_pos hD
    have HE := hide E
    have HF := hide F
    clear E F hD
    go_wp2_with fail
    refine (unhide HF).mono ?_
    rintro e w4 ⟨rfl, b4⟩
    have K4 := K3.later b4
    go_wp2_with fail
    refine (coded_fine w4 _ _ _ _ _).mono ?_
    rintro e w5 ⟨rfl, b5⟩
    have K5 := K4.later b5
    obtain ⟨kb5, -, -, -, -, -, -, kd50, kd51, kd52, kf50, kf51, kf52, kl5⟩ := id K5
    have o5 := (oD.later b4).later b5
    clear K3 K4 K5 b4 b5
    go_wp2
    refine bodyPost_ret (v := .tuple #[.agg #[.bool (sg D), .slice ab (L D.natAbs).length cb, .int .i64 g], .int .i64 0]) (by simp [results, Tryz.results15, go_sem, kd50, kd51, kd52]) rfl ?_
    rw [unhide Hfin, unhide HE]
    refine ⟨ab, cb, rfl, ?_, ((kb5.setCell (by simp; omega) _).setCell (by simp; omega) _).setCell (by simp; omega) _⟩
    exact (((o5.setBelow (by simp; omega) _).setBelow (by simp; omega) _).setBelow (by simp; omega) _).mono (by omega)
  · have F := fitted_long wc (sg D) _ (L D.natAbs) g oD.reads (L_lim _) bD hD (tt.later kb3)
    have E : dmake D g = (false, [], 0, 3) := if_neg hD
    have HE := hide E
    have HF := hide F
    clear E F hD
    go_wp2_with fail
    refine (unhide HF).mono ?_
    rintro e w4 ⟨rfl, b4⟩
    have K4 := K3.later b4
    go_wp2_with fail
    refine (coded_long w4 _ _ _ _ _ _ _ (hd.later K4.below)).mono ?_
    rintro e w5 ⟨rfl, b5⟩
    have K5 := K4.later b5
    obtain ⟨kb5, -, -, -, -, -, -, kd50, kd51, kd52, kf50, kf51, kf52, kl5⟩ := id K5
    clear K3 K4 K5 b4 b5
    go_wp2
    refine bodyPost_ret (v := .tuple #[.agg #[.bool false, .slice none 0 0, .int .i64 0], .int .i64 3]) (by simp [results, Tryz.results15, go_sem, kd50, kd51, kd52]) rfl ?_
    rw [unhide Hfin, unhide HE]
    exact ⟨none, 0, rfl, Own.nil _ _, ((kb5.setCell (by simp; omega) _).setCell (by simp; omega) _).setCell (by simp; omega) _⟩

set_option maxHeartbeats 4000000 in
theorem implDecAdd_no (w : World) (p q : Bool) (u v : Value) (l m : List Int) (s t : Int) (hu : Reads w u l) (hv : Reads w v m) (tt : Tab w) (h : ¬ (decB p l s = true ∧ decB q m t = true)) :
    Calls Tryz.prog 15 #[.agg #[.bool p, u, .int .i64 s], .agg #[.bool q, v, .int .i64 t]] w (GivesDecI w (daddR p l s q m t)) := by
  have CA := hide (fun W (h : Below w.heap.size w W) => implDecOk_any W p u l s (hu.later h) (tt.later h))
  have CB := hide (fun W (h : Below w.heap.size w W) => implDecOk_any W q v m t (hv.later h) (tt.later h))
  obtain ⟨ao, b1, off, cap, rfl, hu0⟩ := id hu
  obtain ⟨ao', b2, off', cap', rfl, hv0⟩ := id hv
  clear hu0 hv0
  have K0 := Dx3.start w p q (.slice ao l.length cap) (.slice ao' m.length cap') s t
  have Hfin := hide (by unfold daddR; rw [if_neg h] : daddR p l s q m t = (false, [], 0, 1))
  cases ha : decB p l s with
  | false =>
    rw [ha] at CA
    clear ha h hu hv
    go_enter Tryz.func15, Tryz.ntmps15
    go_wp2_with fail
    refine (unhide CA _ K0.below).mono ?_
    rintro e w1 ⟨rfl, b1⟩
    have K1 := K0.later b1
    obtain ⟨kb5, -, -, -, -, -, -, kd50, kd51, kd52, kf50, kf51, kf52, kl5⟩ := id K1
    clear b1
    go_wp2
    refine bodyPost_ret (v := .tuple #[.agg #[.bool false, .slice none 0 0, .int .i64 0], .int .i64 1]) (by simp [results, Tryz.results15, go_sem, kd50, kd51, kd52]) rfl ?_
    rw [unhide Hfin]
    exact ⟨none, 0, rfl, Own.nil _ _, ((kb5.setCell (by simp; omega) _).setCell (by simp; omega) _).setCell (by simp; omega) _⟩
  | true =>
    have hb : decB q m t = false := by
      cases hb : decB q m t with
      | false => rfl
      | true => exact absurd ⟨ha, hb⟩ h
    rw [ha] at CA
    rw [hb] at CB
    clear ha hb h hu hv
    go_enter Tryz.func15, Tryz.ntmps15
    go_wp2_with fail
    refine (unhide CA _ K0.below).mono ?_
    rintro e w1 ⟨rfl, b1⟩
    have K1 := K0.later b1
    obtain ⟨kb1, ka01, ka11, ka21, kc01, kc11, kc21, -, -, -, -, -, -, -⟩ := id K1
    clear b1
    go_wp2_with fail
    refine (unhide CB w1 kb1).mono ?_
    rintro e w2 ⟨rfl, b2⟩
    have K2 := K1.later b2
    obtain ⟨kb5, -, -, -, -, -, -, kd50, kd51, kd52, kf50, kf51, kf52, kl5⟩ := id K2
    clear b2 ka01 ka11 ka21 kc01 kc11 kc21
    go_wp2
    refine bodyPost_ret (v := .tuple #[.agg #[.bool false, .slice none 0 0, .int .i64 0], .int .i64 1]) (by simp [results, Tryz.results15, go_sem, kd50, kd51, kd52]) rfl ?_
    rw [unhide Hfin]
    exact ⟨none, 0, rfl, Own.nil _ _, ((kb5.setCell (by simp; omega) _).setCell (by simp; omega) _).setCell (by simp; omega) _⟩

theorem implDecAdd_any (w : World) (p q : Bool) (u v : Value) (l m : List Int) (s t : Int) (hu : Reads w u l) (hv : Reads w v m) (tt : Tab w) (hd : Hd w) :
    Calls Tryz.prog 15 #[.agg #[.bool p, u, .int .i64 s], .agg #[.bool q, v, .int .i64 t]] w (GivesDecI w (daddR p l s q m t)) := by
  by_cases h : decB p l s = true ∧ decB q m t = true
  · exact implDecAdd_ok w p q u v l m s t hu hv tt hd h.1 h.2
  · exact implDecAdd_no w p q u v l m s t hu hv tt h

end Go.Proofs.YthnkmjkgcnhlfaaGreatDoor
