/- The law FnBigOf: its walk. -/
import Derived.Test.YtfogbmjcjgnpeaaDrOf
import Derived.Test.YtfogbmjcjgnpeaaByt1
import Derived.Test.YtfogbmjcjgnpeaaOf
import Derived.Test.YtfogbmjcjgnpeaaBigE
import Derived.Test.YtfogbmjcjgnpeaaNumA
import Derived.Test.YtfogbmjcjgnpeaaPSt
import Derived.Test.YtfogbmjcjgnpeaaJt
import Derived.Deep.RegionHeld
import Derived.Deep.DeepCutAuto
namespace Go.Proofs.Ytfogbmjcjgnpeaa
open Go.RowKit

theorem len16 {z : Int} (h : z.natAbs ≤ 10000000000000000000) : (L z.natAbs).length ≤ 16 := by
  have hN : z.natAbs < 10000 ^ 5 := by
    have : (10000 : Nat) ^ 5 = 100000000000000000000 := rfl
    omega
  have := L_len_le hN
  omega

theorem addOf {W : World} {a b : Int} (ha : (L a.natAbs).length ≤ 16) (hb : (L b.natAbs).length ≤ 16) (hc : (L (a + b).natAbs).length ≤ 16) {u v : Value} (hu : Reads W u (L a.natAbs)) (hv : Reads W v (L b.natAbs)) :
    Calls Try.prog 8 #[.agg #[.bool (sg a), u], .agg #[.bool (sg b), v]] W (GivesBig2 W (sg (a + b), L (a + b).natAbs, true)) := by
  have := implBigAdd_any W (sg a) (sg b) u v _ _ hu hv
  rw [okB_z ha, okB_z hb, zv_z, zv_z] at this
  unfold outR at this
  rwa [if_pos ⟨rfl, hc⟩] at this
theorem mulOf {W : World} {a b : Int} (ha : (L a.natAbs).length ≤ 16) (hb : (L b.natAbs).length ≤ 16) (hc : (L (a * b).natAbs).length ≤ 16) {u v : Value} (hu : Reads W u (L a.natAbs)) (hv : Reads W v (L b.natAbs)) :
    Calls Try.prog 22 #[.agg #[.bool (sg a), u], .agg #[.bool (sg b), v]] W (GivesBig2 W (sg (a * b), L (a * b).natAbs, true)) := by
  have := implBigMul_any W (sg a) (sg b) u v _ _ hu hv
  rw [okB_z ha, okB_z hb, zv_z, zv_z] at this
  unfold outR at this
  rwa [if_pos ⟨rfl, hc⟩] at this
theorem implOf_z (W : World) (n : Int) (h : -9223372036854775808 ≤ n ∧ n ≤ 9223372036854775807) : Calls Try.prog 19 #[.int .i64 n] W (GivesBig W (sg n) (L n.natAbs)) := implBigOf_any W n h.1 h.2
theorem implOf_e (W : World) (m n : Int) (e : m = n) (h : -9223372036854775808 ≤ n ∧ n ≤ 9223372036854775807) : Calls Try.prog 19 #[.int .i64 m] W (GivesBig W (sg n) (L n.natAbs)) := by
  subst e
  exact implOf_z W m h
theorem specOf_z (W : World) (n : Int) (h : -9223372036854775808 ≤ n ∧ n ≤ 9223372036854775807) : Calls Try.prog 20 #[.int .i64 n] W (GivesBig W (sg n) (L n.natAbs)) := specBigOf_any W n h.1 h.2

set_option maxHeartbeats 1000000 in
set_option maxRecDepth 100000 in
theorem xBigOfP_walk (w : World) (v v' : Value) (h : Byt w v) (h' : Byt w v') :
    Calls Try.prog 6 #[v, v'] w fun e w' => e = .returned (.bool true) ∧ Below w.heap.size w w' := by
  have C0 := hide (drawBigOf_any w v h)
  obtain ⟨ao, n, cap, rfl, hn⟩ := byt_len h
  obtain ⟨ao', n', cap', rfl, hn'⟩ := byt_len h'
  clear h
  by_cases hl : (1048576 : Int) < n
  · have t0 : decide ((1048576 : Int) < n) = true := by simpa using hl
    clear h'
    go_enter Try.func6, Try.ntmps6
    go_wp2
    go_ret
    exact ⟨rfl, Below.refl _ _⟩
  have t0 : decide ((1048576 : Int) < n) = false := by simpa using hl
  by_cases hl' : (1048576 : Int) < n'
  · have t1 : decide ((1048576 : Int) < n') = true := by simpa using hl'
    clear h'
    go_enter Try.func6, Try.ntmps6
    go_wp2
    go_ret
    exact ⟨rfl, Below.refl _ _⟩
  have t1 : decide ((1048576 : Int) < n') = false := by simpa using hl'
  go_enter Try.func6, Try.ntmps6
  go_wp2_with fail
  refine (unhide C0).mono ?_
  rintro e w1 ⟨n, rfl, hn, b1⟩
  clear C0
  have C1 := hide (drawBigOf_any w1 _ (h'.later b1))
  clear h'
  go_wp2_with fail
  refine (unhide C1).mono ?_
  rintro e w2 ⟨k, rfl, hk, b2⟩
  clear C1
  have S2 : PS w w2 [] := PS.start (b1.trans (b2.mono b1.size))
  clear b1 b2
  obtain ⟨X, hX⟩ : ∃ X : Int, n.tdiv 4 = X := ⟨_, rfl⟩
  obtain ⟨Y, hY⟩ : ∃ Y : Int, k.tdiv 4 = Y := ⟨_, rfl⟩
  have bX : -2305843009213693952 ≤ X ∧ X ≤ 2305843009213693952 := by
    have e : (n.tdiv 4).natAbs = n.natAbs / 4 := Int.natAbs_tdiv n 4
    rw [hX] at e
    omega
  have bY : -2305843009213693952 ≤ Y ∧ Y ≤ 2305843009213693952 := by
    have e : (k.tdiv 4).natAbs = k.natAbs / 4 := Int.natAbs_tdiv k 4
    rw [hY] at e
    omega
  obtain ⟨P, hP⟩ : ∃ P : Int, X.tmod 1000000000 = P := ⟨_, rfl⟩
  obtain ⟨Q, hQ⟩ : ∃ Q : Int, Y.tmod 1000000000 = Q := ⟨_, rfl⟩
  have bP : -1000000000 ≤ P ∧ P ≤ 1000000000 := by
    have e : (X.tmod 1000000000).natAbs = X.natAbs % 1000000000 := Int.natAbs_tmod X 1000000000
    rw [hP] at e
    omega
  have bQ : -1000000000 ≤ Q ∧ Q ≤ 1000000000 := by
    have e : (Y.tmod 1000000000).natAbs = Y.natAbs % 1000000000 := Int.natAbs_tmod Y 1000000000
    rw [hQ] at e
    omega
  obtain ⟨bX1, bX2⟩ := bX
  obtain ⟨bY1, bY2⟩ := bY
  have bPQ : -1000000000000000000 ≤ P * Q ∧ P * Q ≤ 1000000000000000000 := by
    have e : (P * Q).natAbs = P.natAbs * Q.natAbs := Int.natAbs_mul P Q
    have m : P.natAbs * Q.natAbs ≤ 1000000000 * 1000000000 := Nat.mul_le_mul (by omega) (by omega)
    omega
  obtain ⟨bP1, bP2⟩ := bP
  obtain ⟨bQ1, bQ2⟩ := bQ
  obtain ⟨M, hM⟩ : ∃ M : Int, P * Q = M := ⟨_, rfl⟩
  rw [hM] at bPQ
  obtain ⟨bM1, bM2⟩ := bPQ
  have ln : (L n.natAbs).length ≤ 16 := len16 (by omega)
  have lX : (L X.natAbs).length ≤ 16 := len16 (by omega)
  have lY : (L Y.natAbs).length ≤ 16 := len16 (by omega)
  have lP : (L P.natAbs).length ≤ 16 := len16 (by omega)
  have lQ : (L Q.natAbs).length ≤ 16 := len16 (by omega)
  have lS : (L (X + Y).natAbs).length ≤ 16 := len16 (by omega)
  have lM : (L (P * Q).natAbs).length ≤ 16 := by rw [hM]; exact len16 (by omega)
  have CA := hide (fun (W : World) (u v : Value) (hu : Reads W u (L X.natAbs)) (hv : Reads W v (L Y.natAbs)) => addOf lX lY lS hu hv)
  have CM := hide (fun (W : World) (u v : Value) (hu : Reads W u (L P.natAbs)) (hv : Reads W v (L Q.natAbs)) => mulOf lP lQ lM hu hv)
  rw [hM] at CM
  have CN := hide (fun W => implOf_z W n hn)
  have CNs := hide (fun W => specOf_z W n hn)
  have CX := hide (fun W => implOf_z W X ⟨by omega, by omega⟩)
  have CY := hide (fun W => implOf_z W Y ⟨by omega, by omega⟩)
  have CP := hide (fun W => implOf_z W P ⟨by omega, by omega⟩)
  have CQ := hide (fun W => implOf_z W Q ⟨by omega, by omega⟩)
  have eS : IntKind.i64.wrap (X + Y) = X + Y := by rw [IntKind.wrap_i64]; omega
  have eM : IntKind.i64.wrap M = M := by rw [IntKind.wrap_i64]; omega
  have CS := hide (fun W => implOf_e W (IntKind.i64.wrap (X + Y)) (X + Y) eS ⟨by omega, by omega⟩)
  have CMM := hide (fun W => implOf_e W (IntKind.i64.wrap M) M eM ⟨by omega, by omega⟩)
  clear eS eM
  have hok := okB_z ln
  have HOK := hide hok
  clear hok lX lY lP lQ lS lM ln
  go_wp2_with fail
  refine (unhide CN _).mono ?_
  rintro e w3 ⟨sa, ca, rfl, oa, k3⟩
  have S3 := S2.later k3
  have S3b := S3.add (sg n) (.slice sa (L n.natAbs).length ca) (L n.natAbs) oa.reads
  simp only [List.nil_append] at S3b
  clear k3 S2 S3
  have rA := (S3b.box (w3.heap.size, sg n, .slice sa (L n.natAbs).length ca, L n.natAbs) (by simp)).2.2.1
  have a0 := (S3b.box (w3.heap.size, sg n, .slice sa (L n.natAbs).length ca, L n.natAbs) (by simp)).1
  have a1 := (S3b.box (w3.heap.size, sg n, .slice sa (L n.natAbs).length ca, L n.natAbs) (by simp)).2.1
  have CO := hide (fun (W : World) (u : Value) (hu : Reads W u (L n.natAbs)) => implBigOk_any W (sg n) u (L n.natAbs) hu)
  rw [unhide HOK] at CO
  clear oa
  go_wp2_with fail
  have B3 := S3b.below
  clear S3b
  generalize w3.alloc (.cells #[.bool (sg n), .slice sa (L n.natAbs).length ca] 25) = W0 at *
  have stab : ∀ w' : World, Below W0.heap.size W0 w' → (w'.cell? ⟨w3.heap.size, 0, none⟩ = some (.bool (sg n)) ∧ w'.cell? ⟨w3.heap.size, 1, none⟩ = some (.slice sa (L n.natAbs).length ca)) :=
    fun w' h => ⟨cell_later h a0, cell_later h a1⟩
  have Stab := hide stab
  have RA := hide rA
  have HB3 := hide B3
  clear stab rA a0 a1 B3
  go_cut [37] (fun b wk => b = .bool false ∧ Below w.heap.size w wk)
  case first =>
    go_region_held (fun w' => w'.cell? ⟨w3.heap.size, 0, none⟩ = some (.bool (sg n)) ∧ w'.cell? ⟨w3.heap.size, 1, none⟩ = some (.slice sa (L n.natAbs).length ca))
      (first | with_reducible exact unhide Stab _ (Below.refl _ _).drew | with_reducible exact unhide Stab _ BW4 | with_reducible exact unhide Stab _ BW5 | with_reducible exact unhide Stab _ BW6)
      (first
        | (go_at_call 20; refine (unhide CNs _).mono ?_; rintro e w4 ⟨sw, cw, rfl, ow, k4⟩; have BW4 : Below W0.heap.size W0 w4 := (Below.refl _ _).drew.trans k4)
        | (go_at_call 10; refine (jtBig_same _ (sg n) _ _ (L n.natAbs) ((unhide RA).later BW4) ow.reads).mono ?_; rintro e w5 ⟨rfl, k5⟩; have BW5 : Below W0.heap.size W0 w5 := BW4.trans (k5.mono BW4.size))
        | (go_at_call 21; refine (unhide CO _ _ ((unhide RA).later BW5)).mono ?_; rintro e w6 ⟨rfl, k6⟩; have BW6 : Below W0.heap.size W0 w6 := BW5.trans (k6.mono BW5.size)))
    all_goals
      go_wp2
      go_meet
      case rel => exact ⟨rfl, (unhide HB3).trans (BW6.mono (unhide HB3).size)⟩
  case rest =>
  obtain ⟨rfl, hbw⟩ := hcut
  clear CN CNs CO Stab RA HB3 HOK
  go_wp2_with fail
  refine (unhide CX _).mono ?_
  rintro e w7 ⟨sx, cx, rfl, ox, k7⟩
  go_wp2_with fail
  refine (unhide CY _).mono ?_
  rintro e w8 ⟨sy, cy, rfl, oy, k8⟩
  go_wp2_with fail
  refine (unhide CA _ _ _ (ox.reads.later k8) oy.reads).mono ?_
  rintro e w9 ⟨ss, cs, rfl, os, k9⟩
  have B9 : Below w.heap.size w w9 := ((hbw.trans (k7.mono hbw.size)).trans (k8.mono (Nat.le_trans hbw.size k7.size))).trans (k9.mono (Nat.le_trans hbw.size (Nat.le_trans k7.size k8.size)))
  have S9 := (PS.start B9).add (sg (X + Y)) (.slice ss (L (X + Y).natAbs).length cs) (L (X + Y).natAbs) os.reads
  simp only [List.nil_append] at S9
  have HS9 := hide S9
  clear k7 k8 k9 ox oy os B9 S9 CX CY CA hbw
  go_wp2_with fail
  refine (unhide CP _).mono ?_
  rintro e w10 ⟨sp, cp, rfl, op, k10⟩
  go_wp2_with fail
  refine (unhide CQ _).mono ?_
  rintro e w11 ⟨sq, cq, rfl, oq, k11⟩
  go_wp2_with fail
  refine (unhide CM _ _ _ (op.reads.later k11) oq.reads).mono ?_
  rintro e w12 ⟨sm, cm, rfl, om, k12⟩
  have S12 := ((((unhide HS9).later k10).later k11).later k12).add (sg M) (.slice sm (L M.natAbs).length cm) (L M.natAbs) om.reads
  simp only [List.nil_append, List.cons_append] at S12
  clear k10 k11 k12 op oq om HS9 CP CQ CM
  have a0 := (S12.box (w9.heap.size, sg (X + Y), .slice ss (L (X + Y).natAbs).length cs, L (X + Y).natAbs) (by simp)).1
  have a1 := (S12.box (w9.heap.size, sg (X + Y), .slice ss (L (X + Y).natAbs).length cs, L (X + Y).natAbs) (by simp)).2.1
  have rA := (S12.box (w9.heap.size, sg (X + Y), .slice ss (L (X + Y).natAbs).length cs, L (X + Y).natAbs) (by simp)).2.2.1
  have b0 := (S12.box (w12.heap.size, sg M, .slice sm (L M.natAbs).length cm, L M.natAbs) (by simp)).1
  have b1 := (S12.box (w12.heap.size, sg M, .slice sm (L M.natAbs).length cm, L M.natAbs) (by simp)).2.1
  have rB := (S12.box (w12.heap.size, sg M, .slice sm (L M.natAbs).length cm, L M.natAbs) (by simp)).2.2.1
  have B12 := hide S12.below
  clear S12
  go_wp2_with fail
  generalize w12.alloc (.cells #[.bool (sg M), .slice sm (L M.natAbs).length cm] 25) = W0 at *
  have stab : ∀ w' : World, Below W0.heap.size W0 w' → (w'.cell? ⟨w9.heap.size, 0, none⟩ = some (.bool (sg (X + Y))) ∧ w'.cell? ⟨w9.heap.size, 1, none⟩ = some (.slice ss (L (X + Y).natAbs).length cs) ∧ w'.cell? ⟨w12.heap.size, 0, none⟩ = some (.bool (sg M)) ∧ w'.cell? ⟨w12.heap.size, 1, none⟩ = some (.slice sm (L M.natAbs).length cm)) :=
    fun w' h => ⟨cell_later h a0, cell_later h a1, cell_later h b0, cell_later h b1⟩
  have Stab := hide stab
  have RA := hide rA
  have RB := hide rB
  clear stab rA rB a0 a1 b0 b1
  go_region_held (fun w' => w'.cell? ⟨w9.heap.size, 0, none⟩ = some (.bool (sg (X + Y))) ∧ w'.cell? ⟨w9.heap.size, 1, none⟩ = some (.slice ss (L (X + Y).natAbs).length cs) ∧ w'.cell? ⟨w12.heap.size, 0, none⟩ = some (.bool (sg M)) ∧ w'.cell? ⟨w12.heap.size, 1, none⟩ = some (.slice sm (L M.natAbs).length cm))
    (first | with_reducible exact unhide Stab _ (Below.refl _ _).drew | with_reducible exact unhide Stab _ BW4 | with_reducible exact unhide Stab _ BW5 | with_reducible exact unhide Stab _ BW6 | with_reducible exact unhide Stab _ BW7)
    (first
      | (go_at_call_of 19 (Value.int .i64 (IntKind.i64.wrap (X + Y))); refine (unhide CS _).mono ?_; rintro e w13 ⟨su, cu, rfl, ou, k4⟩; have BW4 : Below W0.heap.size W0 w13 := (Below.refl _ _).drew.trans k4)
      | (go_at_call_of 10 (Value.slice ss (L (X + Y).natAbs).length cs); refine (jtBig_same _ (sg (X + Y)) _ _ (L (X + Y).natAbs) ((unhide RA).later BW4) ou.reads).mono ?_; rintro e w14 ⟨rfl, k5⟩; have BW5 : Below W0.heap.size W0 w14 := BW4.trans (k5.mono BW4.size))
      | (go_at_call_of 19 (Value.int .i64 (IntKind.i64.wrap M)); refine (unhide CMM _).mono ?_; rintro e w15 ⟨sv, cv, rfl, ov, k6⟩; have BW6 : Below W0.heap.size W0 w15 := BW5.trans (k6.mono BW5.size))
      | (go_at_call_of 10 (Value.slice sm (L M.natAbs).length cm); refine (jtBig_same _ (sg M) _ _ (L M.natAbs) ((unhide RB).later BW6) ov.reads).mono ?_; rintro e w16 ⟨rfl, k7⟩; have BW7 : Below W0.heap.size W0 w16 := BW6.trans (k7.mono BW6.size)))
  all_goals
    go_wp2
    go_ret
    exact ⟨rfl, (unhide B12).trans (BW7.mono (unhide B12).size)⟩

end Go.Proofs.Ytfogbmjcjgnpeaa
