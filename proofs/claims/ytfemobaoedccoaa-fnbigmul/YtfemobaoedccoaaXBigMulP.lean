/- The law FnBigMul: its walk. -/
import Derived.Test.YtfemobaoedccoaaNumZ
import Derived.Test.YtfemobaoedccoaaDivL
import Derived.Test.YtfemobaoedccoaaByt1
namespace Go.Proofs.Ytfemobaoedccoaa
open Go.RowKit
set_option linter.unusedSimpArgs false

set_option maxHeartbeats 1000000 in
set_option maxRecDepth 100000 in
theorem xBigMulP_walk (w : World) (v : Value) (h : Byt w v) :
    Calls Try.prog 3 #[v] w fun e w' => e = .returned (.bool true) ∧ Below w.heap.size w w' := by
  have C0 := hide (drawMul_any w v h)
  obtain ⟨ao, n, cap, rfl, hn⟩ := byt_len h
  clear h
  by_cases hl : (1048576 : Int) < n
  · have t0 : decide ((1048576 : Int) < n) = true := by simpa using hl
    go_enter Try.func3, Try.ntmps3
    go_wp2
    go_ret
    exact ⟨rfl, Below.refl _ _⟩
  · have t0 : decide ((1048576 : Int) < n) = false := by simpa using hl
    go_enter Try.func3, Try.ntmps3
    go_wp2_with fail
    refine (unhide C0).mono ?_
    rintro e w1 ⟨a, b, aa, ca, ab, cb, rfl, ha, hb, oa, ob, b1⟩
    clear C0
    have S1 := ((PS.start b1).add (sg a) (.slice aa (L a.natAbs).length ca) (L a.natAbs) oa.reads).add (sg b) (.slice ab (L b.natAbs).length cb) (L b.natAbs) (ob.reads.alloc _)
    simp only [List.nil_append, List.cons_append, World.size_alloc] at S1
    clear b1 oa ob
    have CX := hide (fun (W : World) (u v : Value) (hu : Reads W u (L a.natAbs)) (hv : Reads W v (L b.natAbs)) => implMul_z ha hb hu hv)
    have CW := hide (fun (W : World) (u v : Value) (hu : Reads W u (L a.natAbs)) (hv : Reads W v (L b.natAbs)) => specMul_z ha hb hu hv)
    have CY := hide (fun (W : World) (u v : Value) (hu : Reads W u (L b.natAbs)) (hv : Reads W v (L a.natAbs)) => implMul_z hb ha hu hv)
    rw [Int.mul_comm b a] at CY
    have E1 := hide (out_cases (a * b))
    generalize outR true (a * b) = O1 at *
    obtain ⟨p1, l1, k1⟩ := O1
    have hkk : (!(k1 == k1)) = false := by cases k1 <;> rfl
    have hk2 : (k1 == k1) = true := by cases k1 <;> rfl
    go_wp2_with fail
    refine (unhide CX _ _ _ (S1.box (w1.heap.size, (sg a), .slice aa (L a.natAbs).length ca, L a.natAbs) (by simp)).2.2.1 (S1.box (w1.heap.size + 1, (sg b), .slice ab (L b.natAbs).length cb, L b.natAbs) (by simp)).2.2.1).mono ?_
    rintro e w2 ⟨sx, cx, rfl, ox, k2⟩
    have S2 := S1.later k2
    have cA0 : w2.cell? ⟨w1.heap.size, 0, none⟩ = some (.bool (sg a)) := (S2.box (w1.heap.size, (sg a), .slice aa (L a.natAbs).length ca, L a.natAbs) (by simp)).1
    have cA1 : w2.cell? ⟨w1.heap.size, 1, none⟩ = some (.slice aa (L a.natAbs).length ca) := (S2.box (w1.heap.size, (sg a), .slice aa (L a.natAbs).length ca, L a.natAbs) (by simp)).2.1
    have zA : w1.heap.size < w2.heap.size := (S2.box (w1.heap.size, (sg a), .slice aa (L a.natAbs).length ca, L a.natAbs) (by simp)).2.2.2
    have cB0 : w2.cell? ⟨w1.heap.size + 1, 0, none⟩ = some (.bool (sg b)) := (S2.box (w1.heap.size + 1, (sg b), .slice ab (L b.natAbs).length cb, L b.natAbs) (by simp)).1
    have cB1 : w2.cell? ⟨w1.heap.size + 1, 1, none⟩ = some (.slice ab (L b.natAbs).length cb) := (S2.box (w1.heap.size + 1, (sg b), .slice ab (L b.natAbs).length cb, L b.natAbs) (by simp)).2.1
    have zB : w1.heap.size + 1 < w2.heap.size := (S2.box (w1.heap.size + 1, (sg b), .slice ab (L b.natAbs).length cb, L b.natAbs) (by simp)).2.2.2
    have S2b := S2.add (p1) (.slice sx l1.length cx) (l1) ox.reads
    simp only [List.nil_append, List.cons_append, World.size_alloc] at S2b
    clear k2 ox S1
    go_wp2_with fail
    refine (unhide CW _ _ _ (S2b.box (w1.heap.size, (sg a), .slice aa (L a.natAbs).length ca, L a.natAbs) (by simp)).2.2.1 (S2b.box (w1.heap.size + 1, (sg b), .slice ab (L b.natAbs).length cb, L b.natAbs) (by simp)).2.2.1).mono ?_
    rintro e w3 ⟨sw, cw, rfl, ow, k3⟩
    have S3 := S2b.later k3
    clear cA0 cA1 zA cB0 cB1 zB
    have cX0 : w3.cell? ⟨w2.heap.size, 0, none⟩ = some (.bool p1) := (S3.box (w2.heap.size, p1, .slice sx l1.length cx, l1) (by simp)).1
    have cX1 : w3.cell? ⟨w2.heap.size, 1, none⟩ = some (.slice sx l1.length cx) := (S3.box (w2.heap.size, p1, .slice sx l1.length cx, l1) (by simp)).2.1
    have zX : w2.heap.size < w3.heap.size := (S3.box (w2.heap.size, p1, .slice sx l1.length cx, l1) (by simp)).2.2.2
    have S3b := S3.add (p1) (.slice sw l1.length cw) (l1) ow.reads
    simp only [List.nil_append, List.cons_append, World.size_alloc] at S3b
    clear k3 ow S2 S2b CX CW
    go_wp2_with fail
    refine (jtBig_same _ p1 _ _ l1 (S3b.box (w2.heap.size, p1, .slice sx l1.length cx, l1) (by simp)).2.2.1 (S3b.box (w3.heap.size, p1, .slice sw l1.length cw, l1) (by simp)).2.2.1).mono ?_
    rintro e w4 ⟨rfl, k4⟩
    have S4 := S3b.later k4
    clear k4 S3 S3b
    clear cX0 cX1 zX
    have cA0 : w4.cell? ⟨w1.heap.size, 0, none⟩ = some (.bool (sg a)) := (S4.box (w1.heap.size, (sg a), .slice aa (L a.natAbs).length ca, L a.natAbs) (by simp)).1
    have cA1 : w4.cell? ⟨w1.heap.size, 1, none⟩ = some (.slice aa (L a.natAbs).length ca) := (S4.box (w1.heap.size, (sg a), .slice aa (L a.natAbs).length ca, L a.natAbs) (by simp)).2.1
    have zA : w1.heap.size < w4.heap.size := (S4.box (w1.heap.size, (sg a), .slice aa (L a.natAbs).length ca, L a.natAbs) (by simp)).2.2.2
    have cB0 : w4.cell? ⟨w1.heap.size + 1, 0, none⟩ = some (.bool (sg b)) := (S4.box (w1.heap.size + 1, (sg b), .slice ab (L b.natAbs).length cb, L b.natAbs) (by simp)).1
    have cB1 : w4.cell? ⟨w1.heap.size + 1, 1, none⟩ = some (.slice ab (L b.natAbs).length cb) := (S4.box (w1.heap.size + 1, (sg b), .slice ab (L b.natAbs).length cb, L b.natAbs) (by simp)).2.1
    have zB : w1.heap.size + 1 < w4.heap.size := (S4.box (w1.heap.size + 1, (sg b), .slice ab (L b.natAbs).length cb, L b.natAbs) (by simp)).2.2.2
    have cX0 : w4.cell? ⟨w2.heap.size, 0, none⟩ = some (.bool p1) := (S4.box (w2.heap.size, p1, .slice sx l1.length cx, l1) (by simp)).1
    have cX1 : w4.cell? ⟨w2.heap.size, 1, none⟩ = some (.slice sx l1.length cx) := (S4.box (w2.heap.size, p1, .slice sx l1.length cx, l1) (by simp)).2.1
    have zX : w2.heap.size < w4.heap.size := (S4.box (w2.heap.size, p1, .slice sx l1.length cx, l1) (by simp)).2.2.2
    have cN0 : w4.cell? ⟨w3.heap.size, 0, none⟩ = some (.bool p1) := (S4.box (w3.heap.size, p1, .slice sw l1.length cw, l1) (by simp)).1
    have cN1 : w4.cell? ⟨w3.heap.size, 1, none⟩ = some (.slice sw l1.length cw) := (S4.box (w3.heap.size, p1, .slice sw l1.length cw, l1) (by simp)).2.1
    have zN : w3.heap.size < w4.heap.size := (S4.box (w3.heap.size, p1, .slice sw l1.length cw, l1) (by simp)).2.2.2
    cases k1 with
    | false =>
      clear hkk hk2 E1 CY
      go_wp2_with fail
      refine (jtBig_same _ p1 _ _ l1 (S4.box (w2.heap.size, p1, .slice sx l1.length cx, l1) (by simp)).2.2.1 (S4.box (w3.heap.size, p1, .slice sw l1.length cw, l1) (by simp)).2.2.1).mono ?_
      rintro e w5 ⟨rfl, k5⟩
      go_wp2
      go_ret
      exact ⟨rfl, (S4.later k5).below⟩
    | true =>
      have F1 : p1 = sg (a * b) ∧ l1 = L (a * b).natAbs ∧ (L (a * b).natAbs).length ≤ 16 := by
        rcases unhide E1 with ⟨e, h⟩ | e <;> simp at e
        exact ⟨e.1, e.2, h⟩
      clear E1 hkk hk2
      obtain ⟨rfl, rfl, hx⟩ := F1
      have CD := hide (fun (W : World) (u v : Value) (hu : Reads W u (L (a * b).natAbs)) (hv : Reads W v (L b.natAbs)) => implDiv_z hx hb hu hv)
      go_wp2_with fail
      refine (unhide CY _ _ _ (S4.box (w1.heap.size + 1, (sg b), .slice ab (L b.natAbs).length cb, L b.natAbs) (by simp)).2.2.1 (S4.box (w1.heap.size, (sg a), .slice aa (L a.natAbs).length ca, L a.natAbs) (by simp)).2.2.1).mono ?_
      rintro e w5 ⟨sy, cy, rfl, oy, k5⟩
      have S5 := S4.later k5
      clear cA0 cA1 zA cB0 cB1 zB cX0 cX1 zX cN0 cN1 zN
      have cX0 : w5.cell? ⟨w2.heap.size, 0, none⟩ = some (.bool (sg (a * b))) := (S5.box (w2.heap.size, (sg (a * b)), .slice sx (L (a * b).natAbs).length cx, L (a * b).natAbs) (by simp)).1
      have cX1 : w5.cell? ⟨w2.heap.size, 1, none⟩ = some (.slice sx (L (a * b).natAbs).length cx) := (S5.box (w2.heap.size, (sg (a * b)), .slice sx (L (a * b).natAbs).length cx, L (a * b).natAbs) (by simp)).2.1
      have zX : w2.heap.size < w5.heap.size := (S5.box (w2.heap.size, (sg (a * b)), .slice sx (L (a * b).natAbs).length cx, L (a * b).natAbs) (by simp)).2.2.2
      have cB0 : w5.cell? ⟨w1.heap.size + 1, 0, none⟩ = some (.bool (sg b)) := (S5.box (w1.heap.size + 1, (sg b), .slice ab (L b.natAbs).length cb, L b.natAbs) (by simp)).1
      have cB1 : w5.cell? ⟨w1.heap.size + 1, 1, none⟩ = some (.slice ab (L b.natAbs).length cb) := (S5.box (w1.heap.size + 1, (sg b), .slice ab (L b.natAbs).length cb, L b.natAbs) (by simp)).2.1
      have zB : w1.heap.size + 1 < w5.heap.size := (S5.box (w1.heap.size + 1, (sg b), .slice ab (L b.natAbs).length cb, L b.natAbs) (by simp)).2.2.2
      have S5b := S5.add ((sg (a * b))) (.slice sy (L (a * b).natAbs).length cy) (L (a * b).natAbs) oy.reads
      simp only [List.nil_append, List.cons_append, World.size_alloc] at S5b
      clear k5 oy S4
      by_cases hb0 : b = 0
      · have eD : (a * b).tdiv b = 0 ∧ restZ (a * b) b = 0 ∧ decide (b ≠ 0) = false := by subst hb0; simp [restZ]
        rw [eD.1, eD.2.1, eD.2.2] at CD
        have HB0 := hide hb0
        clear eD hb0
        go_wp2_with fail
        refine (unhide CD _ _ _ (S5b.box (w2.heap.size, (sg (a * b)), .slice sx (L (a * b).natAbs).length cx, L (a * b).natAbs) (by simp)).2.2.1 (S5b.box (w1.heap.size + 1, (sg b), .slice ab (L b.natAbs).length cb, L b.natAbs) (by simp)).2.2.1).mono ?_
        rintro e w6 ⟨qo, ro, qc, rc, _, _, _, _, rfl, oq, or, -, -, -, -, -, -, -, k6⟩
        have S6 := S5b.later k6
        clear cX0 cX1 zX cB0 cB1 zB
        have cY0 : w6.cell? ⟨w5.heap.size, 0, none⟩ = some (.bool (sg (a * b))) := (S6.box (w5.heap.size, (sg (a * b)), .slice sy (L (a * b).natAbs).length cy, L (a * b).natAbs) (by simp)).1
        have cY1 : w6.cell? ⟨w5.heap.size, 1, none⟩ = some (.slice sy (L (a * b).natAbs).length cy) := (S6.box (w5.heap.size, (sg (a * b)), .slice sy (L (a * b).natAbs).length cy, L (a * b).natAbs) (by simp)).2.1
        have zY : w5.heap.size < w6.heap.size := (S6.box (w5.heap.size, (sg (a * b)), .slice sy (L (a * b).natAbs).length cy, L (a * b).natAbs) (by simp)).2.2.2
        have cX0 : w6.cell? ⟨w2.heap.size, 0, none⟩ = some (.bool (sg (a * b))) := (S6.box (w2.heap.size, (sg (a * b)), .slice sx (L (a * b).natAbs).length cx, L (a * b).natAbs) (by simp)).1
        have cX1 : w6.cell? ⟨w2.heap.size, 1, none⟩ = some (.slice sx (L (a * b).natAbs).length cx) := (S6.box (w2.heap.size, (sg (a * b)), .slice sx (L (a * b).natAbs).length cx, L (a * b).natAbs) (by simp)).2.1
        have zX : w2.heap.size < w6.heap.size := (S6.box (w2.heap.size, (sg (a * b)), .slice sx (L (a * b).natAbs).length cx, L (a * b).natAbs) (by simp)).2.2.2
        have cA0 : w6.cell? ⟨w1.heap.size, 0, none⟩ = some (.bool (sg a)) := (S6.box (w1.heap.size, (sg a), .slice aa (L a.natAbs).length ca, L a.natAbs) (by simp)).1
        have cA1 : w6.cell? ⟨w1.heap.size, 1, none⟩ = some (.slice aa (L a.natAbs).length ca) := (S6.box (w1.heap.size, (sg a), .slice aa (L a.natAbs).length ca, L a.natAbs) (by simp)).2.1
        have zA : w1.heap.size < w6.heap.size := (S6.box (w1.heap.size, (sg a), .slice aa (L a.natAbs).length ca, L a.natAbs) (by simp)).2.2.2
        have cB0 : w6.cell? ⟨w1.heap.size + 1, 0, none⟩ = some (.bool (sg b)) := (S6.box (w1.heap.size + 1, (sg b), .slice ab (L b.natAbs).length cb, L b.natAbs) (by simp)).1
        have cB1 : w6.cell? ⟨w1.heap.size + 1, 1, none⟩ = some (.slice ab (L b.natAbs).length cb) := (S6.box (w1.heap.size + 1, (sg b), .slice ab (L b.natAbs).length cb, L b.natAbs) (by simp)).2.1
        have zB : w1.heap.size + 1 < w6.heap.size := (S6.box (w1.heap.size + 1, (sg b), .slice ab (L b.natAbs).length cb, L b.natAbs) (by simp)).2.2.2
        have S6b := (S6.add (sg 0) (.slice qo (L (0 : Int).natAbs).length qc) (L (0 : Int).natAbs) oq.reads).add (sg 0) (.slice ro (L (0 : Int).natAbs).length rc) (L (0 : Int).natAbs) (or.reads.alloc _)
        simp only [List.nil_append, List.cons_append, World.size_alloc] at S6b
        clear k6 oq or S5 S5b
        go_wp2_with fail
        refine (jtBig_same _ ((sg (a * b))) _ _ (L (a * b).natAbs) (S6b.box (w5.heap.size, (sg (a * b)), .slice sy (L (a * b).natAbs).length cy, L (a * b).natAbs) (by simp)).2.2.1 (S6b.box (w2.heap.size, (sg (a * b)), .slice sx (L (a * b).natAbs).length cx, L (a * b).natAbs) (by simp)).2.2.1).mono ?_
        rintro e w7 ⟨rfl, k7⟩
        have S7 := S6b.later k7
        clear k7 S6
        clear cY0 cY1 zY cX0 cX1 zX cA0 cA1 zA cB0 cB1 zB
        have cB0 : w7.cell? ⟨w1.heap.size + 1, 0, none⟩ = some (.bool (sg b)) := (S7.box (w1.heap.size + 1, (sg b), .slice ab (L b.natAbs).length cb, L b.natAbs) (by simp)).1
        have cB1 : w7.cell? ⟨w1.heap.size + 1, 1, none⟩ = some (.slice ab (L b.natAbs).length cb) := (S7.box (w1.heap.size + 1, (sg b), .slice ab (L b.natAbs).length cb, L b.natAbs) (by simp)).2.1
        have zB : w1.heap.size + 1 < w7.heap.size := (S7.box (w1.heap.size + 1, (sg b), .slice ab (L b.natAbs).length cb, L b.natAbs) (by simp)).2.2.2
        have cQ0 : w7.cell? ⟨w6.heap.size, 0, none⟩ = some (.bool (sg 0)) := (S7.box (w6.heap.size, (sg 0), .slice qo (L (0 : Int).natAbs).length qc, L (0 : Int).natAbs) (by simp)).1
        have cQ1 : w7.cell? ⟨w6.heap.size, 1, none⟩ = some (.slice qo (L (0 : Int).natAbs).length qc) := (S7.box (w6.heap.size, (sg 0), .slice qo (L (0 : Int).natAbs).length qc, L (0 : Int).natAbs) (by simp)).2.1
        have zQ : w6.heap.size < w7.heap.size := (S7.box (w6.heap.size, (sg 0), .slice qo (L (0 : Int).natAbs).length qc, L (0 : Int).natAbs) (by simp)).2.2.2
        have cA0 : w7.cell? ⟨w1.heap.size, 0, none⟩ = some (.bool (sg a)) := (S7.box (w1.heap.size, (sg a), .slice aa (L a.natAbs).length ca, L a.natAbs) (by simp)).1
        have cA1 : w7.cell? ⟨w1.heap.size, 1, none⟩ = some (.slice aa (L a.natAbs).length ca) := (S7.box (w1.heap.size, (sg a), .slice aa (L a.natAbs).length ca, L a.natAbs) (by simp)).2.1
        have zA : w1.heap.size < w7.heap.size := (S7.box (w1.heap.size, (sg a), .slice aa (L a.natAbs).length ca, L a.natAbs) (by simp)).2.2.2
        have cR0 : w7.cell? ⟨w6.heap.size + 1, 0, none⟩ = some (.bool (sg 0)) := (S7.box (w6.heap.size + 1, (sg 0), .slice ro (L (0 : Int).natAbs).length rc, L (0 : Int).natAbs) (by simp)).1
        have cR1 : w7.cell? ⟨w6.heap.size + 1, 1, none⟩ = some (.slice ro (L (0 : Int).natAbs).length rc) := (S7.box (w6.heap.size + 1, (sg 0), .slice ro (L (0 : Int).natAbs).length rc, L (0 : Int).natAbs) (by simp)).2.1
        have zR : w6.heap.size + 1 < w7.heap.size := (S7.box (w6.heap.size + 1, (sg 0), .slice ro (L (0 : Int).natAbs).length rc, L (0 : Int).natAbs) (by simp)).2.2.2
        have CZ := hide (jtZero_z w7 b _ (S7.box (w1.heap.size + 1, (sg b), .slice ab (L b.natAbs).length cb, L b.natAbs) (by simp)).2.2.1)
        rw [decide_eq_true (unhide HB0)] at CZ
        go_wp2_with fail
        refine (unhide CZ).mono ?_
        rintro e w8 ⟨rfl, k8⟩
        have S8 := S7.later k8
        clear k8 CZ
        go_wp2
        go_ret
        exact ⟨rfl, S8.below⟩
      · have eD : (a * b).tdiv b = a ∧ restZ (a * b) b = 0 ∧ decide (b ≠ 0) = true := ⟨Int.mul_tdiv_cancel a hb0, by unfold restZ; rw [if_neg hb0]; exact Int.mul_tmod_left a b, by simpa using hb0⟩
        rw [eD.1, eD.2.1, eD.2.2] at CD
        have HB0 := hide hb0
        clear eD hb0
        go_wp2_with fail
        refine (unhide CD _ _ _ (S5b.box (w2.heap.size, (sg (a * b)), .slice sx (L (a * b).natAbs).length cx, L (a * b).natAbs) (by simp)).2.2.1 (S5b.box (w1.heap.size + 1, (sg b), .slice ab (L b.natAbs).length cb, L b.natAbs) (by simp)).2.2.1).mono ?_
        rintro e w6 ⟨qo, ro, qc, rc, _, _, _, _, rfl, oq, or, -, -, -, -, -, -, -, k6⟩
        have S6 := S5b.later k6
        clear cX0 cX1 zX cB0 cB1 zB
        have cY0 : w6.cell? ⟨w5.heap.size, 0, none⟩ = some (.bool (sg (a * b))) := (S6.box (w5.heap.size, (sg (a * b)), .slice sy (L (a * b).natAbs).length cy, L (a * b).natAbs) (by simp)).1
        have cY1 : w6.cell? ⟨w5.heap.size, 1, none⟩ = some (.slice sy (L (a * b).natAbs).length cy) := (S6.box (w5.heap.size, (sg (a * b)), .slice sy (L (a * b).natAbs).length cy, L (a * b).natAbs) (by simp)).2.1
        have zY : w5.heap.size < w6.heap.size := (S6.box (w5.heap.size, (sg (a * b)), .slice sy (L (a * b).natAbs).length cy, L (a * b).natAbs) (by simp)).2.2.2
        have cX0 : w6.cell? ⟨w2.heap.size, 0, none⟩ = some (.bool (sg (a * b))) := (S6.box (w2.heap.size, (sg (a * b)), .slice sx (L (a * b).natAbs).length cx, L (a * b).natAbs) (by simp)).1
        have cX1 : w6.cell? ⟨w2.heap.size, 1, none⟩ = some (.slice sx (L (a * b).natAbs).length cx) := (S6.box (w2.heap.size, (sg (a * b)), .slice sx (L (a * b).natAbs).length cx, L (a * b).natAbs) (by simp)).2.1
        have zX : w2.heap.size < w6.heap.size := (S6.box (w2.heap.size, (sg (a * b)), .slice sx (L (a * b).natAbs).length cx, L (a * b).natAbs) (by simp)).2.2.2
        have cA0 : w6.cell? ⟨w1.heap.size, 0, none⟩ = some (.bool (sg a)) := (S6.box (w1.heap.size, (sg a), .slice aa (L a.natAbs).length ca, L a.natAbs) (by simp)).1
        have cA1 : w6.cell? ⟨w1.heap.size, 1, none⟩ = some (.slice aa (L a.natAbs).length ca) := (S6.box (w1.heap.size, (sg a), .slice aa (L a.natAbs).length ca, L a.natAbs) (by simp)).2.1
        have zA : w1.heap.size < w6.heap.size := (S6.box (w1.heap.size, (sg a), .slice aa (L a.natAbs).length ca, L a.natAbs) (by simp)).2.2.2
        have cB0 : w6.cell? ⟨w1.heap.size + 1, 0, none⟩ = some (.bool (sg b)) := (S6.box (w1.heap.size + 1, (sg b), .slice ab (L b.natAbs).length cb, L b.natAbs) (by simp)).1
        have cB1 : w6.cell? ⟨w1.heap.size + 1, 1, none⟩ = some (.slice ab (L b.natAbs).length cb) := (S6.box (w1.heap.size + 1, (sg b), .slice ab (L b.natAbs).length cb, L b.natAbs) (by simp)).2.1
        have zB : w1.heap.size + 1 < w6.heap.size := (S6.box (w1.heap.size + 1, (sg b), .slice ab (L b.natAbs).length cb, L b.natAbs) (by simp)).2.2.2
        have S6b := (S6.add (sg a) (.slice qo (L (a : Int).natAbs).length qc) (L (a : Int).natAbs) oq.reads).add (sg 0) (.slice ro (L (0 : Int).natAbs).length rc) (L (0 : Int).natAbs) (or.reads.alloc _)
        simp only [List.nil_append, List.cons_append, World.size_alloc] at S6b
        clear k6 oq or S5 S5b
        go_wp2_with fail
        refine (jtBig_same _ ((sg (a * b))) _ _ (L (a * b).natAbs) (S6b.box (w5.heap.size, (sg (a * b)), .slice sy (L (a * b).natAbs).length cy, L (a * b).natAbs) (by simp)).2.2.1 (S6b.box (w2.heap.size, (sg (a * b)), .slice sx (L (a * b).natAbs).length cx, L (a * b).natAbs) (by simp)).2.2.1).mono ?_
        rintro e w7 ⟨rfl, k7⟩
        have S7 := S6b.later k7
        clear k7 S6
        clear cY0 cY1 zY cX0 cX1 zX cA0 cA1 zA cB0 cB1 zB
        have cB0 : w7.cell? ⟨w1.heap.size + 1, 0, none⟩ = some (.bool (sg b)) := (S7.box (w1.heap.size + 1, (sg b), .slice ab (L b.natAbs).length cb, L b.natAbs) (by simp)).1
        have cB1 : w7.cell? ⟨w1.heap.size + 1, 1, none⟩ = some (.slice ab (L b.natAbs).length cb) := (S7.box (w1.heap.size + 1, (sg b), .slice ab (L b.natAbs).length cb, L b.natAbs) (by simp)).2.1
        have zB : w1.heap.size + 1 < w7.heap.size := (S7.box (w1.heap.size + 1, (sg b), .slice ab (L b.natAbs).length cb, L b.natAbs) (by simp)).2.2.2
        have cQ0 : w7.cell? ⟨w6.heap.size, 0, none⟩ = some (.bool (sg a)) := (S7.box (w6.heap.size, (sg a), .slice qo (L (a : Int).natAbs).length qc, L (a : Int).natAbs) (by simp)).1
        have cQ1 : w7.cell? ⟨w6.heap.size, 1, none⟩ = some (.slice qo (L (a : Int).natAbs).length qc) := (S7.box (w6.heap.size, (sg a), .slice qo (L (a : Int).natAbs).length qc, L (a : Int).natAbs) (by simp)).2.1
        have zQ : w6.heap.size < w7.heap.size := (S7.box (w6.heap.size, (sg a), .slice qo (L (a : Int).natAbs).length qc, L (a : Int).natAbs) (by simp)).2.2.2
        have cA0 : w7.cell? ⟨w1.heap.size, 0, none⟩ = some (.bool (sg a)) := (S7.box (w1.heap.size, (sg a), .slice aa (L a.natAbs).length ca, L a.natAbs) (by simp)).1
        have cA1 : w7.cell? ⟨w1.heap.size, 1, none⟩ = some (.slice aa (L a.natAbs).length ca) := (S7.box (w1.heap.size, (sg a), .slice aa (L a.natAbs).length ca, L a.natAbs) (by simp)).2.1
        have zA : w1.heap.size < w7.heap.size := (S7.box (w1.heap.size, (sg a), .slice aa (L a.natAbs).length ca, L a.natAbs) (by simp)).2.2.2
        have cR0 : w7.cell? ⟨w6.heap.size + 1, 0, none⟩ = some (.bool (sg 0)) := (S7.box (w6.heap.size + 1, (sg 0), .slice ro (L (0 : Int).natAbs).length rc, L (0 : Int).natAbs) (by simp)).1
        have cR1 : w7.cell? ⟨w6.heap.size + 1, 1, none⟩ = some (.slice ro (L (0 : Int).natAbs).length rc) := (S7.box (w6.heap.size + 1, (sg 0), .slice ro (L (0 : Int).natAbs).length rc, L (0 : Int).natAbs) (by simp)).2.1
        have zR : w6.heap.size + 1 < w7.heap.size := (S7.box (w6.heap.size + 1, (sg 0), .slice ro (L (0 : Int).natAbs).length rc, L (0 : Int).natAbs) (by simp)).2.2.2
        have CZ := hide (jtZero_z w7 b _ (S7.box (w1.heap.size + 1, (sg b), .slice ab (L b.natAbs).length cb, L b.natAbs) (by simp)).2.2.1)
        rw [decide_eq_false (unhide HB0)] at CZ
        go_wp2_with fail
        refine (unhide CZ).mono ?_
        rintro e w8 ⟨rfl, k8⟩
        have S8 := S7.later k8
        clear k8 CZ
        clear cB0 cB1 zB cQ0 cQ1 zQ cA0 cA1 zA cR0 cR1 zR
        have cQ0 : w8.cell? ⟨w6.heap.size, 0, none⟩ = some (.bool (sg a)) := (S8.box (w6.heap.size, (sg a), .slice qo (L (a : Int).natAbs).length qc, L (a : Int).natAbs) (by simp)).1
        have cQ1 : w8.cell? ⟨w6.heap.size, 1, none⟩ = some (.slice qo (L (a : Int).natAbs).length qc) := (S8.box (w6.heap.size, (sg a), .slice qo (L (a : Int).natAbs).length qc, L (a : Int).natAbs) (by simp)).2.1
        have zQ : w6.heap.size < w8.heap.size := (S8.box (w6.heap.size, (sg a), .slice qo (L (a : Int).natAbs).length qc, L (a : Int).natAbs) (by simp)).2.2.2
        have cA0 : w8.cell? ⟨w1.heap.size, 0, none⟩ = some (.bool (sg a)) := (S8.box (w1.heap.size, (sg a), .slice aa (L a.natAbs).length ca, L a.natAbs) (by simp)).1
        have cA1 : w8.cell? ⟨w1.heap.size, 1, none⟩ = some (.slice aa (L a.natAbs).length ca) := (S8.box (w1.heap.size, (sg a), .slice aa (L a.natAbs).length ca, L a.natAbs) (by simp)).2.1
        have zA : w1.heap.size < w8.heap.size := (S8.box (w1.heap.size, (sg a), .slice aa (L a.natAbs).length ca, L a.natAbs) (by simp)).2.2.2
        have cR0 : w8.cell? ⟨w6.heap.size + 1, 0, none⟩ = some (.bool (sg 0)) := (S8.box (w6.heap.size + 1, (sg 0), .slice ro (L (0 : Int).natAbs).length rc, L (0 : Int).natAbs) (by simp)).1
        have cR1 : w8.cell? ⟨w6.heap.size + 1, 1, none⟩ = some (.slice ro (L (0 : Int).natAbs).length rc) := (S8.box (w6.heap.size + 1, (sg 0), .slice ro (L (0 : Int).natAbs).length rc, L (0 : Int).natAbs) (by simp)).2.1
        have zR : w6.heap.size + 1 < w8.heap.size := (S8.box (w6.heap.size + 1, (sg 0), .slice ro (L (0 : Int).natAbs).length rc, L (0 : Int).natAbs) (by simp)).2.2.2
        go_wp2_with fail
        refine (jtBig_same _ (sg a) _ _ (L a.natAbs) (S8.box (w6.heap.size, (sg a), .slice qo (L (a : Int).natAbs).length qc, L (a : Int).natAbs) (by simp)).2.2.1 (S8.box (w1.heap.size, (sg a), .slice aa (L a.natAbs).length ca, L a.natAbs) (by simp)).2.2.1).mono ?_
        rintro e w9 ⟨rfl, k9⟩
        have S9 := S8.later k9
        clear k9
        clear cQ0 cQ1 zQ cA0 cA1 zA cR0 cR1 zR
        have cR0 : w9.cell? ⟨w6.heap.size + 1, 0, none⟩ = some (.bool (sg 0)) := (S9.box (w6.heap.size + 1, (sg 0), .slice ro (L (0 : Int).natAbs).length rc, L (0 : Int).natAbs) (by simp)).1
        have cR1 : w9.cell? ⟨w6.heap.size + 1, 1, none⟩ = some (.slice ro (L (0 : Int).natAbs).length rc) := (S9.box (w6.heap.size + 1, (sg 0), .slice ro (L (0 : Int).natAbs).length rc, L (0 : Int).natAbs) (by simp)).2.1
        have zR : w6.heap.size + 1 < w9.heap.size := (S9.box (w6.heap.size + 1, (sg 0), .slice ro (L (0 : Int).natAbs).length rc, L (0 : Int).natAbs) (by simp)).2.2.2
        have CZ := hide (jtZero_z w9 0 _ (S9.box (w6.heap.size + 1, (sg 0), .slice ro (L (0 : Int).natAbs).length rc, L (0 : Int).natAbs) (by simp)).2.2.1)
        rw [decide_eq_true rfl] at CZ
        go_wp2_with fail
        refine (unhide CZ).mono ?_
        rintro e w10 ⟨rfl, k10⟩
        go_wp2
        go_ret
        exact ⟨rfl, (S9.later k10).below⟩

end Go.Proofs.Ytfemobaoedccoaa
