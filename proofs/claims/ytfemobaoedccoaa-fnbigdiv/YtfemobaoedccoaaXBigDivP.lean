/- The law FnBigDiv: its walk. -/
import Derived.Test.YtfemobaoedccoaaDivZ
import Derived.Test.YtfemobaoedccoaaDivN
import Derived.Test.YtfemobaoedccoaaDrDiv
import Derived.Test.YtfemobaoedccoaaPSt
import Derived.Test.YtfemobaoedccoaaByt1
namespace Go.Proofs.Ytfemobaoedccoaa
open Go.RowKit
set_option linter.unusedSimpArgs false

set_option maxHeartbeats 2000000 in
set_option maxRecDepth 100000 in
theorem xBigDivP_walk (w : World) (v : Value) (h : Byt w v) :
    Calls Try.prog 5 #[v] w fun e w' => e = .returned (.bool true) ∧ Below w.heap.size w w' := by
  have C0 := hide (drawDiv_any w v h)
  obtain ⟨ao, n, cap, rfl, hn⟩ := byt_len h
  clear h
  by_cases hl : (1048576 : Int) < n
  · have t0 : decide ((1048576 : Int) < n) = true := by simpa using hl
    go_enter Try.func5, Try.ntmps5
    go_wp2
    go_ret
    exact ⟨rfl, Below.refl _ _⟩
  have t0 : decide ((1048576 : Int) < n) = false := by simpa using hl
  go_enter Try.func5, Try.ntmps5
  go_wp2_with fail
  refine (unhide C0).mono ?_
  rintro e w1 ⟨p, q, l, m, aa, ca, ab, cb, rfl, hll, hml, oa, ob, b1⟩
  clear C0
  have S1 := ((PS.start b1).add p (.slice aa l.length ca) l oa.reads).add q (.slice ab m.length cb) m (ob.reads.alloc _)
  simp only [List.nil_append, List.cons_append, World.size_alloc] at S1
  clear b1 oa ob
  by_cases hno : okB p l = true → okB q m = true → m = []
  · have CI := hide (fun (W : World) (u v : Value) (hu : Reads W u l) (hv : Reads W v m) => implBigDiv_no W p q u v l m hu hv hno)
    have CS := hide (fun (W : World) (u v : Value) (hu : Reads W u l) (hv : Reads W v m) => specBigDiv_no W p q u v l m hu hv hno)
    clear hno
    go_wp2_with fail
    refine (unhide CI _ _ _ (S1.box (w1.heap.size, p, .slice aa l.length ca, l) (by simp)).2.2.1 (S1.box (w1.heap.size + 1, q, .slice ab m.length cb, m) (by simp)).2.2.1).mono ?_
    rintro e w2 ⟨qo, ro, qc, rc, _, _, _, _, rfl, oq, or, -, -, -, -, -, -, -, k2⟩
    have S2 := S1.later k2
    have cA0 : w2.cell? ⟨w1.heap.size, 0, none⟩ = some (.bool p) := (S2.box (w1.heap.size, p, .slice aa l.length ca, l) (by simp)).1
    have cA1 : w2.cell? ⟨w1.heap.size, 1, none⟩ = some (.slice aa l.length ca) := (S2.box (w1.heap.size, p, .slice aa l.length ca, l) (by simp)).2.1
    have zA : w1.heap.size < w2.heap.size := (S2.box (w1.heap.size, p, .slice aa l.length ca, l) (by simp)).2.2.2
    have cB0 : w2.cell? ⟨w1.heap.size + 1, 0, none⟩ = some (.bool q) := (S2.box (w1.heap.size + 1, q, .slice ab m.length cb, m) (by simp)).1
    have cB1 : w2.cell? ⟨w1.heap.size + 1, 1, none⟩ = some (.slice ab m.length cb) := (S2.box (w1.heap.size + 1, q, .slice ab m.length cb, m) (by simp)).2.1
    have zB : w1.heap.size + 1 < w2.heap.size := (S2.box (w1.heap.size + 1, q, .slice ab m.length cb, m) (by simp)).2.2.2
    have S2b := (S2.add (sg (0 : Int)) (.slice qo (L (0 : Int).natAbs).length qc) (L (0 : Int).natAbs) oq.reads).add (sg (0 : Int)) (.slice ro (L (0 : Int).natAbs).length rc) (L (0 : Int).natAbs) (or.reads.alloc _)
    simp only [List.nil_append, List.cons_append, World.size_alloc] at S2b
    clear k2 oq or S1
    go_wp2_with fail
    refine (unhide CS _ _ _ (S2b.box (w1.heap.size, p, .slice aa l.length ca, l) (by simp)).2.2.1 (S2b.box (w1.heap.size + 1, q, .slice ab m.length cb, m) (by simp)).2.2.1).mono ?_
    rintro e w3 ⟨qo', ro', qc', rc', _, _, _, _, rfl, oq, or, -, -, -, -, -, -, -, k3⟩
    have S3 := S2b.later k3
    clear cA0 cA1 zA cB0 cB1 zB
    have cQ0 : w3.cell? ⟨w2.heap.size, 0, none⟩ = some (.bool (sg (0 : Int))) := (S3.box (w2.heap.size, (sg (0 : Int)), .slice qo (L (0 : Int).natAbs).length qc, L (0 : Int).natAbs) (by simp)).1
    have cQ1 : w3.cell? ⟨w2.heap.size, 1, none⟩ = some (.slice qo (L (0 : Int).natAbs).length qc) := (S3.box (w2.heap.size, (sg (0 : Int)), .slice qo (L (0 : Int).natAbs).length qc, L (0 : Int).natAbs) (by simp)).2.1
    have zQ : w2.heap.size < w3.heap.size := (S3.box (w2.heap.size, (sg (0 : Int)), .slice qo (L (0 : Int).natAbs).length qc, L (0 : Int).natAbs) (by simp)).2.2.2
    have cR0 : w3.cell? ⟨w2.heap.size + 1, 0, none⟩ = some (.bool (sg (0 : Int))) := (S3.box (w2.heap.size + 1, (sg (0 : Int)), .slice ro (L (0 : Int).natAbs).length rc, L (0 : Int).natAbs) (by simp)).1
    have cR1 : w3.cell? ⟨w2.heap.size + 1, 1, none⟩ = some (.slice ro (L (0 : Int).natAbs).length rc) := (S3.box (w2.heap.size + 1, (sg (0 : Int)), .slice ro (L (0 : Int).natAbs).length rc, L (0 : Int).natAbs) (by simp)).2.1
    have zR : w2.heap.size + 1 < w3.heap.size := (S3.box (w2.heap.size + 1, (sg (0 : Int)), .slice ro (L (0 : Int).natAbs).length rc, L (0 : Int).natAbs) (by simp)).2.2.2
    have S3b := (S3.add (sg (0 : Int)) (.slice qo' (L (0 : Int).natAbs).length qc') (L (0 : Int).natAbs) oq.reads).add (sg (0 : Int)) (.slice ro' (L (0 : Int).natAbs).length rc') (L (0 : Int).natAbs) (or.reads.alloc _)
    simp only [List.nil_append, List.cons_append, World.size_alloc] at S3b
    clear k3 oq or S2 S2b
    go_wp2_with fail
    refine (jtBig_same _ _ _ _ _ (S3b.box (w2.heap.size, (sg (0 : Int)), .slice qo (L (0 : Int).natAbs).length qc, L (0 : Int).natAbs) (by simp)).2.2.1 (S3b.box (w3.heap.size, (sg (0 : Int)), .slice qo' (L (0 : Int).natAbs).length qc', L (0 : Int).natAbs) (by simp)).2.2.1).mono ?_
    rintro e w4 ⟨rfl, k4⟩
    have S4 := S3b.later k4
    clear k4 S3 S3b
    clear cQ0 cQ1 zQ cR0 cR1 zR
    have cR0 : w4.cell? ⟨w2.heap.size + 1, 0, none⟩ = some (.bool (sg (0 : Int))) := (S4.box (w2.heap.size + 1, (sg (0 : Int)), .slice ro (L (0 : Int).natAbs).length rc, L (0 : Int).natAbs) (by simp)).1
    have cR1 : w4.cell? ⟨w2.heap.size + 1, 1, none⟩ = some (.slice ro (L (0 : Int).natAbs).length rc) := (S4.box (w2.heap.size + 1, (sg (0 : Int)), .slice ro (L (0 : Int).natAbs).length rc, L (0 : Int).natAbs) (by simp)).2.1
    have zR : w2.heap.size + 1 < w4.heap.size := (S4.box (w2.heap.size + 1, (sg (0 : Int)), .slice ro (L (0 : Int).natAbs).length rc, L (0 : Int).natAbs) (by simp)).2.2.2
    have cU0 : w4.cell? ⟨w3.heap.size + 1, 0, none⟩ = some (.bool (sg (0 : Int))) := (S4.box (w3.heap.size + 1, (sg (0 : Int)), .slice ro' (L (0 : Int).natAbs).length rc', L (0 : Int).natAbs) (by simp)).1
    have cU1 : w4.cell? ⟨w3.heap.size + 1, 1, none⟩ = some (.slice ro' (L (0 : Int).natAbs).length rc') := (S4.box (w3.heap.size + 1, (sg (0 : Int)), .slice ro' (L (0 : Int).natAbs).length rc', L (0 : Int).natAbs) (by simp)).2.1
    have zU : w3.heap.size + 1 < w4.heap.size := (S4.box (w3.heap.size + 1, (sg (0 : Int)), .slice ro' (L (0 : Int).natAbs).length rc', L (0 : Int).natAbs) (by simp)).2.2.2
    go_wp2_with fail
    refine (jtBig_same _ _ _ _ _ (S4.box (w2.heap.size + 1, (sg (0 : Int)), .slice ro (L (0 : Int).natAbs).length rc, L (0 : Int).natAbs) (by simp)).2.2.1 (S4.box (w3.heap.size + 1, (sg (0 : Int)), .slice ro' (L (0 : Int).natAbs).length rc', L (0 : Int).natAbs) (by simp)).2.2.1).mono ?_
    rintro e w5 ⟨rfl, k5⟩
    have S5 := S4.later k5
    clear k5 S4
    clear cR0 cR1 zR cU0 cU1 zU
    have cQ0 : w5.cell? ⟨w2.heap.size, 0, none⟩ = some (.bool (sg (0 : Int))) := (S5.box (w2.heap.size, (sg (0 : Int)), .slice qo (L (0 : Int).natAbs).length qc, L (0 : Int).natAbs) (by simp)).1
    have cQ1 : w5.cell? ⟨w2.heap.size, 1, none⟩ = some (.slice qo (L (0 : Int).natAbs).length qc) := (S5.box (w2.heap.size, (sg (0 : Int)), .slice qo (L (0 : Int).natAbs).length qc, L (0 : Int).natAbs) (by simp)).2.1
    have zQ : w2.heap.size < w5.heap.size := (S5.box (w2.heap.size, (sg (0 : Int)), .slice qo (L (0 : Int).natAbs).length qc, L (0 : Int).natAbs) (by simp)).2.2.2
    have cR0 : w5.cell? ⟨w2.heap.size + 1, 0, none⟩ = some (.bool (sg (0 : Int))) := (S5.box (w2.heap.size + 1, (sg (0 : Int)), .slice ro (L (0 : Int).natAbs).length rc, L (0 : Int).natAbs) (by simp)).1
    have cR1 : w5.cell? ⟨w2.heap.size + 1, 1, none⟩ = some (.slice ro (L (0 : Int).natAbs).length rc) := (S5.box (w2.heap.size + 1, (sg (0 : Int)), .slice ro (L (0 : Int).natAbs).length rc, L (0 : Int).natAbs) (by simp)).2.1
    have zR : w2.heap.size + 1 < w5.heap.size := (S5.box (w2.heap.size + 1, (sg (0 : Int)), .slice ro (L (0 : Int).natAbs).length rc, L (0 : Int).natAbs) (by simp)).2.2.2
    have cV0 : w5.cell? ⟨w3.heap.size, 0, none⟩ = some (.bool (sg (0 : Int))) := (S5.box (w3.heap.size, (sg (0 : Int)), .slice qo' (L (0 : Int).natAbs).length qc', L (0 : Int).natAbs) (by simp)).1
    have cV1 : w5.cell? ⟨w3.heap.size, 1, none⟩ = some (.slice qo' (L (0 : Int).natAbs).length qc') := (S5.box (w3.heap.size, (sg (0 : Int)), .slice qo' (L (0 : Int).natAbs).length qc', L (0 : Int).natAbs) (by simp)).2.1
    have zV : w3.heap.size < w5.heap.size := (S5.box (w3.heap.size, (sg (0 : Int)), .slice qo' (L (0 : Int).natAbs).length qc', L (0 : Int).natAbs) (by simp)).2.2.2
    have cU0 : w5.cell? ⟨w3.heap.size + 1, 0, none⟩ = some (.bool (sg (0 : Int))) := (S5.box (w3.heap.size + 1, (sg (0 : Int)), .slice ro' (L (0 : Int).natAbs).length rc', L (0 : Int).natAbs) (by simp)).1
    have cU1 : w5.cell? ⟨w3.heap.size + 1, 1, none⟩ = some (.slice ro' (L (0 : Int).natAbs).length rc') := (S5.box (w3.heap.size + 1, (sg (0 : Int)), .slice ro' (L (0 : Int).natAbs).length rc', L (0 : Int).natAbs) (by simp)).2.1
    have zU : w3.heap.size + 1 < w5.heap.size := (S5.box (w3.heap.size + 1, (sg (0 : Int)), .slice ro' (L (0 : Int).natAbs).length rc', L (0 : Int).natAbs) (by simp)).2.2.2
    go_wp2_with fail
    refine (jtBig_same _ _ _ _ _ (S5.box (w2.heap.size, (sg (0 : Int)), .slice qo (L (0 : Int).natAbs).length qc, L (0 : Int).natAbs) (by simp)).2.2.1 (S5.box (w3.heap.size, (sg (0 : Int)), .slice qo' (L (0 : Int).natAbs).length qc', L (0 : Int).natAbs) (by simp)).2.2.1).mono ?_
    rintro e w6 ⟨rfl, k6⟩
    have S6 := S5.later k6
    clear k6 S5
    clear cQ0 cQ1 zQ cR0 cR1 zR cV0 cV1 zV cU0 cU1 zU
    have cR0 : w6.cell? ⟨w2.heap.size + 1, 0, none⟩ = some (.bool (sg (0 : Int))) := (S6.box (w2.heap.size + 1, (sg (0 : Int)), .slice ro (L (0 : Int).natAbs).length rc, L (0 : Int).natAbs) (by simp)).1
    have cR1 : w6.cell? ⟨w2.heap.size + 1, 1, none⟩ = some (.slice ro (L (0 : Int).natAbs).length rc) := (S6.box (w2.heap.size + 1, (sg (0 : Int)), .slice ro (L (0 : Int).natAbs).length rc, L (0 : Int).natAbs) (by simp)).2.1
    have zR : w2.heap.size + 1 < w6.heap.size := (S6.box (w2.heap.size + 1, (sg (0 : Int)), .slice ro (L (0 : Int).natAbs).length rc, L (0 : Int).natAbs) (by simp)).2.2.2
    have cU0 : w6.cell? ⟨w3.heap.size + 1, 0, none⟩ = some (.bool (sg (0 : Int))) := (S6.box (w3.heap.size + 1, (sg (0 : Int)), .slice ro' (L (0 : Int).natAbs).length rc', L (0 : Int).natAbs) (by simp)).1
    have cU1 : w6.cell? ⟨w3.heap.size + 1, 1, none⟩ = some (.slice ro' (L (0 : Int).natAbs).length rc') := (S6.box (w3.heap.size + 1, (sg (0 : Int)), .slice ro' (L (0 : Int).natAbs).length rc', L (0 : Int).natAbs) (by simp)).2.1
    have zU : w3.heap.size + 1 < w6.heap.size := (S6.box (w3.heap.size + 1, (sg (0 : Int)), .slice ro' (L (0 : Int).natAbs).length rc', L (0 : Int).natAbs) (by simp)).2.2.2
    go_wp2_with fail
    refine (jtBig_same _ _ _ _ _ (S6.box (w2.heap.size + 1, (sg (0 : Int)), .slice ro (L (0 : Int).natAbs).length rc, L (0 : Int).natAbs) (by simp)).2.2.1 (S6.box (w3.heap.size + 1, (sg (0 : Int)), .slice ro' (L (0 : Int).natAbs).length rc', L (0 : Int).natAbs) (by simp)).2.2.1).mono ?_
    rintro e w7 ⟨rfl, k7⟩
    go_wp2
    go_ret
    exact ⟨rfl, (S6.later k7).below⟩
  · rw [Classical.not_imp, Classical.not_imp] at hno
    obtain ⟨h1, h2, h3⟩ := hno
    obtain ⟨a, rfl, rfl, ha⟩ : ∃ a : Int, p = sg a ∧ l = L a.natAbs ∧ (L a.natAbs).length ≤ 16 := num_of h1
    obtain ⟨b, rfl, rfl, hb⟩ : ∃ b : Int, q = sg b ∧ m = L b.natAbs ∧ (L b.natAbs).length ≤ 16 := num_of h2
    have hb0 : b ≠ 0 := fun e => h3 (by rw [e, Int.natAbs_zero, L_zero])
    have CI := hide (fun (W : World) (u v : Value) (hu : Reads W u (L a.natAbs)) (hv : Reads W v (L b.natAbs)) => implDiv_z ha hb hu hv)
    have CS := hide (fun (W : World) (u v : Value) (hu : Reads W u (L a.natAbs)) (hv : Reads W v (L b.natAbs)) => specDiv_z ha hb hu hv)
    have eR : restZ a b = a.tmod b := by unfold restZ; rw [if_neg hb0]
    rw [eR, decide_eq_true hb0] at CI CS
    have CM := hide (fun (W : World) (u v : Value) (hu : Reads W u (L (a.tdiv b).natAbs)) (hv : Reads W v (L b.natAbs)) => implMul_z (fit_quo (b := b) ha) hb hu hv)
    rw [outR_fit (fit_back ha)] at CM
    have CA := hide (fun (W : World) (u v : Value) (hu : Reads W u (L (a.tdiv b * b).natAbs)) (hv : Reads W v (L (a.tmod b).natAbs)) => implAdd_z (fit_back ha) (fit_rest ha) hu hv)
    rw [show a.tdiv b * b + a.tmod b = a by rw [Int.mul_comm]; exact Int.mul_tdiv_add_tmod a b, outR_fit ha] at CA
    have CC := hide (fun (W : World) (u v : Value) (hu : Reads W u (L (a.tmod b).natAbs)) (hv : Reads W v (L b.natAbs)) => implBigCmp_any W false false u v _ _ hu hv)
    rw [cmp_rest ha hb hb0] at CC
    have HS := hide (fun h => sg_rest (a := a) (b := b) h)
    clear h1 h2 h3 eR
    generalize a.tdiv b * b = X at *
    generalize a.tdiv b = Q at *
    generalize a.tmod b = R at *
    have HB := hide hb0
    clear hb0
    go_wp2_with fail
    refine (unhide CI _ _ _ (S1.box (w1.heap.size, (sg a), .slice aa (L a.natAbs).length ca, L a.natAbs) (by simp)).2.2.1 (S1.box (w1.heap.size + 1, (sg b), .slice ab (L b.natAbs).length cb, L b.natAbs) (by simp)).2.2.1).mono ?_
    rintro e w2 ⟨qo, ro, qc, rc, _, _, _, _, rfl, oq, or, -, -, -, -, -, -, -, k2⟩
    have S2 := S1.later k2
    have cA0 : w2.cell? ⟨w1.heap.size, 0, none⟩ = some (.bool (sg a)) := (S2.box (w1.heap.size, (sg a), .slice aa (L a.natAbs).length ca, L a.natAbs) (by simp)).1
    have cA1 : w2.cell? ⟨w1.heap.size, 1, none⟩ = some (.slice aa (L a.natAbs).length ca) := (S2.box (w1.heap.size, (sg a), .slice aa (L a.natAbs).length ca, L a.natAbs) (by simp)).2.1
    have zA : w1.heap.size < w2.heap.size := (S2.box (w1.heap.size, (sg a), .slice aa (L a.natAbs).length ca, L a.natAbs) (by simp)).2.2.2
    have cB0 : w2.cell? ⟨w1.heap.size + 1, 0, none⟩ = some (.bool (sg b)) := (S2.box (w1.heap.size + 1, (sg b), .slice ab (L b.natAbs).length cb, L b.natAbs) (by simp)).1
    have cB1 : w2.cell? ⟨w1.heap.size + 1, 1, none⟩ = some (.slice ab (L b.natAbs).length cb) := (S2.box (w1.heap.size + 1, (sg b), .slice ab (L b.natAbs).length cb, L b.natAbs) (by simp)).2.1
    have zB : w1.heap.size + 1 < w2.heap.size := (S2.box (w1.heap.size + 1, (sg b), .slice ab (L b.natAbs).length cb, L b.natAbs) (by simp)).2.2.2
    have S2b := (S2.add (sg (Q)) (.slice qo (L (Q).natAbs).length qc) (L (Q).natAbs) oq.reads).add (sg (R)) (.slice ro (L (R).natAbs).length rc) (L (R).natAbs) (or.reads.alloc _)
    simp only [List.nil_append, List.cons_append, World.size_alloc] at S2b
    clear k2 oq or S1
    go_wp2_with fail
    refine (unhide CS _ _ _ (S2b.box (w1.heap.size, (sg a), .slice aa (L a.natAbs).length ca, L a.natAbs) (by simp)).2.2.1 (S2b.box (w1.heap.size + 1, (sg b), .slice ab (L b.natAbs).length cb, L b.natAbs) (by simp)).2.2.1).mono ?_
    rintro e w3 ⟨qo', ro', qc', rc', _, _, _, _, rfl, oq, or, -, -, -, -, -, -, -, k3⟩
    have S3 := S2b.later k3
    clear cA0 cA1 zA cB0 cB1 zB
    have cQ0 : w3.cell? ⟨w2.heap.size, 0, none⟩ = some (.bool (sg (Q))) := (S3.box (w2.heap.size, (sg (Q)), .slice qo (L (Q).natAbs).length qc, L (Q).natAbs) (by simp)).1
    have cQ1 : w3.cell? ⟨w2.heap.size, 1, none⟩ = some (.slice qo (L (Q).natAbs).length qc) := (S3.box (w2.heap.size, (sg (Q)), .slice qo (L (Q).natAbs).length qc, L (Q).natAbs) (by simp)).2.1
    have zQ : w2.heap.size < w3.heap.size := (S3.box (w2.heap.size, (sg (Q)), .slice qo (L (Q).natAbs).length qc, L (Q).natAbs) (by simp)).2.2.2
    have cR0 : w3.cell? ⟨w2.heap.size + 1, 0, none⟩ = some (.bool (sg (R))) := (S3.box (w2.heap.size + 1, (sg (R)), .slice ro (L (R).natAbs).length rc, L (R).natAbs) (by simp)).1
    have cR1 : w3.cell? ⟨w2.heap.size + 1, 1, none⟩ = some (.slice ro (L (R).natAbs).length rc) := (S3.box (w2.heap.size + 1, (sg (R)), .slice ro (L (R).natAbs).length rc, L (R).natAbs) (by simp)).2.1
    have zR : w2.heap.size + 1 < w3.heap.size := (S3.box (w2.heap.size + 1, (sg (R)), .slice ro (L (R).natAbs).length rc, L (R).natAbs) (by simp)).2.2.2
    have S3b := (S3.add (sg (Q)) (.slice qo' (L (Q).natAbs).length qc') (L (Q).natAbs) oq.reads).add (sg (R)) (.slice ro' (L (R).natAbs).length rc') (L (R).natAbs) (or.reads.alloc _)
    simp only [List.nil_append, List.cons_append, World.size_alloc] at S3b
    clear k3 oq or S2 S2b
    go_wp2_with fail
    refine (jtBig_same _ _ _ _ _ (S3b.box (w2.heap.size, (sg (Q)), .slice qo (L (Q).natAbs).length qc, L (Q).natAbs) (by simp)).2.2.1 (S3b.box (w3.heap.size, (sg (Q)), .slice qo' (L (Q).natAbs).length qc', L (Q).natAbs) (by simp)).2.2.1).mono ?_
    rintro e w4 ⟨rfl, k4⟩
    have S4 := S3b.later k4
    clear k4 S3 S3b
    clear cQ0 cQ1 zQ cR0 cR1 zR
    have cR0 : w4.cell? ⟨w2.heap.size + 1, 0, none⟩ = some (.bool (sg (R))) := (S4.box (w2.heap.size + 1, (sg (R)), .slice ro (L (R).natAbs).length rc, L (R).natAbs) (by simp)).1
    have cR1 : w4.cell? ⟨w2.heap.size + 1, 1, none⟩ = some (.slice ro (L (R).natAbs).length rc) := (S4.box (w2.heap.size + 1, (sg (R)), .slice ro (L (R).natAbs).length rc, L (R).natAbs) (by simp)).2.1
    have zR : w2.heap.size + 1 < w4.heap.size := (S4.box (w2.heap.size + 1, (sg (R)), .slice ro (L (R).natAbs).length rc, L (R).natAbs) (by simp)).2.2.2
    have cU0 : w4.cell? ⟨w3.heap.size + 1, 0, none⟩ = some (.bool (sg (R))) := (S4.box (w3.heap.size + 1, (sg (R)), .slice ro' (L (R).natAbs).length rc', L (R).natAbs) (by simp)).1
    have cU1 : w4.cell? ⟨w3.heap.size + 1, 1, none⟩ = some (.slice ro' (L (R).natAbs).length rc') := (S4.box (w3.heap.size + 1, (sg (R)), .slice ro' (L (R).natAbs).length rc', L (R).natAbs) (by simp)).2.1
    have zU : w3.heap.size + 1 < w4.heap.size := (S4.box (w3.heap.size + 1, (sg (R)), .slice ro' (L (R).natAbs).length rc', L (R).natAbs) (by simp)).2.2.2
    go_wp2_with fail
    refine (jtBig_same _ _ _ _ _ (S4.box (w2.heap.size + 1, (sg (R)), .slice ro (L (R).natAbs).length rc, L (R).natAbs) (by simp)).2.2.1 (S4.box (w3.heap.size + 1, (sg (R)), .slice ro' (L (R).natAbs).length rc', L (R).natAbs) (by simp)).2.2.1).mono ?_
    rintro e w5 ⟨rfl, k5⟩
    have S5 := S4.later k5
    clear k5 S4
    clear cR0 cR1 zR cU0 cU1 zU
    have cQ0 : w5.cell? ⟨w2.heap.size, 0, none⟩ = some (.bool (sg (Q))) := (S5.box (w2.heap.size, (sg (Q)), .slice qo (L (Q).natAbs).length qc, L (Q).natAbs) (by simp)).1
    have cQ1 : w5.cell? ⟨w2.heap.size, 1, none⟩ = some (.slice qo (L (Q).natAbs).length qc) := (S5.box (w2.heap.size, (sg (Q)), .slice qo (L (Q).natAbs).length qc, L (Q).natAbs) (by simp)).2.1
    have zQ : w2.heap.size < w5.heap.size := (S5.box (w2.heap.size, (sg (Q)), .slice qo (L (Q).natAbs).length qc, L (Q).natAbs) (by simp)).2.2.2
    have cB0 : w5.cell? ⟨w1.heap.size + 1, 0, none⟩ = some (.bool (sg b)) := (S5.box (w1.heap.size + 1, (sg b), .slice ab (L b.natAbs).length cb, L b.natAbs) (by simp)).1
    have cB1 : w5.cell? ⟨w1.heap.size + 1, 1, none⟩ = some (.slice ab (L b.natAbs).length cb) := (S5.box (w1.heap.size + 1, (sg b), .slice ab (L b.natAbs).length cb, L b.natAbs) (by simp)).2.1
    have zB : w1.heap.size + 1 < w5.heap.size := (S5.box (w1.heap.size + 1, (sg b), .slice ab (L b.natAbs).length cb, L b.natAbs) (by simp)).2.2.2
    clear CI CS
    go_wp2_with fail
    refine (unhide CM _ _ _ (S5.box (w2.heap.size, (sg (Q)), .slice qo (L (Q).natAbs).length qc, L (Q).natAbs) (by simp)).2.2.1 (S5.box (w1.heap.size + 1, (sg b), .slice ab (L b.natAbs).length cb, L b.natAbs) (by simp)).2.2.1).mono ?_
    rintro e w6 ⟨sx, cx, rfl, ox, k6⟩
    have S6 := S5.later k6
    clear cQ0 cQ1 zQ cB0 cB1 zB
    have cR0 : w6.cell? ⟨w2.heap.size + 1, 0, none⟩ = some (.bool (sg (R))) := (S6.box (w2.heap.size + 1, (sg (R)), .slice ro (L (R).natAbs).length rc, L (R).natAbs) (by simp)).1
    have cR1 : w6.cell? ⟨w2.heap.size + 1, 1, none⟩ = some (.slice ro (L (R).natAbs).length rc) := (S6.box (w2.heap.size + 1, (sg (R)), .slice ro (L (R).natAbs).length rc, L (R).natAbs) (by simp)).2.1
    have zR : w2.heap.size + 1 < w6.heap.size := (S6.box (w2.heap.size + 1, (sg (R)), .slice ro (L (R).natAbs).length rc, L (R).natAbs) (by simp)).2.2.2
    have S6b := S6.add (sg X) (.slice sx (L X.natAbs).length cx) (L X.natAbs) ox.reads
    simp only [List.nil_append, List.cons_append, World.size_alloc] at S6b
    clear k6 ox S5 CM
    go_wp2_with fail
    refine (unhide CA _ _ _ (S6b.box (w6.heap.size, (sg X), .slice sx (L X.natAbs).length cx, L X.natAbs) (by simp)).2.2.1 (S6b.box (w2.heap.size + 1, (sg (R)), .slice ro (L (R).natAbs).length rc, L (R).natAbs) (by simp)).2.2.1).mono ?_
    rintro e w7 ⟨sy, cy, rfl, oy, k7⟩
    have S7 := S6b.later k7
    clear cR0 cR1 zR
    have cR0 : w7.cell? ⟨w2.heap.size + 1, 0, none⟩ = some (.bool (sg (R))) := (S7.box (w2.heap.size + 1, (sg (R)), .slice ro (L (R).natAbs).length rc, L (R).natAbs) (by simp)).1
    have cR1 : w7.cell? ⟨w2.heap.size + 1, 1, none⟩ = some (.slice ro (L (R).natAbs).length rc) := (S7.box (w2.heap.size + 1, (sg (R)), .slice ro (L (R).natAbs).length rc, L (R).natAbs) (by simp)).2.1
    have zR : w2.heap.size + 1 < w7.heap.size := (S7.box (w2.heap.size + 1, (sg (R)), .slice ro (L (R).natAbs).length rc, L (R).natAbs) (by simp)).2.2.2
    have cB0 : w7.cell? ⟨w1.heap.size + 1, 0, none⟩ = some (.bool (sg b)) := (S7.box (w1.heap.size + 1, (sg b), .slice ab (L b.natAbs).length cb, L b.natAbs) (by simp)).1
    have cB1 : w7.cell? ⟨w1.heap.size + 1, 1, none⟩ = some (.slice ab (L b.natAbs).length cb) := (S7.box (w1.heap.size + 1, (sg b), .slice ab (L b.natAbs).length cb, L b.natAbs) (by simp)).2.1
    have zB : w1.heap.size + 1 < w7.heap.size := (S7.box (w1.heap.size + 1, (sg b), .slice ab (L b.natAbs).length cb, L b.natAbs) (by simp)).2.2.2
    have cA0 : w7.cell? ⟨w1.heap.size, 0, none⟩ = some (.bool (sg a)) := (S7.box (w1.heap.size, (sg a), .slice aa (L a.natAbs).length ca, L a.natAbs) (by simp)).1
    have cA1 : w7.cell? ⟨w1.heap.size, 1, none⟩ = some (.slice aa (L a.natAbs).length ca) := (S7.box (w1.heap.size, (sg a), .slice aa (L a.natAbs).length ca, L a.natAbs) (by simp)).2.1
    have zA : w1.heap.size < w7.heap.size := (S7.box (w1.heap.size, (sg a), .slice aa (L a.natAbs).length ca, L a.natAbs) (by simp)).2.2.2
    have S7b := S7.add (sg a) (.slice sy (L a.natAbs).length cy) (L a.natAbs) oy.reads
    have S7c := S7b.add false (.slice ro (L (R).natAbs).length rc) (L (R).natAbs) (S7b.box (w2.heap.size + 1, (sg (R)), .slice ro (L (R).natAbs).length rc, L (R).natAbs) (by simp)).2.2.1
    have S7d := S7c.add false (.slice ab (L b.natAbs).length cb) (L b.natAbs) (S7c.box (w1.heap.size + 1, (sg b), .slice ab (L b.natAbs).length cb, L b.natAbs) (by simp)).2.2.1
    simp only [List.nil_append, List.cons_append, World.size_alloc] at S7d
    clear k7 oy S6 S6b S7b S7c CA
    have zA1 : w1.heap.size < w7.heap.size + 1 := by omega
    have zA2 : w1.heap.size < w7.heap.size + 1 + 1 := by omega
    have zB1 : w1.heap.size + 1 < w7.heap.size + 1 := by omega
    go_wp2_with fail
    refine (jtBig_same _ _ _ _ _ (S7d.box (w7.heap.size, (sg a), .slice sy (L a.natAbs).length cy, L a.natAbs) (by simp)).2.2.1 (S7d.box (w1.heap.size, (sg a), .slice aa (L a.natAbs).length ca, L a.natAbs) (by simp)).2.2.1).mono ?_
    rintro e w8 ⟨rfl, k8⟩
    have S8 := S7d.later k8
    clear k8 S7 S7d zA1 zA2 zB1
    clear cR0 cR1 zR cB0 cB1 zB cA0 cA1 zA
    have cT0 : w8.cell? ⟨w7.heap.size + 1, 0, none⟩ = some (.bool false) := (S8.box (w7.heap.size + 1, false, .slice ro (L (R).natAbs).length rc, L (R).natAbs) (by simp)).1
    have cT1 : w8.cell? ⟨w7.heap.size + 1, 1, none⟩ = some (.slice ro (L (R).natAbs).length rc) := (S8.box (w7.heap.size + 1, false, .slice ro (L (R).natAbs).length rc, L (R).natAbs) (by simp)).2.1
    have zT : w7.heap.size + 1 < w8.heap.size := (S8.box (w7.heap.size + 1, false, .slice ro (L (R).natAbs).length rc, L (R).natAbs) (by simp)).2.2.2
    have cD0 : w8.cell? ⟨w7.heap.size + 1 + 1, 0, none⟩ = some (.bool false) := (S8.box (w7.heap.size + 1 + 1, false, .slice ab (L b.natAbs).length cb, L b.natAbs) (by simp)).1
    have cD1 : w8.cell? ⟨w7.heap.size + 1 + 1, 1, none⟩ = some (.slice ab (L b.natAbs).length cb) := (S8.box (w7.heap.size + 1 + 1, false, .slice ab (L b.natAbs).length cb, L b.natAbs) (by simp)).2.1
    have zD : w7.heap.size + 1 + 1 < w8.heap.size := (S8.box (w7.heap.size + 1 + 1, false, .slice ab (L b.natAbs).length cb, L b.natAbs) (by simp)).2.2.2
    go_wp2_with fail
    refine (unhide CC _ _ _ (S8.box (w7.heap.size + 1, false, .slice ro (L (R).natAbs).length rc, L (R).natAbs) (by simp)).2.2.1 (S8.box (w7.heap.size + 1 + 1, false, .slice ab (L b.natAbs).length cb, L b.natAbs) (by simp)).2.2.1).mono ?_
    rintro e w9 ⟨rfl, k9⟩
    have S9 := S8.later k9
    clear k9 S8 CC
    clear cT0 cT1 zT cD0 cD1 zD
    have cR0 : w9.cell? ⟨w2.heap.size + 1, 0, none⟩ = some (.bool (sg (R))) := (S9.box (w2.heap.size + 1, (sg (R)), .slice ro (L (R).natAbs).length rc, L (R).natAbs) (by simp)).1
    have cR1 : w9.cell? ⟨w2.heap.size + 1, 1, none⟩ = some (.slice ro (L (R).natAbs).length rc) := (S9.box (w2.heap.size + 1, (sg (R)), .slice ro (L (R).natAbs).length rc, L (R).natAbs) (by simp)).2.1
    have zR : w2.heap.size + 1 < w9.heap.size := (S9.box (w2.heap.size + 1, (sg (R)), .slice ro (L (R).natAbs).length rc, L (R).natAbs) (by simp)).2.2.2
    have CZ := hide (jtZero_z w9 R _ (S9.box (w2.heap.size + 1, (sg (R)), .slice ro (L (R).natAbs).length rc, L (R).natAbs) (by simp)).2.2.1)
    by_cases hR : R = 0
    · rw [decide_eq_true hR] at CZ
      clear hR
      go_wp2_with fail
      refine (unhide CZ).mono ?_
      rintro e w10 ⟨rfl, k10⟩
      go_wp2
      go_ret
      exact ⟨rfl, (S9.later k10).below⟩
    · rw [decide_eq_false hR] at CZ
      have hs := unhide HS hR
      have hsg : (sg R == sg a) = true := by rw [hs]; simp
      clear hR hs
      go_wp2_with fail
      refine (unhide CZ).mono ?_
      rintro e w10 ⟨rfl, k10⟩
      have S10 := S9.later k10
      clear cR0 cR1 zR
      have cR0 : w10.cell? ⟨w2.heap.size + 1, 0, none⟩ = some (.bool (sg (R))) := (S10.box (w2.heap.size + 1, (sg (R)), .slice ro (L (R).natAbs).length rc, L (R).natAbs) (by simp)).1
      have cR1 : w10.cell? ⟨w2.heap.size + 1, 1, none⟩ = some (.slice ro (L (R).natAbs).length rc) := (S10.box (w2.heap.size + 1, (sg (R)), .slice ro (L (R).natAbs).length rc, L (R).natAbs) (by simp)).2.1
      have zR : w2.heap.size + 1 < w10.heap.size := (S10.box (w2.heap.size + 1, (sg (R)), .slice ro (L (R).natAbs).length rc, L (R).natAbs) (by simp)).2.2.2
      have cA0 : w10.cell? ⟨w1.heap.size, 0, none⟩ = some (.bool (sg a)) := (S10.box (w1.heap.size, (sg a), .slice aa (L a.natAbs).length ca, L a.natAbs) (by simp)).1
      have cA1 : w10.cell? ⟨w1.heap.size, 1, none⟩ = some (.slice aa (L a.natAbs).length ca) := (S10.box (w1.heap.size, (sg a), .slice aa (L a.natAbs).length ca, L a.natAbs) (by simp)).2.1
      have zA : w1.heap.size < w10.heap.size := (S10.box (w1.heap.size, (sg a), .slice aa (L a.natAbs).length ca, L a.natAbs) (by simp)).2.2.2
      go_wp2
      go_ret
      exact ⟨rfl, S10.below⟩

end Go.Proofs.Ytfemobaoedccoaa
