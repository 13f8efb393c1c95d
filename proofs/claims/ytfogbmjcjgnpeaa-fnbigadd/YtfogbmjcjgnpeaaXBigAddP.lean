/- The law FnBigAdd: its walk. -/
import Derived.Test.YtfogbmjcjgnpeaaNumY
import Derived.Test.YtfogbmjcjgnpeaaNumO
import Derived.Test.YtfogbmjcjgnpeaaDrAdd
import Derived.Test.YtfogbmjcjgnpeaaPSt
import Derived.Test.YtfogbmjcjgnpeaaByt1
namespace Go.Proofs.Ytfogbmjcjgnpeaa
open Go.RowKit
set_option linter.unusedSimpArgs false

theorem out_no_or_yesAdd (b : Bool) (z : Int) : outR b z = (false, [], false) ∨ b = true ∧ (L z.natAbs).length ≤ 16 := by
  unfold outR
  by_cases h : b = true ∧ (L z.natAbs).length ≤ 16
  · exact .inr h
  · exact .inl (by rw [if_neg h])

set_option maxHeartbeats 2000000 in
set_option maxRecDepth 100000 in
theorem xBigAddP_walk (w : World) (v : Value) (h : Byt w v) :
    Calls Try.prog 3 #[v] w fun e w' => e = .returned (.bool true) ∧ Below w.heap.size w w' := by
  have C0 := hide (drawAdd_any w v h)
  obtain ⟨ao, n, cap, rfl, hn⟩ := byt_len h
  clear h
  by_cases hl : (1048576 : Int) < n
  · have t0 : decide ((1048576 : Int) < n) = true := by simpa using hl
    go_enter Try.func3, Try.ntmps3
    go_wp2
    go_ret
    exact ⟨rfl, Below.refl _ _⟩
  have t0 : decide ((1048576 : Int) < n) = false := by simpa using hl
  go_enter Try.func3, Try.ntmps3
  go_wp2_with fail
  refine (unhide C0).mono ?_
  rintro e w1 ⟨p, q, l, m, aa, ca, ab, cb, rfl, hll, hml, oa, ob, b1⟩
  clear C0
  have S1 := ((PS.start b1).add p (.slice aa l.length ca) l oa.reads).add q (.slice ab m.length cb) m (ob.reads.alloc _)
  simp only [List.nil_append, List.cons_append, World.size_alloc] at S1
  clear b1 oa ob
  rcases out_no_or_yesAdd (okB p l && okB q m) (zv p l + zv q m) with hno | ⟨hok, hfit⟩
  · have CI := hide (fun (W : World) (u v : Value) (hu : Reads W u l) (hv : Reads W v m) => implBigAdd_any W p q u v l m hu hv)
    have CS := hide (fun (W : World) (u v : Value) (hu : Reads W u l) (hv : Reads W v m) => specBigAdd_any W p q u v l m hu hv)
    rw [hno] at CI CS
    have CJ := hide (fun (W : World) (u v : Value) (hu : Reads W u ([] : List Int)) (hv : Reads W v ([] : List Int)) => jtBig_same W false u v [] hu hv)
    clear hno
    go_wp2_with fail
    refine (unhide CI _ _ _ (S1.box (w1.heap.size, p, .slice aa (l).length ca, l) (by simp)).2.2.1 (S1.box (w1.heap.size + 1, q, .slice ab (m).length cb, m) (by simp)).2.2.1).mono ?_
    rintro e w2 ⟨a1, c1, rfl, o1, k1⟩
    have S2 := (S1.later k1).add false (.slice a1 (([] : List Int)).length c1) (([] : List Int)) o1.reads
    have R2 := S1.later k1
    simp only [List.nil_append, List.cons_append, World.size_alloc] at S2
    have cA0 : w2.cell? ⟨w1.heap.size, 0, none⟩ = some (.bool p) := (R2.box (w1.heap.size, p, .slice aa (l).length ca, l) (by simp)).1
    have cA1 : w2.cell? ⟨w1.heap.size, 1, none⟩ = some (.slice aa (l).length ca) := (R2.box (w1.heap.size, p, .slice aa (l).length ca, l) (by simp)).2.1
    have zA : w1.heap.size < w2.heap.size := (R2.box (w1.heap.size, p, .slice aa (l).length ca, l) (by simp)).2.2.2
    have cB0 : w2.cell? ⟨w1.heap.size + 1, 0, none⟩ = some (.bool q) := (R2.box (w1.heap.size + 1, q, .slice ab (m).length cb, m) (by simp)).1
    have cB1 : w2.cell? ⟨w1.heap.size + 1, 1, none⟩ = some (.slice ab (m).length cb) := (R2.box (w1.heap.size + 1, q, .slice ab (m).length cb, m) (by simp)).2.1
    have zB : w1.heap.size + 1 < w2.heap.size := (R2.box (w1.heap.size + 1, q, .slice ab (m).length cb, m) (by simp)).2.2.2
    clear o1 k1
    go_wp2_with fail
    refine (unhide CS _ _ _ (S2.box (w1.heap.size, p, .slice aa (l).length ca, l) (by simp)).2.2.1 (S2.box (w1.heap.size + 1, q, .slice ab (m).length cb, m) (by simp)).2.2.1).mono ?_
    rintro e w3 ⟨a2, c2, rfl, o2, k2⟩
    have S3 := (S2.later k2).add false (.slice a2 (([] : List Int)).length c2) (([] : List Int)) o2.reads
    have R3 := S2.later k2
    simp only [List.nil_append, List.cons_append, World.size_alloc] at S3
    clear cA0 cA1 zA cB0 cB1 zB
    have cX0 : w3.cell? ⟨w2.heap.size, 0, none⟩ = some (.bool false) := (R3.box (w2.heap.size, false, .slice a1 (([] : List Int)).length c1, ([] : List Int)) (by simp)).1
    have cX1 : w3.cell? ⟨w2.heap.size, 1, none⟩ = some (.slice a1 (([] : List Int)).length c1) := (R3.box (w2.heap.size, false, .slice a1 (([] : List Int)).length c1, ([] : List Int)) (by simp)).2.1
    have zX : w2.heap.size < w3.heap.size := (R3.box (w2.heap.size, false, .slice a1 (([] : List Int)).length c1, ([] : List Int)) (by simp)).2.2.2
    clear o2 k2
    go_wp2_with fail
    refine (unhide CJ _ _ _ (S3.box (w2.heap.size, false, .slice a1 (([] : List Int)).length c1, ([] : List Int)) (by simp)).2.2.1 (S3.box (w3.heap.size, false, .slice a2 (([] : List Int)).length c2, ([] : List Int)) (by simp)).2.2.1).mono ?_
    rintro e w4 ⟨rfl, k3⟩
    have S4 := S3.later k3
    clear cX0 cX1 zX
    have cX0 : w4.cell? ⟨w2.heap.size, 0, none⟩ = some (.bool false) := (S4.box (w2.heap.size, false, .slice a1 (([] : List Int)).length c1, ([] : List Int)) (by simp)).1
    have cX1 : w4.cell? ⟨w2.heap.size, 1, none⟩ = some (.slice a1 (([] : List Int)).length c1) := (S4.box (w2.heap.size, false, .slice a1 (([] : List Int)).length c1, ([] : List Int)) (by simp)).2.1
    have zX : w2.heap.size < w4.heap.size := (S4.box (w2.heap.size, false, .slice a1 (([] : List Int)).length c1, ([] : List Int)) (by simp)).2.2.2
    have cY0 : w4.cell? ⟨w3.heap.size, 0, none⟩ = some (.bool false) := (S4.box (w3.heap.size, false, .slice a2 (([] : List Int)).length c2, ([] : List Int)) (by simp)).1
    have cY1 : w4.cell? ⟨w3.heap.size, 1, none⟩ = some (.slice a2 (([] : List Int)).length c2) := (S4.box (w3.heap.size, false, .slice a2 (([] : List Int)).length c2, ([] : List Int)) (by simp)).2.1
    have zY : w3.heap.size < w4.heap.size := (S4.box (w3.heap.size, false, .slice a2 (([] : List Int)).length c2, ([] : List Int)) (by simp)).2.2.2
    clear k3
    go_wp2_with fail
    refine (unhide CJ _ _ _ (S4.box (w2.heap.size, false, .slice a1 (([] : List Int)).length c1, ([] : List Int)) (by simp)).2.2.1 (S4.box (w3.heap.size, false, .slice a2 (([] : List Int)).length c2, ([] : List Int)) (by simp)).2.2.1).mono ?_
    rintro e w5 ⟨rfl, k4⟩
    have S5 := S4.later k4
    clear cX0 cX1 zX cY0 cY1 zY
    clear k4
    go_wp2
    go_ret
    exact ⟨rfl, S5.below⟩
  · rw [Bool.and_eq_true] at hok
    obtain ⟨h1, h2⟩ := hok
    obtain ⟨a, rfl, rfl, ha⟩ : ∃ a : Int, p = sg a ∧ l = L a.natAbs ∧ (L a.natAbs).length ≤ 16 := num_of h1
    obtain ⟨b, rfl, rfl, hb⟩ : ∃ b : Int, q = sg b ∧ m = L b.natAbs ∧ (L b.natAbs).length ≤ 16 := num_of h2
    rw [zv_z, zv_z] at hfit
    have CI := hide (fun (W : World) (u v : Value) (hu : Reads W u (L a.natAbs)) (hv : Reads W v (L b.natAbs)) => implAdd_z ha hb hu hv)
    have CS := hide (fun (W : World) (u v : Value) (hu : Reads W u (L a.natAbs)) (hv : Reads W v (L b.natAbs)) => specAdd_z ha hb hu hv)
    rw [outR_fit hfit] at CI CS
    have CJ := hide (fun (x : Int) (W : World) (u v : Value) (hu : Reads W u (L x.natAbs)) (hv : Reads W v (L x.natAbs)) => jtBig_same W (sg x) u v (L x.natAbs) hu hv)
    have C1 := hide (fun (W : World) (u v : Value) (hu : Reads W u (L (a + b).natAbs)) (hv : Reads W v (L b.natAbs)) => implSub_z hfit hb hu hv)
    rw [show a + b - b = a by omega, outR_fit ha] at C1
    have C2 := hide (fun (W : World) (u v : Value) (hu : Reads W u (L b.natAbs)) (hv : Reads W v (L a.natAbs)) => implAdd_z hb ha hu hv)
    rw [show b + a = a + b by omega, outR_fit hfit] at C2
    generalize a + b = X at *
    have CX := hide (unhide CJ X)
    have CA := hide (unhide CJ a)
    clear h1 h2 CJ
    go_wp2_with fail
    refine (unhide CI _ _ _ (S1.box (w1.heap.size, (sg a), .slice aa (L a.natAbs).length ca, L a.natAbs) (by simp)).2.2.1 (S1.box (w1.heap.size + 1, (sg b), .slice ab (L b.natAbs).length cb, L b.natAbs) (by simp)).2.2.1).mono ?_
    rintro e w2 ⟨a1, c1, rfl, o1, k1⟩
    have S2 := (S1.later k1).add (sg X) (.slice a1 (L X.natAbs).length c1) (L X.natAbs) o1.reads
    have R2 := S1.later k1
    simp only [List.nil_append, List.cons_append, World.size_alloc] at S2
    have cA0 : w2.cell? ⟨w1.heap.size, 0, none⟩ = some (.bool (sg a)) := (R2.box (w1.heap.size, (sg a), .slice aa (L a.natAbs).length ca, L a.natAbs) (by simp)).1
    have cA1 : w2.cell? ⟨w1.heap.size, 1, none⟩ = some (.slice aa (L a.natAbs).length ca) := (R2.box (w1.heap.size, (sg a), .slice aa (L a.natAbs).length ca, L a.natAbs) (by simp)).2.1
    have zA : w1.heap.size < w2.heap.size := (R2.box (w1.heap.size, (sg a), .slice aa (L a.natAbs).length ca, L a.natAbs) (by simp)).2.2.2
    have cB0 : w2.cell? ⟨w1.heap.size + 1, 0, none⟩ = some (.bool (sg b)) := (R2.box (w1.heap.size + 1, (sg b), .slice ab (L b.natAbs).length cb, L b.natAbs) (by simp)).1
    have cB1 : w2.cell? ⟨w1.heap.size + 1, 1, none⟩ = some (.slice ab (L b.natAbs).length cb) := (R2.box (w1.heap.size + 1, (sg b), .slice ab (L b.natAbs).length cb, L b.natAbs) (by simp)).2.1
    have zB : w1.heap.size + 1 < w2.heap.size := (R2.box (w1.heap.size + 1, (sg b), .slice ab (L b.natAbs).length cb, L b.natAbs) (by simp)).2.2.2
    clear o1 k1
    go_wp2_with fail
    refine (unhide CS _ _ _ (S2.box (w1.heap.size, (sg a), .slice aa (L a.natAbs).length ca, L a.natAbs) (by simp)).2.2.1 (S2.box (w1.heap.size + 1, (sg b), .slice ab (L b.natAbs).length cb, L b.natAbs) (by simp)).2.2.1).mono ?_
    rintro e w3 ⟨a2, c2, rfl, o2, k2⟩
    have S3 := (S2.later k2).add (sg X) (.slice a2 (L X.natAbs).length c2) (L X.natAbs) o2.reads
    have R3 := S2.later k2
    simp only [List.nil_append, List.cons_append, World.size_alloc] at S3
    clear cA0 cA1 zA cB0 cB1 zB
    have cX0 : w3.cell? ⟨w2.heap.size, 0, none⟩ = some (.bool (sg X)) := (R3.box (w2.heap.size, (sg X), .slice a1 (L X.natAbs).length c1, L X.natAbs) (by simp)).1
    have cX1 : w3.cell? ⟨w2.heap.size, 1, none⟩ = some (.slice a1 (L X.natAbs).length c1) := (R3.box (w2.heap.size, (sg X), .slice a1 (L X.natAbs).length c1, L X.natAbs) (by simp)).2.1
    have zX : w2.heap.size < w3.heap.size := (R3.box (w2.heap.size, (sg X), .slice a1 (L X.natAbs).length c1, L X.natAbs) (by simp)).2.2.2
    clear o2 k2
    go_wp2_with fail
    refine (unhide CX _ _ _ (S3.box (w2.heap.size, (sg X), .slice a1 (L X.natAbs).length c1, L X.natAbs) (by simp)).2.2.1 (S3.box (w3.heap.size, (sg X), .slice a2 (L X.natAbs).length c2, L X.natAbs) (by simp)).2.2.1).mono ?_
    rintro e w4 ⟨rfl, k3⟩
    have S4 := S3.later k3
    clear cX0 cX1 zX
    have cX0 : w4.cell? ⟨w2.heap.size, 0, none⟩ = some (.bool (sg X)) := (S4.box (w2.heap.size, (sg X), .slice a1 (L X.natAbs).length c1, L X.natAbs) (by simp)).1
    have cX1 : w4.cell? ⟨w2.heap.size, 1, none⟩ = some (.slice a1 (L X.natAbs).length c1) := (S4.box (w2.heap.size, (sg X), .slice a1 (L X.natAbs).length c1, L X.natAbs) (by simp)).2.1
    have zX : w2.heap.size < w4.heap.size := (S4.box (w2.heap.size, (sg X), .slice a1 (L X.natAbs).length c1, L X.natAbs) (by simp)).2.2.2
    have cB0 : w4.cell? ⟨w1.heap.size + 1, 0, none⟩ = some (.bool (sg b)) := (S4.box (w1.heap.size + 1, (sg b), .slice ab (L b.natAbs).length cb, L b.natAbs) (by simp)).1
    have cB1 : w4.cell? ⟨w1.heap.size + 1, 1, none⟩ = some (.slice ab (L b.natAbs).length cb) := (S4.box (w1.heap.size + 1, (sg b), .slice ab (L b.natAbs).length cb, L b.natAbs) (by simp)).2.1
    have zB : w1.heap.size + 1 < w4.heap.size := (S4.box (w1.heap.size + 1, (sg b), .slice ab (L b.natAbs).length cb, L b.natAbs) (by simp)).2.2.2
    clear k3
    go_wp2_with fail
    refine (unhide C1 _ _ _ (S4.box (w2.heap.size, (sg X), .slice a1 (L X.natAbs).length c1, L X.natAbs) (by simp)).2.2.1 (S4.box (w1.heap.size + 1, (sg b), .slice ab (L b.natAbs).length cb, L b.natAbs) (by simp)).2.2.1).mono ?_
    rintro e w5 ⟨a4, c4, rfl, o4, k4⟩
    have S5 := (S4.later k4).add (sg a) (.slice a4 (L a.natAbs).length c4) (L a.natAbs) o4.reads
    have R5 := S4.later k4
    simp only [List.nil_append, List.cons_append, World.size_alloc] at S5
    clear cX0 cX1 zX cB0 cB1 zB
    have cA0 : w5.cell? ⟨w1.heap.size, 0, none⟩ = some (.bool (sg a)) := (R5.box (w1.heap.size, (sg a), .slice aa (L a.natAbs).length ca, L a.natAbs) (by simp)).1
    have cA1 : w5.cell? ⟨w1.heap.size, 1, none⟩ = some (.slice aa (L a.natAbs).length ca) := (R5.box (w1.heap.size, (sg a), .slice aa (L a.natAbs).length ca, L a.natAbs) (by simp)).2.1
    have zA : w1.heap.size < w5.heap.size := (R5.box (w1.heap.size, (sg a), .slice aa (L a.natAbs).length ca, L a.natAbs) (by simp)).2.2.2
    have cB0 : w5.cell? ⟨w1.heap.size + 1, 0, none⟩ = some (.bool (sg b)) := (R5.box (w1.heap.size + 1, (sg b), .slice ab (L b.natAbs).length cb, L b.natAbs) (by simp)).1
    have cB1 : w5.cell? ⟨w1.heap.size + 1, 1, none⟩ = some (.slice ab (L b.natAbs).length cb) := (R5.box (w1.heap.size + 1, (sg b), .slice ab (L b.natAbs).length cb, L b.natAbs) (by simp)).2.1
    have zB : w1.heap.size + 1 < w5.heap.size := (R5.box (w1.heap.size + 1, (sg b), .slice ab (L b.natAbs).length cb, L b.natAbs) (by simp)).2.2.2
    clear o4 k4
    go_wp2_with fail
    refine (unhide C2 _ _ _ (S5.box (w1.heap.size + 1, (sg b), .slice ab (L b.natAbs).length cb, L b.natAbs) (by simp)).2.2.1 (S5.box (w1.heap.size, (sg a), .slice aa (L a.natAbs).length ca, L a.natAbs) (by simp)).2.2.1).mono ?_
    rintro e w6 ⟨a5, c5, rfl, o5, k5⟩
    have S6 := (S5.later k5).add (sg X) (.slice a5 (L X.natAbs).length c5) (L X.natAbs) o5.reads
    have R6 := S5.later k5
    simp only [List.nil_append, List.cons_append, World.size_alloc] at S6
    clear cA0 cA1 zA cB0 cB1 zB
    have cU0 : w6.cell? ⟨w5.heap.size, 0, none⟩ = some (.bool (sg a)) := (R6.box (w5.heap.size, (sg a), .slice a4 (L a.natAbs).length c4, L a.natAbs) (by simp)).1
    have cU1 : w6.cell? ⟨w5.heap.size, 1, none⟩ = some (.slice a4 (L a.natAbs).length c4) := (R6.box (w5.heap.size, (sg a), .slice a4 (L a.natAbs).length c4, L a.natAbs) (by simp)).2.1
    have zU : w5.heap.size < w6.heap.size := (R6.box (w5.heap.size, (sg a), .slice a4 (L a.natAbs).length c4, L a.natAbs) (by simp)).2.2.2
    have cA0 : w6.cell? ⟨w1.heap.size, 0, none⟩ = some (.bool (sg a)) := (R6.box (w1.heap.size, (sg a), .slice aa (L a.natAbs).length ca, L a.natAbs) (by simp)).1
    have cA1 : w6.cell? ⟨w1.heap.size, 1, none⟩ = some (.slice aa (L a.natAbs).length ca) := (R6.box (w1.heap.size, (sg a), .slice aa (L a.natAbs).length ca, L a.natAbs) (by simp)).2.1
    have zA : w1.heap.size < w6.heap.size := (R6.box (w1.heap.size, (sg a), .slice aa (L a.natAbs).length ca, L a.natAbs) (by simp)).2.2.2
    clear o5 k5
    go_wp2_with fail
    refine (unhide CA _ _ _ (S6.box (w5.heap.size, (sg a), .slice a4 (L a.natAbs).length c4, L a.natAbs) (by simp)).2.2.1 (S6.box (w1.heap.size, (sg a), .slice aa (L a.natAbs).length ca, L a.natAbs) (by simp)).2.2.1).mono ?_
    rintro e w7 ⟨rfl, k6⟩
    have S7 := S6.later k6
    clear cU0 cU1 zU cA0 cA1 zA
    have cV0 : w7.cell? ⟨w6.heap.size, 0, none⟩ = some (.bool (sg X)) := (S7.box (w6.heap.size, (sg X), .slice a5 (L X.natAbs).length c5, L X.natAbs) (by simp)).1
    have cV1 : w7.cell? ⟨w6.heap.size, 1, none⟩ = some (.slice a5 (L X.natAbs).length c5) := (S7.box (w6.heap.size, (sg X), .slice a5 (L X.natAbs).length c5, L X.natAbs) (by simp)).2.1
    have zV : w6.heap.size < w7.heap.size := (S7.box (w6.heap.size, (sg X), .slice a5 (L X.natAbs).length c5, L X.natAbs) (by simp)).2.2.2
    have cX0 : w7.cell? ⟨w2.heap.size, 0, none⟩ = some (.bool (sg X)) := (S7.box (w2.heap.size, (sg X), .slice a1 (L X.natAbs).length c1, L X.natAbs) (by simp)).1
    have cX1 : w7.cell? ⟨w2.heap.size, 1, none⟩ = some (.slice a1 (L X.natAbs).length c1) := (S7.box (w2.heap.size, (sg X), .slice a1 (L X.natAbs).length c1, L X.natAbs) (by simp)).2.1
    have zX : w2.heap.size < w7.heap.size := (S7.box (w2.heap.size, (sg X), .slice a1 (L X.natAbs).length c1, L X.natAbs) (by simp)).2.2.2
    clear k6
    go_wp2_with fail
    refine (unhide CX _ _ _ (S7.box (w6.heap.size, (sg X), .slice a5 (L X.natAbs).length c5, L X.natAbs) (by simp)).2.2.1 (S7.box (w2.heap.size, (sg X), .slice a1 (L X.natAbs).length c1, L X.natAbs) (by simp)).2.2.1).mono ?_
    rintro e w8 ⟨rfl, k7⟩
    have S8 := S7.later k7
    clear cV0 cV1 zV cX0 cX1 zX
    clear k7
    go_wp2
    go_ret
    exact ⟨rfl, S8.below⟩

end Go.Proofs.Ytfogbmjcjgnpeaa
