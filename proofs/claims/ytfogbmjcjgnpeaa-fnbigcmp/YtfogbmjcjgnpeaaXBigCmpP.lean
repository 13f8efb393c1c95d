/- The law FnBigCmp: its walk. -/
import Derived.Test.YtfogbmjcjgnpeaaNumY
import Derived.Test.YtfogbmjcjgnpeaaNumO
import Derived.Test.YtfogbmjcjgnpeaaDrCmp
import Derived.Test.YtfogbmjcjgnpeaaPSt
import Derived.Test.YtfogbmjcjgnpeaaByt1
import Derived.Test.YtfogbmjcjgnpeaaJtZ
import Derived.Test.YtfogbmjcjgnpeaaCmpB
namespace Go.Proofs.Ytfogbmjcjgnpeaa
open Go.RowKit
set_option linter.unusedSimpArgs false

theorem cmpR_z {a b : Int} (ha : (L a.natAbs).length ≤ 16) (hb : (L b.natAbs).length ≤ 16) : cmpR (sg a) (L a.natAbs) (sg b) (L b.natAbs) = cmpZ a b := by
  unfold cmpR
  rw [if_pos ⟨okB_z ha, okB_z hb⟩, zv_z, zv_z]
theorem cmpR_no {p q : Bool} {l m : List Int} (h : ¬ (okB p l = true ∧ okB q m = true)) : cmpR p l q m = 2 := by
  unfold cmpR
  rw [if_neg h]

set_option maxHeartbeats 2000000 in
set_option maxRecDepth 100000 in
theorem xBigCmpP_walk (w : World) (v : Value) (h : Byt w v) :
    Calls Try.prog 5 #[v] w fun e w' => e = .returned (.bool true) ∧ Below w.heap.size w w' := by
  have C0 := hide (drawCmp_any w v h)
  obtain ⟨ao, n, cap, rfl, hn⟩ := byt_len h
  clear h
  by_cases hl : (1048576 : Int) < n
  · have t0 : decide ((1048576 : Int) < n) = true := by simpa using hl
    go_enter Try.func5, Try.ntmps5
    go_wp2
    go_ret
    exact ⟨rfl, Below.refl _ _⟩
  have t0 : decide ((1048576 : Int) < n) = false := by simpa using hl
  go_enter Try.func5, Try.ntmps5
  go_wp2_with fail
  refine (unhide C0).mono ?_
  rintro e w1 ⟨p, q, l, m, aa, ca, ab, cb, rfl, hll, hml, oa, ob, b1⟩
  clear C0
  have S1 := ((PS.start b1).add p (.slice aa l.length ca) l oa.reads).add q (.slice ab m.length cb) m (ob.reads.alloc _)
  simp only [List.nil_append, List.cons_append, World.size_alloc] at S1
  clear b1 oa ob
  rcases Classical.em (okB p l = true ∧ okB q m = true) with hok | hok
  · obtain ⟨h1, h2⟩ := hok
    obtain ⟨a, rfl, rfl, ha⟩ : ∃ a : Int, p = sg a ∧ l = L a.natAbs ∧ (L a.natAbs).length ≤ 16 := num_of h1
    obtain ⟨b, rfl, rfl, hb⟩ : ∃ b : Int, q = sg b ∧ m = L b.natAbs ∧ (L b.natAbs).length ≤ 16 := num_of h2
    have CI := hide (fun (W : World) (u v : Value) (hu : Reads W u (L a.natAbs)) (hv : Reads W v (L b.natAbs)) => implBigCmp_any W (sg a) (sg b) u v _ _ hu hv)
    have CS := hide (fun (W : World) (u v : Value) (hu : Reads W u (L a.natAbs)) (hv : Reads W v (L b.natAbs)) => specBigCmp_any W (sg a) (sg b) u v _ _ hu hv)
    have CT := hide (fun (W : World) (u v : Value) (hu : Reads W u (L b.natAbs)) (hv : Reads W v (L a.natAbs)) => implBigCmp_any W (sg b) (sg a) u v _ _ hu hv)
    have CA := hide (fun (W : World) (u v : Value) (hu : Reads W u (L a.natAbs)) (hv : Reads W v (L a.natAbs)) => implBigCmp_any W (sg a) (sg a) u v _ _ hu hv)
    rw [cmpR_z ha hb] at CI CS
    rw [cmpR_z hb ha] at CT
    rw [cmpR_z ha ha, cmpZ_eq (rfl : a = a)] at CA
    have CX := hide (fun (W : World) (u v : Value) (hu : Reads W u (L a.natAbs)) (hv : Reads W v (L b.natAbs)) => implSub_z ha hb hu hv)
    clear h1 h2
    rcases Int.lt_trichotomy a b with hc | hc | hc
    · rw [cmpZ_lt hc] at CI CS
      rw [cmpZ_gt hc] at CT
      have hsg : sg (a - b) = true := by unfold sg; simp; omega
      have CZ := hide (fun (W : World) (u : Value) (hu : Reads W u (L (a - b).natAbs)) => jtZero_z W (a - b) u hu)
      rw [hsg, decide_eq_false (show ¬ (a - b = 0) by omega)] at CZ
      rcases out_cases (a - b) with ⟨ho, hf⟩ | ho
      · rw [ho] at CX
        rw [hsg] at CX
        clear ho hsg hf hc
        generalize a - b = X at *
        go_wp2_with fail
        refine (unhide CI _ _ _ (S1.box (w1.heap.size, (sg a), .slice aa (L a.natAbs).length ca, L a.natAbs) (by simp)).2.2.1 (S1.box (w1.heap.size + 1, (sg b), .slice ab (L b.natAbs).length cb, L b.natAbs) (by simp)).2.2.1).mono ?_
        rintro e w2 ⟨rfl, k1⟩
        have S2 := S1.later k1
        have cA0 : w2.cell? ⟨w1.heap.size, 0, none⟩ = some (.bool (sg a)) := (S2.box (w1.heap.size, (sg a), .slice aa (L a.natAbs).length ca, L a.natAbs) (by simp)).1
        have cA1 : w2.cell? ⟨w1.heap.size, 1, none⟩ = some (.slice aa (L a.natAbs).length ca) := (S2.box (w1.heap.size, (sg a), .slice aa (L a.natAbs).length ca, L a.natAbs) (by simp)).2.1
        have zA : w1.heap.size < w2.heap.size := (S2.box (w1.heap.size, (sg a), .slice aa (L a.natAbs).length ca, L a.natAbs) (by simp)).2.2.2
        have cB0 : w2.cell? ⟨w1.heap.size + 1, 0, none⟩ = some (.bool (sg b)) := (S2.box (w1.heap.size + 1, (sg b), .slice ab (L b.natAbs).length cb, L b.natAbs) (by simp)).1
        have cB1 : w2.cell? ⟨w1.heap.size + 1, 1, none⟩ = some (.slice ab (L b.natAbs).length cb) := (S2.box (w1.heap.size + 1, (sg b), .slice ab (L b.natAbs).length cb, L b.natAbs) (by simp)).2.1
        have zB : w1.heap.size + 1 < w2.heap.size := (S2.box (w1.heap.size + 1, (sg b), .slice ab (L b.natAbs).length cb, L b.natAbs) (by simp)).2.2.2
        clear k1
        go_wp2_with fail
        refine (unhide CS _ _ _ (S2.box (w1.heap.size, (sg a), .slice aa (L a.natAbs).length ca, L a.natAbs) (by simp)).2.2.1 (S2.box (w1.heap.size + 1, (sg b), .slice ab (L b.natAbs).length cb, L b.natAbs) (by simp)).2.2.1).mono ?_
        rintro e w3 ⟨rfl, k2⟩
        have S3 := S2.later k2
        clear cA0 cA1 zA cB0 cB1 zB
        have cA0 : w3.cell? ⟨w1.heap.size, 0, none⟩ = some (.bool (sg a)) := (S3.box (w1.heap.size, (sg a), .slice aa (L a.natAbs).length ca, L a.natAbs) (by simp)).1
        have cA1 : w3.cell? ⟨w1.heap.size, 1, none⟩ = some (.slice aa (L a.natAbs).length ca) := (S3.box (w1.heap.size, (sg a), .slice aa (L a.natAbs).length ca, L a.natAbs) (by simp)).2.1
        have zA : w1.heap.size < w3.heap.size := (S3.box (w1.heap.size, (sg a), .slice aa (L a.natAbs).length ca, L a.natAbs) (by simp)).2.2.2
        have cB0 : w3.cell? ⟨w1.heap.size + 1, 0, none⟩ = some (.bool (sg b)) := (S3.box (w1.heap.size + 1, (sg b), .slice ab (L b.natAbs).length cb, L b.natAbs) (by simp)).1
        have cB1 : w3.cell? ⟨w1.heap.size + 1, 1, none⟩ = some (.slice ab (L b.natAbs).length cb) := (S3.box (w1.heap.size + 1, (sg b), .slice ab (L b.natAbs).length cb, L b.natAbs) (by simp)).2.1
        have zB : w1.heap.size + 1 < w3.heap.size := (S3.box (w1.heap.size + 1, (sg b), .slice ab (L b.natAbs).length cb, L b.natAbs) (by simp)).2.2.2
        clear k2
        go_wp2_with fail
        refine (unhide CX _ _ _ (S3.box (w1.heap.size, (sg a), .slice aa (L a.natAbs).length ca, L a.natAbs) (by simp)).2.2.1 (S3.box (w1.heap.size + 1, (sg b), .slice ab (L b.natAbs).length cb, L b.natAbs) (by simp)).2.2.1).mono ?_
        rintro e w4 ⟨a3, c3, rfl, o3, k3⟩
        have S4 := (S3.later k3).add true (.slice a3 (L X.natAbs).length c3) (L X.natAbs) o3.reads
        have R4 := S3.later k3
        simp only [List.nil_append, List.cons_append, World.size_alloc] at S4
        clear cA0 cA1 zA cB0 cB1 zB
        clear o3 k3
        go_wp2_with fail
        refine (unhide CZ _ _ (S4.box (w4.heap.size, true, .slice a3 (L X.natAbs).length c3, L X.natAbs) (by simp)).2.2.1).mono ?_
        rintro e w5 ⟨rfl, k4⟩
        have S5 := S4.later k4
        have cA0 : w5.cell? ⟨w1.heap.size, 0, none⟩ = some (.bool (sg a)) := (S5.box (w1.heap.size, (sg a), .slice aa (L a.natAbs).length ca, L a.natAbs) (by simp)).1
        have cA1 : w5.cell? ⟨w1.heap.size, 1, none⟩ = some (.slice aa (L a.natAbs).length ca) := (S5.box (w1.heap.size, (sg a), .slice aa (L a.natAbs).length ca, L a.natAbs) (by simp)).2.1
        have zA : w1.heap.size < w5.heap.size := (S5.box (w1.heap.size, (sg a), .slice aa (L a.natAbs).length ca, L a.natAbs) (by simp)).2.2.2
        have cB0 : w5.cell? ⟨w1.heap.size + 1, 0, none⟩ = some (.bool (sg b)) := (S5.box (w1.heap.size + 1, (sg b), .slice ab (L b.natAbs).length cb, L b.natAbs) (by simp)).1
        have cB1 : w5.cell? ⟨w1.heap.size + 1, 1, none⟩ = some (.slice ab (L b.natAbs).length cb) := (S5.box (w1.heap.size + 1, (sg b), .slice ab (L b.natAbs).length cb, L b.natAbs) (by simp)).2.1
        have zB : w1.heap.size + 1 < w5.heap.size := (S5.box (w1.heap.size + 1, (sg b), .slice ab (L b.natAbs).length cb, L b.natAbs) (by simp)).2.2.2
        clear k4
        go_wp2_with fail
        refine (unhide CT _ _ _ (S5.box (w1.heap.size + 1, (sg b), .slice ab (L b.natAbs).length cb, L b.natAbs) (by simp)).2.2.1 (S5.box (w1.heap.size, (sg a), .slice aa (L a.natAbs).length ca, L a.natAbs) (by simp)).2.2.1).mono ?_
        rintro e w6 ⟨rfl, k5⟩
        have S6 := S5.later k5
        clear cA0 cA1 zA cB0 cB1 zB
        have cA0 : w6.cell? ⟨w1.heap.size, 0, none⟩ = some (.bool (sg a)) := (S6.box (w1.heap.size, (sg a), .slice aa (L a.natAbs).length ca, L a.natAbs) (by simp)).1
        have cA1 : w6.cell? ⟨w1.heap.size, 1, none⟩ = some (.slice aa (L a.natAbs).length ca) := (S6.box (w1.heap.size, (sg a), .slice aa (L a.natAbs).length ca, L a.natAbs) (by simp)).2.1
        have zA : w1.heap.size < w6.heap.size := (S6.box (w1.heap.size, (sg a), .slice aa (L a.natAbs).length ca, L a.natAbs) (by simp)).2.2.2
        clear k5
        go_wp2_with fail
        refine (unhide CA _ _ _ (S6.box (w1.heap.size, (sg a), .slice aa (L a.natAbs).length ca, L a.natAbs) (by simp)).2.2.1 (S6.box (w1.heap.size, (sg a), .slice aa (L a.natAbs).length ca, L a.natAbs) (by simp)).2.2.1).mono ?_
        rintro e w7 ⟨rfl, k6⟩
        have S7 := S6.later k6
        clear cA0 cA1 zA
        clear k6
        go_wp2
        go_ret
        exact ⟨rfl, S7.below⟩
      · rw [ho] at CX
        clear ho hsg hc
        generalize a - b = X at *
        go_wp2_with fail
        refine (unhide CI _ _ _ (S1.box (w1.heap.size, (sg a), .slice aa (L a.natAbs).length ca, L a.natAbs) (by simp)).2.2.1 (S1.box (w1.heap.size + 1, (sg b), .slice ab (L b.natAbs).length cb, L b.natAbs) (by simp)).2.2.1).mono ?_
        rintro e w2 ⟨rfl, k1⟩
        have S2 := S1.later k1
        have cA0 : w2.cell? ⟨w1.heap.size, 0, none⟩ = some (.bool (sg a)) := (S2.box (w1.heap.size, (sg a), .slice aa (L a.natAbs).length ca, L a.natAbs) (by simp)).1
        have cA1 : w2.cell? ⟨w1.heap.size, 1, none⟩ = some (.slice aa (L a.natAbs).length ca) := (S2.box (w1.heap.size, (sg a), .slice aa (L a.natAbs).length ca, L a.natAbs) (by simp)).2.1
        have zA : w1.heap.size < w2.heap.size := (S2.box (w1.heap.size, (sg a), .slice aa (L a.natAbs).length ca, L a.natAbs) (by simp)).2.2.2
        have cB0 : w2.cell? ⟨w1.heap.size + 1, 0, none⟩ = some (.bool (sg b)) := (S2.box (w1.heap.size + 1, (sg b), .slice ab (L b.natAbs).length cb, L b.natAbs) (by simp)).1
        have cB1 : w2.cell? ⟨w1.heap.size + 1, 1, none⟩ = some (.slice ab (L b.natAbs).length cb) := (S2.box (w1.heap.size + 1, (sg b), .slice ab (L b.natAbs).length cb, L b.natAbs) (by simp)).2.1
        have zB : w1.heap.size + 1 < w2.heap.size := (S2.box (w1.heap.size + 1, (sg b), .slice ab (L b.natAbs).length cb, L b.natAbs) (by simp)).2.2.2
        clear k1
        go_wp2_with fail
        refine (unhide CS _ _ _ (S2.box (w1.heap.size, (sg a), .slice aa (L a.natAbs).length ca, L a.natAbs) (by simp)).2.2.1 (S2.box (w1.heap.size + 1, (sg b), .slice ab (L b.natAbs).length cb, L b.natAbs) (by simp)).2.2.1).mono ?_
        rintro e w3 ⟨rfl, k2⟩
        have S3 := S2.later k2
        clear cA0 cA1 zA cB0 cB1 zB
        have cA0 : w3.cell? ⟨w1.heap.size, 0, none⟩ = some (.bool (sg a)) := (S3.box (w1.heap.size, (sg a), .slice aa (L a.natAbs).length ca, L a.natAbs) (by simp)).1
        have cA1 : w3.cell? ⟨w1.heap.size, 1, none⟩ = some (.slice aa (L a.natAbs).length ca) := (S3.box (w1.heap.size, (sg a), .slice aa (L a.natAbs).length ca, L a.natAbs) (by simp)).2.1
        have zA : w1.heap.size < w3.heap.size := (S3.box (w1.heap.size, (sg a), .slice aa (L a.natAbs).length ca, L a.natAbs) (by simp)).2.2.2
        have cB0 : w3.cell? ⟨w1.heap.size + 1, 0, none⟩ = some (.bool (sg b)) := (S3.box (w1.heap.size + 1, (sg b), .slice ab (L b.natAbs).length cb, L b.natAbs) (by simp)).1
        have cB1 : w3.cell? ⟨w1.heap.size + 1, 1, none⟩ = some (.slice ab (L b.natAbs).length cb) := (S3.box (w1.heap.size + 1, (sg b), .slice ab (L b.natAbs).length cb, L b.natAbs) (by simp)).2.1
        have zB : w1.heap.size + 1 < w3.heap.size := (S3.box (w1.heap.size + 1, (sg b), .slice ab (L b.natAbs).length cb, L b.natAbs) (by simp)).2.2.2
        clear k2
        go_wp2_with fail
        refine (unhide CX _ _ _ (S3.box (w1.heap.size, (sg a), .slice aa (L a.natAbs).length ca, L a.natAbs) (by simp)).2.2.1 (S3.box (w1.heap.size + 1, (sg b), .slice ab (L b.natAbs).length cb, L b.natAbs) (by simp)).2.2.1).mono ?_
        rintro e w4 ⟨a3, c3, rfl, o3, k3⟩
        have S4 := (S3.later k3).add false (.slice a3 (([] : List Int)).length c3) (([] : List Int)) o3.reads
        have R4 := S3.later k3
        simp only [List.nil_append, List.cons_append, World.size_alloc] at S4
        clear cA0 cA1 zA cB0 cB1 zB
        have cA0 : w4.cell? ⟨w1.heap.size, 0, none⟩ = some (.bool (sg a)) := (R4.box (w1.heap.size, (sg a), .slice aa (L a.natAbs).length ca, L a.natAbs) (by simp)).1
        have cA1 : w4.cell? ⟨w1.heap.size, 1, none⟩ = some (.slice aa (L a.natAbs).length ca) := (R4.box (w1.heap.size, (sg a), .slice aa (L a.natAbs).length ca, L a.natAbs) (by simp)).2.1
        have zA : w1.heap.size < w4.heap.size := (R4.box (w1.heap.size, (sg a), .slice aa (L a.natAbs).length ca, L a.natAbs) (by simp)).2.2.2
        have cB0 : w4.cell? ⟨w1.heap.size + 1, 0, none⟩ = some (.bool (sg b)) := (R4.box (w1.heap.size + 1, (sg b), .slice ab (L b.natAbs).length cb, L b.natAbs) (by simp)).1
        have cB1 : w4.cell? ⟨w1.heap.size + 1, 1, none⟩ = some (.slice ab (L b.natAbs).length cb) := (R4.box (w1.heap.size + 1, (sg b), .slice ab (L b.natAbs).length cb, L b.natAbs) (by simp)).2.1
        have zB : w1.heap.size + 1 < w4.heap.size := (R4.box (w1.heap.size + 1, (sg b), .slice ab (L b.natAbs).length cb, L b.natAbs) (by simp)).2.2.2
        clear o3 k3
        go_wp2_with fail
        refine (unhide CT _ _ _ (S4.box (w1.heap.size + 1, (sg b), .slice ab (L b.natAbs).length cb, L b.natAbs) (by simp)).2.2.1 (S4.box (w1.heap.size, (sg a), .slice aa (L a.natAbs).length ca, L a.natAbs) (by simp)).2.2.1).mono ?_
        rintro e w5 ⟨rfl, k4⟩
        have S5 := S4.later k4
        clear cA0 cA1 zA cB0 cB1 zB
        have cA0 : w5.cell? ⟨w1.heap.size, 0, none⟩ = some (.bool (sg a)) := (S5.box (w1.heap.size, (sg a), .slice aa (L a.natAbs).length ca, L a.natAbs) (by simp)).1
        have cA1 : w5.cell? ⟨w1.heap.size, 1, none⟩ = some (.slice aa (L a.natAbs).length ca) := (S5.box (w1.heap.size, (sg a), .slice aa (L a.natAbs).length ca, L a.natAbs) (by simp)).2.1
        have zA : w1.heap.size < w5.heap.size := (S5.box (w1.heap.size, (sg a), .slice aa (L a.natAbs).length ca, L a.natAbs) (by simp)).2.2.2
        clear k4
        go_wp2_with fail
        refine (unhide CA _ _ _ (S5.box (w1.heap.size, (sg a), .slice aa (L a.natAbs).length ca, L a.natAbs) (by simp)).2.2.1 (S5.box (w1.heap.size, (sg a), .slice aa (L a.natAbs).length ca, L a.natAbs) (by simp)).2.2.1).mono ?_
        rintro e w6 ⟨rfl, k5⟩
        have S6 := S5.later k5
        clear cA0 cA1 zA
        clear k5
        go_wp2
        go_ret
        exact ⟨rfl, S6.below⟩
    · subst hc
      rw [cmpZ_eq (rfl : a = a)] at CI CS CT
      have hsg : sg (a - a) = false := by unfold sg; simp
      have CZ := hide (fun (W : World) (u : Value) (hu : Reads W u (L (a - a).natAbs)) => jtZero_z W (a - a) u hu)
      rw [hsg, decide_eq_true (show a - a = 0 by omega)] at CZ
      rcases out_cases (a - a) with ⟨ho, hf⟩ | ho
      · rw [ho] at CX
        rw [hsg] at CX
        clear ho hsg hf
        generalize a - a = X at *
        go_wp2_with fail
        refine (unhide CI _ _ _ (S1.box (w1.heap.size, (sg a), .slice aa (L a.natAbs).length ca, L a.natAbs) (by simp)).2.2.1 (S1.box (w1.heap.size + 1, (sg a), .slice ab (L a.natAbs).length cb, L a.natAbs) (by simp)).2.2.1).mono ?_
        rintro e w2 ⟨rfl, k1⟩
        have S2 := S1.later k1
        have cA0 : w2.cell? ⟨w1.heap.size, 0, none⟩ = some (.bool (sg a)) := (S2.box (w1.heap.size, (sg a), .slice aa (L a.natAbs).length ca, L a.natAbs) (by simp)).1
        have cA1 : w2.cell? ⟨w1.heap.size, 1, none⟩ = some (.slice aa (L a.natAbs).length ca) := (S2.box (w1.heap.size, (sg a), .slice aa (L a.natAbs).length ca, L a.natAbs) (by simp)).2.1
        have zA : w1.heap.size < w2.heap.size := (S2.box (w1.heap.size, (sg a), .slice aa (L a.natAbs).length ca, L a.natAbs) (by simp)).2.2.2
        have cB0 : w2.cell? ⟨w1.heap.size + 1, 0, none⟩ = some (.bool (sg a)) := (S2.box (w1.heap.size + 1, (sg a), .slice ab (L a.natAbs).length cb, L a.natAbs) (by simp)).1
        have cB1 : w2.cell? ⟨w1.heap.size + 1, 1, none⟩ = some (.slice ab (L a.natAbs).length cb) := (S2.box (w1.heap.size + 1, (sg a), .slice ab (L a.natAbs).length cb, L a.natAbs) (by simp)).2.1
        have zB : w1.heap.size + 1 < w2.heap.size := (S2.box (w1.heap.size + 1, (sg a), .slice ab (L a.natAbs).length cb, L a.natAbs) (by simp)).2.2.2
        clear k1
        go_wp2_with fail
        refine (unhide CS _ _ _ (S2.box (w1.heap.size, (sg a), .slice aa (L a.natAbs).length ca, L a.natAbs) (by simp)).2.2.1 (S2.box (w1.heap.size + 1, (sg a), .slice ab (L a.natAbs).length cb, L a.natAbs) (by simp)).2.2.1).mono ?_
        rintro e w3 ⟨rfl, k2⟩
        have S3 := S2.later k2
        clear cA0 cA1 zA cB0 cB1 zB
        have cA0 : w3.cell? ⟨w1.heap.size, 0, none⟩ = some (.bool (sg a)) := (S3.box (w1.heap.size, (sg a), .slice aa (L a.natAbs).length ca, L a.natAbs) (by simp)).1
        have cA1 : w3.cell? ⟨w1.heap.size, 1, none⟩ = some (.slice aa (L a.natAbs).length ca) := (S3.box (w1.heap.size, (sg a), .slice aa (L a.natAbs).length ca, L a.natAbs) (by simp)).2.1
        have zA : w1.heap.size < w3.heap.size := (S3.box (w1.heap.size, (sg a), .slice aa (L a.natAbs).length ca, L a.natAbs) (by simp)).2.2.2
        have cB0 : w3.cell? ⟨w1.heap.size + 1, 0, none⟩ = some (.bool (sg a)) := (S3.box (w1.heap.size + 1, (sg a), .slice ab (L a.natAbs).length cb, L a.natAbs) (by simp)).1
        have cB1 : w3.cell? ⟨w1.heap.size + 1, 1, none⟩ = some (.slice ab (L a.natAbs).length cb) := (S3.box (w1.heap.size + 1, (sg a), .slice ab (L a.natAbs).length cb, L a.natAbs) (by simp)).2.1
        have zB : w1.heap.size + 1 < w3.heap.size := (S3.box (w1.heap.size + 1, (sg a), .slice ab (L a.natAbs).length cb, L a.natAbs) (by simp)).2.2.2
        clear k2
        go_wp2_with fail
        refine (unhide CX _ _ _ (S3.box (w1.heap.size, (sg a), .slice aa (L a.natAbs).length ca, L a.natAbs) (by simp)).2.2.1 (S3.box (w1.heap.size + 1, (sg a), .slice ab (L a.natAbs).length cb, L a.natAbs) (by simp)).2.2.1).mono ?_
        rintro e w4 ⟨a3, c3, rfl, o3, k3⟩
        have S4 := (S3.later k3).add false (.slice a3 (L X.natAbs).length c3) (L X.natAbs) o3.reads
        have R4 := S3.later k3
        simp only [List.nil_append, List.cons_append, World.size_alloc] at S4
        clear cA0 cA1 zA cB0 cB1 zB
        clear o3 k3
        go_wp2_with fail
        refine (unhide CZ _ _ (S4.box (w4.heap.size, false, .slice a3 (L X.natAbs).length c3, L X.natAbs) (by simp)).2.2.1).mono ?_
        rintro e w5 ⟨rfl, k4⟩
        have S5 := S4.later k4
        have cA0 : w5.cell? ⟨w1.heap.size, 0, none⟩ = some (.bool (sg a)) := (S5.box (w1.heap.size, (sg a), .slice aa (L a.natAbs).length ca, L a.natAbs) (by simp)).1
        have cA1 : w5.cell? ⟨w1.heap.size, 1, none⟩ = some (.slice aa (L a.natAbs).length ca) := (S5.box (w1.heap.size, (sg a), .slice aa (L a.natAbs).length ca, L a.natAbs) (by simp)).2.1
        have zA : w1.heap.size < w5.heap.size := (S5.box (w1.heap.size, (sg a), .slice aa (L a.natAbs).length ca, L a.natAbs) (by simp)).2.2.2
        have cB0 : w5.cell? ⟨w1.heap.size + 1, 0, none⟩ = some (.bool (sg a)) := (S5.box (w1.heap.size + 1, (sg a), .slice ab (L a.natAbs).length cb, L a.natAbs) (by simp)).1
        have cB1 : w5.cell? ⟨w1.heap.size + 1, 1, none⟩ = some (.slice ab (L a.natAbs).length cb) := (S5.box (w1.heap.size + 1, (sg a), .slice ab (L a.natAbs).length cb, L a.natAbs) (by simp)).2.1
        have zB : w1.heap.size + 1 < w5.heap.size := (S5.box (w1.heap.size + 1, (sg a), .slice ab (L a.natAbs).length cb, L a.natAbs) (by simp)).2.2.2
        clear k4
        go_wp2_with fail
        refine (unhide CT _ _ _ (S5.box (w1.heap.size + 1, (sg a), .slice ab (L a.natAbs).length cb, L a.natAbs) (by simp)).2.2.1 (S5.box (w1.heap.size, (sg a), .slice aa (L a.natAbs).length ca, L a.natAbs) (by simp)).2.2.1).mono ?_
        rintro e w6 ⟨rfl, k5⟩
        have S6 := S5.later k5
        clear cA0 cA1 zA cB0 cB1 zB
        have cA0 : w6.cell? ⟨w1.heap.size, 0, none⟩ = some (.bool (sg a)) := (S6.box (w1.heap.size, (sg a), .slice aa (L a.natAbs).length ca, L a.natAbs) (by simp)).1
        have cA1 : w6.cell? ⟨w1.heap.size, 1, none⟩ = some (.slice aa (L a.natAbs).length ca) := (S6.box (w1.heap.size, (sg a), .slice aa (L a.natAbs).length ca, L a.natAbs) (by simp)).2.1
        have zA : w1.heap.size < w6.heap.size := (S6.box (w1.heap.size, (sg a), .slice aa (L a.natAbs).length ca, L a.natAbs) (by simp)).2.2.2
        clear k5
        go_wp2_with fail
        refine (unhide CA _ _ _ (S6.box (w1.heap.size, (sg a), .slice aa (L a.natAbs).length ca, L a.natAbs) (by simp)).2.2.1 (S6.box (w1.heap.size, (sg a), .slice aa (L a.natAbs).length ca, L a.natAbs) (by simp)).2.2.1).mono ?_
        rintro e w7 ⟨rfl, k6⟩
        have S7 := S6.later k6
        clear cA0 cA1 zA
        clear k6
        go_wp2
        go_ret
        exact ⟨rfl, S7.below⟩
      · rw [ho] at CX
        clear ho hsg
        generalize a - a = X at *
        go_wp2_with fail
        refine (unhide CI _ _ _ (S1.box (w1.heap.size, (sg a), .slice aa (L a.natAbs).length ca, L a.natAbs) (by simp)).2.2.1 (S1.box (w1.heap.size + 1, (sg a), .slice ab (L a.natAbs).length cb, L a.natAbs) (by simp)).2.2.1).mono ?_
        rintro e w2 ⟨rfl, k1⟩
        have S2 := S1.later k1
        have cA0 : w2.cell? ⟨w1.heap.size, 0, none⟩ = some (.bool (sg a)) := (S2.box (w1.heap.size, (sg a), .slice aa (L a.natAbs).length ca, L a.natAbs) (by simp)).1
        have cA1 : w2.cell? ⟨w1.heap.size, 1, none⟩ = some (.slice aa (L a.natAbs).length ca) := (S2.box (w1.heap.size, (sg a), .slice aa (L a.natAbs).length ca, L a.natAbs) (by simp)).2.1
        have zA : w1.heap.size < w2.heap.size := (S2.box (w1.heap.size, (sg a), .slice aa (L a.natAbs).length ca, L a.natAbs) (by simp)).2.2.2
        have cB0 : w2.cell? ⟨w1.heap.size + 1, 0, none⟩ = some (.bool (sg a)) := (S2.box (w1.heap.size + 1, (sg a), .slice ab (L a.natAbs).length cb, L a.natAbs) (by simp)).1
        have cB1 : w2.cell? ⟨w1.heap.size + 1, 1, none⟩ = some (.slice ab (L a.natAbs).length cb) := (S2.box (w1.heap.size + 1, (sg a), .slice ab (L a.natAbs).length cb, L a.natAbs) (by simp)).2.1
        have zB : w1.heap.size + 1 < w2.heap.size := (S2.box (w1.heap.size + 1, (sg a), .slice ab (L a.natAbs).length cb, L a.natAbs) (by simp)).2.2.2
        clear k1
        go_wp2_with fail
        refine (unhide CS _ _ _ (S2.box (w1.heap.size, (sg a), .slice aa (L a.natAbs).length ca, L a.natAbs) (by simp)).2.2.1 (S2.box (w1.heap.size + 1, (sg a), .slice ab (L a.natAbs).length cb, L a.natAbs) (by simp)).2.2.1).mono ?_
        rintro e w3 ⟨rfl, k2⟩
        have S3 := S2.later k2
        clear cA0 cA1 zA cB0 cB1 zB
        have cA0 : w3.cell? ⟨w1.heap.size, 0, none⟩ = some (.bool (sg a)) := (S3.box (w1.heap.size, (sg a), .slice aa (L a.natAbs).length ca, L a.natAbs) (by simp)).1
        have cA1 : w3.cell? ⟨w1.heap.size, 1, none⟩ = some (.slice aa (L a.natAbs).length ca) := (S3.box (w1.heap.size, (sg a), .slice aa (L a.natAbs).length ca, L a.natAbs) (by simp)).2.1
        have zA : w1.heap.size < w3.heap.size := (S3.box (w1.heap.size, (sg a), .slice aa (L a.natAbs).length ca, L a.natAbs) (by simp)).2.2.2
        have cB0 : w3.cell? ⟨w1.heap.size + 1, 0, none⟩ = some (.bool (sg a)) := (S3.box (w1.heap.size + 1, (sg a), .slice ab (L a.natAbs).length cb, L a.natAbs) (by simp)).1
        have cB1 : w3.cell? ⟨w1.heap.size + 1, 1, none⟩ = some (.slice ab (L a.natAbs).length cb) := (S3.box (w1.heap.size + 1, (sg a), .slice ab (L a.natAbs).length cb, L a.natAbs) (by simp)).2.1
        have zB : w1.heap.size + 1 < w3.heap.size := (S3.box (w1.heap.size + 1, (sg a), .slice ab (L a.natAbs).length cb, L a.natAbs) (by simp)).2.2.2
        clear k2
        go_wp2_with fail
        refine (unhide CX _ _ _ (S3.box (w1.heap.size, (sg a), .slice aa (L a.natAbs).length ca, L a.natAbs) (by simp)).2.2.1 (S3.box (w1.heap.size + 1, (sg a), .slice ab (L a.natAbs).length cb, L a.natAbs) (by simp)).2.2.1).mono ?_
        rintro e w4 ⟨a3, c3, rfl, o3, k3⟩
        have S4 := (S3.later k3).add false (.slice a3 (([] : List Int)).length c3) (([] : List Int)) o3.reads
        have R4 := S3.later k3
        simp only [List.nil_append, List.cons_append, World.size_alloc] at S4
        clear cA0 cA1 zA cB0 cB1 zB
        have cA0 : w4.cell? ⟨w1.heap.size, 0, none⟩ = some (.bool (sg a)) := (R4.box (w1.heap.size, (sg a), .slice aa (L a.natAbs).length ca, L a.natAbs) (by simp)).1
        have cA1 : w4.cell? ⟨w1.heap.size, 1, none⟩ = some (.slice aa (L a.natAbs).length ca) := (R4.box (w1.heap.size, (sg a), .slice aa (L a.natAbs).length ca, L a.natAbs) (by simp)).2.1
        have zA : w1.heap.size < w4.heap.size := (R4.box (w1.heap.size, (sg a), .slice aa (L a.natAbs).length ca, L a.natAbs) (by simp)).2.2.2
        have cB0 : w4.cell? ⟨w1.heap.size + 1, 0, none⟩ = some (.bool (sg a)) := (R4.box (w1.heap.size + 1, (sg a), .slice ab (L a.natAbs).length cb, L a.natAbs) (by simp)).1
        have cB1 : w4.cell? ⟨w1.heap.size + 1, 1, none⟩ = some (.slice ab (L a.natAbs).length cb) := (R4.box (w1.heap.size + 1, (sg a), .slice ab (L a.natAbs).length cb, L a.natAbs) (by simp)).2.1
        have zB : w1.heap.size + 1 < w4.heap.size := (R4.box (w1.heap.size + 1, (sg a), .slice ab (L a.natAbs).length cb, L a.natAbs) (by simp)).2.2.2
        clear o3 k3
        go_wp2_with fail
        refine (unhide CT _ _ _ (S4.box (w1.heap.size + 1, (sg a), .slice ab (L a.natAbs).length cb, L a.natAbs) (by simp)).2.2.1 (S4.box (w1.heap.size, (sg a), .slice aa (L a.natAbs).length ca, L a.natAbs) (by simp)).2.2.1).mono ?_
        rintro e w5 ⟨rfl, k4⟩
        have S5 := S4.later k4
        clear cA0 cA1 zA cB0 cB1 zB
        have cA0 : w5.cell? ⟨w1.heap.size, 0, none⟩ = some (.bool (sg a)) := (S5.box (w1.heap.size, (sg a), .slice aa (L a.natAbs).length ca, L a.natAbs) (by simp)).1
        have cA1 : w5.cell? ⟨w1.heap.size, 1, none⟩ = some (.slice aa (L a.natAbs).length ca) := (S5.box (w1.heap.size, (sg a), .slice aa (L a.natAbs).length ca, L a.natAbs) (by simp)).2.1
        have zA : w1.heap.size < w5.heap.size := (S5.box (w1.heap.size, (sg a), .slice aa (L a.natAbs).length ca, L a.natAbs) (by simp)).2.2.2
        clear k4
        go_wp2_with fail
        refine (unhide CA _ _ _ (S5.box (w1.heap.size, (sg a), .slice aa (L a.natAbs).length ca, L a.natAbs) (by simp)).2.2.1 (S5.box (w1.heap.size, (sg a), .slice aa (L a.natAbs).length ca, L a.natAbs) (by simp)).2.2.1).mono ?_
        rintro e w6 ⟨rfl, k5⟩
        have S6 := S5.later k5
        clear cA0 cA1 zA
        clear k5
        go_wp2
        go_ret
        exact ⟨rfl, S6.below⟩
    · rw [cmpZ_gt hc] at CI CS
      rw [cmpZ_lt hc] at CT
      have hsg : sg (a - b) = false := by unfold sg; simp; omega
      have CZ := hide (fun (W : World) (u : Value) (hu : Reads W u (L (a - b).natAbs)) => jtZero_z W (a - b) u hu)
      rw [hsg, decide_eq_false (show ¬ (a - b = 0) by omega)] at CZ
      rcases out_cases (a - b) with ⟨ho, hf⟩ | ho
      · rw [ho] at CX
        rw [hsg] at CX
        clear ho hsg hf hc
        generalize a - b = X at *
        go_wp2_with fail
        refine (unhide CI _ _ _ (S1.box (w1.heap.size, (sg a), .slice aa (L a.natAbs).length ca, L a.natAbs) (by simp)).2.2.1 (S1.box (w1.heap.size + 1, (sg b), .slice ab (L b.natAbs).length cb, L b.natAbs) (by simp)).2.2.1).mono ?_
        rintro e w2 ⟨rfl, k1⟩
        have S2 := S1.later k1
        have cA0 : w2.cell? ⟨w1.heap.size, 0, none⟩ = some (.bool (sg a)) := (S2.box (w1.heap.size, (sg a), .slice aa (L a.natAbs).length ca, L a.natAbs) (by simp)).1
        have cA1 : w2.cell? ⟨w1.heap.size, 1, none⟩ = some (.slice aa (L a.natAbs).length ca) := (S2.box (w1.heap.size, (sg a), .slice aa (L a.natAbs).length ca, L a.natAbs) (by simp)).2.1
        have zA : w1.heap.size < w2.heap.size := (S2.box (w1.heap.size, (sg a), .slice aa (L a.natAbs).length ca, L a.natAbs) (by simp)).2.2.2
        have cB0 : w2.cell? ⟨w1.heap.size + 1, 0, none⟩ = some (.bool (sg b)) := (S2.box (w1.heap.size + 1, (sg b), .slice ab (L b.natAbs).length cb, L b.natAbs) (by simp)).1
        have cB1 : w2.cell? ⟨w1.heap.size + 1, 1, none⟩ = some (.slice ab (L b.natAbs).length cb) := (S2.box (w1.heap.size + 1, (sg b), .slice ab (L b.natAbs).length cb, L b.natAbs) (by simp)).2.1
        have zB : w1.heap.size + 1 < w2.heap.size := (S2.box (w1.heap.size + 1, (sg b), .slice ab (L b.natAbs).length cb, L b.natAbs) (by simp)).2.2.2
        clear k1
        go_wp2_with fail
        refine (unhide CS _ _ _ (S2.box (w1.heap.size, (sg a), .slice aa (L a.natAbs).length ca, L a.natAbs) (by simp)).2.2.1 (S2.box (w1.heap.size + 1, (sg b), .slice ab (L b.natAbs).length cb, L b.natAbs) (by simp)).2.2.1).mono ?_
        rintro e w3 ⟨rfl, k2⟩
        have S3 := S2.later k2
        clear cA0 cA1 zA cB0 cB1 zB
        have cA0 : w3.cell? ⟨w1.heap.size, 0, none⟩ = some (.bool (sg a)) := (S3.box (w1.heap.size, (sg a), .slice aa (L a.natAbs).length ca, L a.natAbs) (by simp)).1
        have cA1 : w3.cell? ⟨w1.heap.size, 1, none⟩ = some (.slice aa (L a.natAbs).length ca) := (S3.box (w1.heap.size, (sg a), .slice aa (L a.natAbs).length ca, L a.natAbs) (by simp)).2.1
        have zA : w1.heap.size < w3.heap.size := (S3.box (w1.heap.size, (sg a), .slice aa (L a.natAbs).length ca, L a.natAbs) (by simp)).2.2.2
        have cB0 : w3.cell? ⟨w1.heap.size + 1, 0, none⟩ = some (.bool (sg b)) := (S3.box (w1.heap.size + 1, (sg b), .slice ab (L b.natAbs).length cb, L b.natAbs) (by simp)).1
        have cB1 : w3.cell? ⟨w1.heap.size + 1, 1, none⟩ = some (.slice ab (L b.natAbs).length cb) := (S3.box (w1.heap.size + 1, (sg b), .slice ab (L b.natAbs).length cb, L b.natAbs) (by simp)).2.1
        have zB : w1.heap.size + 1 < w3.heap.size := (S3.box (w1.heap.size + 1, (sg b), .slice ab (L b.natAbs).length cb, L b.natAbs) (by simp)).2.2.2
        clear k2
        go_wp2_with fail
        refine (unhide CX _ _ _ (S3.box (w1.heap.size, (sg a), .slice aa (L a.natAbs).length ca, L a.natAbs) (by simp)).2.2.1 (S3.box (w1.heap.size + 1, (sg b), .slice ab (L b.natAbs).length cb, L b.natAbs) (by simp)).2.2.1).mono ?_
        rintro e w4 ⟨a3, c3, rfl, o3, k3⟩
        have S4 := (S3.later k3).add false (.slice a3 (L X.natAbs).length c3) (L X.natAbs) o3.reads
        have R4 := S3.later k3
        simp only [List.nil_append, List.cons_append, World.size_alloc] at S4
        clear cA0 cA1 zA cB0 cB1 zB
        clear o3 k3
        go_wp2_with fail
        refine (unhide CZ _ _ (S4.box (w4.heap.size, false, .slice a3 (L X.natAbs).length c3, L X.natAbs) (by simp)).2.2.1).mono ?_
        rintro e w5 ⟨rfl, k4⟩
        have S5 := S4.later k4
        have cA0 : w5.cell? ⟨w1.heap.size, 0, none⟩ = some (.bool (sg a)) := (S5.box (w1.heap.size, (sg a), .slice aa (L a.natAbs).length ca, L a.natAbs) (by simp)).1
        have cA1 : w5.cell? ⟨w1.heap.size, 1, none⟩ = some (.slice aa (L a.natAbs).length ca) := (S5.box (w1.heap.size, (sg a), .slice aa (L a.natAbs).length ca, L a.natAbs) (by simp)).2.1
        have zA : w1.heap.size < w5.heap.size := (S5.box (w1.heap.size, (sg a), .slice aa (L a.natAbs).length ca, L a.natAbs) (by simp)).2.2.2
        have cB0 : w5.cell? ⟨w1.heap.size + 1, 0, none⟩ = some (.bool (sg b)) := (S5.box (w1.heap.size + 1, (sg b), .slice ab (L b.natAbs).length cb, L b.natAbs) (by simp)).1
        have cB1 : w5.cell? ⟨w1.heap.size + 1, 1, none⟩ = some (.slice ab (L b.natAbs).length cb) := (S5.box (w1.heap.size + 1, (sg b), .slice ab (L b.natAbs).length cb, L b.natAbs) (by simp)).2.1
        have zB : w1.heap.size + 1 < w5.heap.size := (S5.box (w1.heap.size + 1, (sg b), .slice ab (L b.natAbs).length cb, L b.natAbs) (by simp)).2.2.2
        clear k4
        go_wp2_with fail
        refine (unhide CT _ _ _ (S5.box (w1.heap.size + 1, (sg b), .slice ab (L b.natAbs).length cb, L b.natAbs) (by simp)).2.2.1 (S5.box (w1.heap.size, (sg a), .slice aa (L a.natAbs).length ca, L a.natAbs) (by simp)).2.2.1).mono ?_
        rintro e w6 ⟨rfl, k5⟩
        have S6 := S5.later k5
        clear cA0 cA1 zA cB0 cB1 zB
        have cA0 : w6.cell? ⟨w1.heap.size, 0, none⟩ = some (.bool (sg a)) := (S6.box (w1.heap.size, (sg a), .slice aa (L a.natAbs).length ca, L a.natAbs) (by simp)).1
        have cA1 : w6.cell? ⟨w1.heap.size, 1, none⟩ = some (.slice aa (L a.natAbs).length ca) := (S6.box (w1.heap.size, (sg a), .slice aa (L a.natAbs).length ca, L a.natAbs) (by simp)).2.1
        have zA : w1.heap.size < w6.heap.size := (S6.box (w1.heap.size, (sg a), .slice aa (L a.natAbs).length ca, L a.natAbs) (by simp)).2.2.2
        clear k5
        go_wp2_with fail
        refine (unhide CA _ _ _ (S6.box (w1.heap.size, (sg a), .slice aa (L a.natAbs).length ca, L a.natAbs) (by simp)).2.2.1 (S6.box (w1.heap.size, (sg a), .slice aa (L a.natAbs).length ca, L a.natAbs) (by simp)).2.2.1).mono ?_
        rintro e w7 ⟨rfl, k6⟩
        have S7 := S6.later k6
        clear cA0 cA1 zA
        clear k6
        go_wp2
        go_ret
        exact ⟨rfl, S7.below⟩
      · rw [ho] at CX
        clear ho hsg hc
        generalize a - b = X at *
        go_wp2_with fail
        refine (unhide CI _ _ _ (S1.box (w1.heap.size, (sg a), .slice aa (L a.natAbs).length ca, L a.natAbs) (by simp)).2.2.1 (S1.box (w1.heap.size + 1, (sg b), .slice ab (L b.natAbs).length cb, L b.natAbs) (by simp)).2.2.1).mono ?_
        rintro e w2 ⟨rfl, k1⟩
        have S2 := S1.later k1
        have cA0 : w2.cell? ⟨w1.heap.size, 0, none⟩ = some (.bool (sg a)) := (S2.box (w1.heap.size, (sg a), .slice aa (L a.natAbs).length ca, L a.natAbs) (by simp)).1
        have cA1 : w2.cell? ⟨w1.heap.size, 1, none⟩ = some (.slice aa (L a.natAbs).length ca) := (S2.box (w1.heap.size, (sg a), .slice aa (L a.natAbs).length ca, L a.natAbs) (by simp)).2.1
        have zA : w1.heap.size < w2.heap.size := (S2.box (w1.heap.size, (sg a), .slice aa (L a.natAbs).length ca, L a.natAbs) (by simp)).2.2.2
        have cB0 : w2.cell? ⟨w1.heap.size + 1, 0, none⟩ = some (.bool (sg b)) := (S2.box (w1.heap.size + 1, (sg b), .slice ab (L b.natAbs).length cb, L b.natAbs) (by simp)).1
        have cB1 : w2.cell? ⟨w1.heap.size + 1, 1, none⟩ = some (.slice ab (L b.natAbs).length cb) := (S2.box (w1.heap.size + 1, (sg b), .slice ab (L b.natAbs).length cb, L b.natAbs) (by simp)).2.1
        have zB : w1.heap.size + 1 < w2.heap.size := (S2.box (w1.heap.size + 1, (sg b), .slice ab (L b.natAbs).length cb, L b.natAbs) (by simp)).2.2.2
        clear k1
        go_wp2_with fail
        refine (unhide CS _ _ _ (S2.box (w1.heap.size, (sg a), .slice aa (L a.natAbs).length ca, L a.natAbs) (by simp)).2.2.1 (S2.box (w1.heap.size + 1, (sg b), .slice ab (L b.natAbs).length cb, L b.natAbs) (by simp)).2.2.1).mono ?_
        rintro e w3 ⟨rfl, k2⟩
        have S3 := S2.later k2
        clear cA0 cA1 zA cB0 cB1 zB
        have cA0 : w3.cell? ⟨w1.heap.size, 0, none⟩ = some (.bool (sg a)) := (S3.box (w1.heap.size, (sg a), .slice aa (L a.natAbs).length ca, L a.natAbs) (by simp)).1
        have cA1 : w3.cell? ⟨w1.heap.size, 1, none⟩ = some (.slice aa (L a.natAbs).length ca) := (S3.box (w1.heap.size, (sg a), .slice aa (L a.natAbs).length ca, L a.natAbs) (by simp)).2.1
        have zA : w1.heap.size < w3.heap.size := (S3.box (w1.heap.size, (sg a), .slice aa (L a.natAbs).length ca, L a.natAbs) (by simp)).2.2.2
        have cB0 : w3.cell? ⟨w1.heap.size + 1, 0, none⟩ = some (.bool (sg b)) := (S3.box (w1.heap.size + 1, (sg b), .slice ab (L b.natAbs).length cb, L b.natAbs) (by simp)).1
        have cB1 : w3.cell? ⟨w1.heap.size + 1, 1, none⟩ = some (.slice ab (L b.natAbs).length cb) := (S3.box (w1.heap.size + 1, (sg b), .slice ab (L b.natAbs).length cb, L b.natAbs) (by simp)).2.1
        have zB : w1.heap.size + 1 < w3.heap.size := (S3.box (w1.heap.size + 1, (sg b), .slice ab (L b.natAbs).length cb, L b.natAbs) (by simp)).2.2.2
        clear k2
        go_wp2_with fail
        refine (unhide CX _ _ _ (S3.box (w1.heap.size, (sg a), .slice aa (L a.natAbs).length ca, L a.natAbs) (by simp)).2.2.1 (S3.box (w1.heap.size + 1, (sg b), .slice ab (L b.natAbs).length cb, L b.natAbs) (by simp)).2.2.1).mono ?_
        rintro e w4 ⟨a3, c3, rfl, o3, k3⟩
        have S4 := (S3.later k3).add false (.slice a3 (([] : List Int)).length c3) (([] : List Int)) o3.reads
        have R4 := S3.later k3
        simp only [List.nil_append, List.cons_append, World.size_alloc] at S4
        clear cA0 cA1 zA cB0 cB1 zB
        have cA0 : w4.cell? ⟨w1.heap.size, 0, none⟩ = some (.bool (sg a)) := (R4.box (w1.heap.size, (sg a), .slice aa (L a.natAbs).length ca, L a.natAbs) (by simp)).1
        have cA1 : w4.cell? ⟨w1.heap.size, 1, none⟩ = some (.slice aa (L a.natAbs).length ca) := (R4.box (w1.heap.size, (sg a), .slice aa (L a.natAbs).length ca, L a.natAbs) (by simp)).2.1
        have zA : w1.heap.size < w4.heap.size := (R4.box (w1.heap.size, (sg a), .slice aa (L a.natAbs).length ca, L a.natAbs) (by simp)).2.2.2
        have cB0 : w4.cell? ⟨w1.heap.size + 1, 0, none⟩ = some (.bool (sg b)) := (R4.box (w1.heap.size + 1, (sg b), .slice ab (L b.natAbs).length cb, L b.natAbs) (by simp)).1
        have cB1 : w4.cell? ⟨w1.heap.size + 1, 1, none⟩ = some (.slice ab (L b.natAbs).length cb) := (R4.box (w1.heap.size + 1, (sg b), .slice ab (L b.natAbs).length cb, L b.natAbs) (by simp)).2.1
        have zB : w1.heap.size + 1 < w4.heap.size := (R4.box (w1.heap.size + 1, (sg b), .slice ab (L b.natAbs).length cb, L b.natAbs) (by simp)).2.2.2
        clear o3 k3
        go_wp2_with fail
        refine (unhide CT _ _ _ (S4.box (w1.heap.size + 1, (sg b), .slice ab (L b.natAbs).length cb, L b.natAbs) (by simp)).2.2.1 (S4.box (w1.heap.size, (sg a), .slice aa (L a.natAbs).length ca, L a.natAbs) (by simp)).2.2.1).mono ?_
        rintro e w5 ⟨rfl, k4⟩
        have S5 := S4.later k4
        clear cA0 cA1 zA cB0 cB1 zB
        have cA0 : w5.cell? ⟨w1.heap.size, 0, none⟩ = some (.bool (sg a)) := (S5.box (w1.heap.size, (sg a), .slice aa (L a.natAbs).length ca, L a.natAbs) (by simp)).1
        have cA1 : w5.cell? ⟨w1.heap.size, 1, none⟩ = some (.slice aa (L a.natAbs).length ca) := (S5.box (w1.heap.size, (sg a), .slice aa (L a.natAbs).length ca, L a.natAbs) (by simp)).2.1
        have zA : w1.heap.size < w5.heap.size := (S5.box (w1.heap.size, (sg a), .slice aa (L a.natAbs).length ca, L a.natAbs) (by simp)).2.2.2
        clear k4
        go_wp2_with fail
        refine (unhide CA _ _ _ (S5.box (w1.heap.size, (sg a), .slice aa (L a.natAbs).length ca, L a.natAbs) (by simp)).2.2.1 (S5.box (w1.heap.size, (sg a), .slice aa (L a.natAbs).length ca, L a.natAbs) (by simp)).2.2.1).mono ?_
        rintro e w6 ⟨rfl, k5⟩
        have S6 := S5.later k5
        clear cA0 cA1 zA
        clear k5
        go_wp2
        go_ret
        exact ⟨rfl, S6.below⟩
  · have CI := hide (fun (W : World) (u v : Value) (hu : Reads W u l) (hv : Reads W v m) => implBigCmp_any W p q u v l m hu hv)
    have CS := hide (fun (W : World) (u v : Value) (hu : Reads W u l) (hv : Reads W v m) => specBigCmp_any W p q u v l m hu hv)
    rw [cmpR_no hok] at CI CS
    clear hok
    go_wp2_with fail
    refine (unhide CI _ _ _ (S1.box (w1.heap.size, p, .slice aa (l).length ca, l) (by simp)).2.2.1 (S1.box (w1.heap.size + 1, q, .slice ab (m).length cb, m) (by simp)).2.2.1).mono ?_
    rintro e w2 ⟨rfl, k1⟩
    have S2 := S1.later k1
    have cA0 : w2.cell? ⟨w1.heap.size, 0, none⟩ = some (.bool p) := (S2.box (w1.heap.size, p, .slice aa (l).length ca, l) (by simp)).1
    have cA1 : w2.cell? ⟨w1.heap.size, 1, none⟩ = some (.slice aa (l).length ca) := (S2.box (w1.heap.size, p, .slice aa (l).length ca, l) (by simp)).2.1
    have zA : w1.heap.size < w2.heap.size := (S2.box (w1.heap.size, p, .slice aa (l).length ca, l) (by simp)).2.2.2
    have cB0 : w2.cell? ⟨w1.heap.size + 1, 0, none⟩ = some (.bool q) := (S2.box (w1.heap.size + 1, q, .slice ab (m).length cb, m) (by simp)).1
    have cB1 : w2.cell? ⟨w1.heap.size + 1, 1, none⟩ = some (.slice ab (m).length cb) := (S2.box (w1.heap.size + 1, q, .slice ab (m).length cb, m) (by simp)).2.1
    have zB : w1.heap.size + 1 < w2.heap.size := (S2.box (w1.heap.size + 1, q, .slice ab (m).length cb, m) (by simp)).2.2.2
    clear k1
    go_wp2_with fail
    refine (unhide CS _ _ _ (S2.box (w1.heap.size, p, .slice aa (l).length ca, l) (by simp)).2.2.1 (S2.box (w1.heap.size + 1, q, .slice ab (m).length cb, m) (by simp)).2.2.1).mono ?_
    rintro e w3 ⟨rfl, k2⟩
    have S3 := S2.later k2
    clear cA0 cA1 zA cB0 cB1 zB
    have cA0 : w3.cell? ⟨w1.heap.size, 0, none⟩ = some (.bool p) := (S3.box (w1.heap.size, p, .slice aa (l).length ca, l) (by simp)).1
    have cA1 : w3.cell? ⟨w1.heap.size, 1, none⟩ = some (.slice aa (l).length ca) := (S3.box (w1.heap.size, p, .slice aa (l).length ca, l) (by simp)).2.1
    have zA : w1.heap.size < w3.heap.size := (S3.box (w1.heap.size, p, .slice aa (l).length ca, l) (by simp)).2.2.2
    have cB0 : w3.cell? ⟨w1.heap.size + 1, 0, none⟩ = some (.bool q) := (S3.box (w1.heap.size + 1, q, .slice ab (m).length cb, m) (by simp)).1
    have cB1 : w3.cell? ⟨w1.heap.size + 1, 1, none⟩ = some (.slice ab (m).length cb) := (S3.box (w1.heap.size + 1, q, .slice ab (m).length cb, m) (by simp)).2.1
    have zB : w1.heap.size + 1 < w3.heap.size := (S3.box (w1.heap.size + 1, q, .slice ab (m).length cb, m) (by simp)).2.2.2
    clear k2
    go_wp2_with fail
    refine (unhide CS _ _ _ (S3.box (w1.heap.size, p, .slice aa (l).length ca, l) (by simp)).2.2.1 (S3.box (w1.heap.size + 1, q, .slice ab (m).length cb, m) (by simp)).2.2.1).mono ?_
    rintro e w4 ⟨rfl, k3⟩
    have S4 := S3.later k3
    clear cA0 cA1 zA cB0 cB1 zB
    clear k3
    go_wp2
    go_ret
    exact ⟨rfl, S4.below⟩

end Go.Proofs.Ytfogbmjcjgnpeaa
