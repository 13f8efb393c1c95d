/- The law FnBigCmpThree: its walk. -/
import Derived.Test.YtfemobaoedccoaaNumO
import Derived.Test.YtfemobaoedccoaaDrCmp
import Derived.Test.YtfemobaoedccoaaPSt
import Derived.Test.YtfemobaoedccoaaCmpB
import Derived.Test.YtfemobaoedccoaaByt1
namespace Go.Proofs.Ytfemobaoedccoaa
open Go.RowKit
set_option linter.unusedSimpArgs false

theorem cmpR_z3 {a b : Int} (ha : (L a.natAbs).length ≤ 16) (hb : (L b.natAbs).length ≤ 16) : cmpR (sg a) (L a.natAbs) (sg b) (L b.natAbs) = cmpZ a b := by
  unfold cmpR
  rw [if_pos ⟨okB_z ha, okB_z hb⟩, zv_z, zv_z]
theorem cmpR_two {p q : Bool} {l m : List Int} (h : ¬ (cmpR p l q m = 2)) : okB p l = true ∧ okB q m = true := by
  by_cases k : okB p l = true ∧ okB q m = true
  · exact k
  · exact absurd (by unfold cmpR; rw [if_neg k]) h

set_option maxHeartbeats 4000000 in
set_option maxRecDepth 100000 in
theorem xBigCmpThree_walk (w : World) (u v : Value) (hu : Byt w u) (hv : Byt w v) :
    Calls Try.prog 6 #[u, v] w fun e w' => e = .returned (.bool true) ∧ Below w.heap.size w w' := by
  have C0 := hide (drawCmp_any w u hu)
  have C1 := hide (fun (W : World) (b : Below w.heap.size w W) => drawCmp_any W v (hv.later b))
  obtain ⟨ao, n, cap, rfl, hn⟩ := byt_len hu
  obtain ⟨ao', n', cap', rfl, hn'⟩ := byt_len hv
  clear hu hv
  by_cases hl : (1048576 : Int) < n
  · have t0 : decide ((1048576 : Int) < n) = true := by simpa using hl
    go_enter Try.func6, Try.ntmps6
    go_wp2
    go_ret
    exact ⟨rfl, Below.refl _ _⟩
  have t0 : decide ((1048576 : Int) < n) = false := by simpa using hl
  by_cases hl' : (1048576 : Int) < n'
  · have t1 : decide ((1048576 : Int) < n') = true := by simpa using hl'
    go_enter Try.func6, Try.ntmps6
    go_wp2
    go_ret
    exact ⟨rfl, Below.refl _ _⟩
  have t1 : decide ((1048576 : Int) < n') = false := by simpa using hl'
  go_enter Try.func6, Try.ntmps6
  go_wp2_with fail
  refine (unhide C0).mono ?_
  rintro e w1 ⟨p, q, l, m, aa, ca, ab, cb, rfl, hll, hml, oa, ob, b1⟩
  clear C0
  have S1 := ((PS.start b1).add p (.slice aa l.length ca) l oa.reads).add q (.slice ab m.length cb) m (ob.reads.alloc _)
  simp only [List.nil_append, List.cons_append, World.size_alloc] at S1
  clear b1 oa ob
  go_wp2_with fail
  refine (unhide C1 _ S1.below).mono ?_
  rintro e w2 ⟨r, r', k, k', ac, cc, ad, cd, rfl, hkl, hkl', oc, od, b2⟩
  have R2 := S1.later b2
  have S2 := (R2.add r (.slice ac k.length cc) k oc.reads).add r' (.slice ad k'.length cd) k' (od.reads.alloc _)
  simp only [List.nil_append, List.cons_append, World.size_alloc] at S2
  have HA : w2.cell? ⟨w1.heap.size, 0, none⟩ = some (.bool p) ∧ w2.cell? ⟨w1.heap.size, 1, none⟩ = some (.slice aa l.length ca) ∧ w1.heap.size < w2.heap.size := ⟨(R2.box (w1.heap.size, p, .slice aa l.length ca, l) (by simp)).1, (R2.box (w1.heap.size, p, .slice aa l.length ca, l) (by simp)).2.1, (R2.box (w1.heap.size, p, .slice aa l.length ca, l) (by simp)).2.2.2⟩
  have HB : w2.cell? ⟨w1.heap.size + 1, 0, none⟩ = some (.bool q) ∧ w2.cell? ⟨w1.heap.size + 1, 1, none⟩ = some (.slice ab m.length cb) ∧ w1.heap.size + 1 < w2.heap.size := ⟨(R2.box (w1.heap.size + 1, q, .slice ab m.length cb, m) (by simp)).1, (R2.box (w1.heap.size + 1, q, .slice ab m.length cb, m) (by simp)).2.1, (R2.box (w1.heap.size + 1, q, .slice ab m.length cb, m) (by simp)).2.2.2⟩
  clear b2 oc od C1 R2 S1
  obtain ⟨cA0, cA1, zA⟩ := HA
  obtain ⟨cB0, cB1, zB⟩ := HB
  rcases Classical.em (cmpR p l q m = 2) with hx | hx
  · skip
    have CI := hide (fun (W : World) (u v : Value) (hu : Reads W u (l)) (hv : Reads W v (m)) => implBigCmp_any W p q u v _ _ hu hv)
    have CS := hide (fun (W : World) (u v : Value) (hu : Reads W u (l)) (hv : Reads W v (m)) => specBigCmp_any W p q u v _ _ hu hv)
    have CJ := hide (fun (W : World) (u v : Value) (hu : Reads W u (m)) (hv : Reads W v (k)) => implBigCmp_any W q r u v _ _ hu hv)
    have CT := hide (fun (W : World) (u v : Value) (hu : Reads W u (m)) (hv : Reads W v (k)) => specBigCmp_any W q r u v _ _ hu hv)
    rw [hx] at CI CS
    generalize cmpR q m r k = Y at *
    clear hx
    go_wp2_with fail
    refine (unhide CI _ _ _ (S2.box (w1.heap.size, p, .slice aa (l).length ca, l) (by simp)).2.2.1 (S2.box (w1.heap.size + 1, q, .slice ab (m).length cb, m) (by simp)).2.2.1).mono ?_
    rintro e w3 ⟨rfl, k11⟩
    have S3 := S2.later k11
    clear cA0 cA1 zA cB0 cB1 zB
    have cB0 : w3.cell? ⟨w1.heap.size + 1, 0, none⟩ = some (.bool q) := (S3.box (w1.heap.size + 1, q, .slice ab (m).length cb, m) (by simp)).1
    have cB1 : w3.cell? ⟨w1.heap.size + 1, 1, none⟩ = some (.slice ab (m).length cb) := (S3.box (w1.heap.size + 1, q, .slice ab (m).length cb, m) (by simp)).2.1
    have zB : w1.heap.size + 1 < w3.heap.size := (S3.box (w1.heap.size + 1, q, .slice ab (m).length cb, m) (by simp)).2.2.2
    have cC0 : w3.cell? ⟨w2.heap.size, 0, none⟩ = some (.bool r) := (S3.box (w2.heap.size, r, .slice ac (k).length cc, k) (by simp)).1
    have cC1 : w3.cell? ⟨w2.heap.size, 1, none⟩ = some (.slice ac (k).length cc) := (S3.box (w2.heap.size, r, .slice ac (k).length cc, k) (by simp)).2.1
    have zC : w2.heap.size < w3.heap.size := (S3.box (w2.heap.size, r, .slice ac (k).length cc, k) (by simp)).2.2.2
    clear k11
    go_wp2_with fail
    refine (unhide CJ _ _ _ (S3.box (w1.heap.size + 1, q, .slice ab (m).length cb, m) (by simp)).2.2.1 (S3.box (w2.heap.size, r, .slice ac (k).length cc, k) (by simp)).2.2.1).mono ?_
    rintro e w4 ⟨rfl, k12⟩
    have S4 := S3.later k12
    clear cB0 cB1 zB cC0 cC1 zC
    have cA0 : w4.cell? ⟨w1.heap.size, 0, none⟩ = some (.bool p) := (S4.box (w1.heap.size, p, .slice aa (l).length ca, l) (by simp)).1
    have cA1 : w4.cell? ⟨w1.heap.size, 1, none⟩ = some (.slice aa (l).length ca) := (S4.box (w1.heap.size, p, .slice aa (l).length ca, l) (by simp)).2.1
    have zA : w1.heap.size < w4.heap.size := (S4.box (w1.heap.size, p, .slice aa (l).length ca, l) (by simp)).2.2.2
    have cB0 : w4.cell? ⟨w1.heap.size + 1, 0, none⟩ = some (.bool q) := (S4.box (w1.heap.size + 1, q, .slice ab (m).length cb, m) (by simp)).1
    have cB1 : w4.cell? ⟨w1.heap.size + 1, 1, none⟩ = some (.slice ab (m).length cb) := (S4.box (w1.heap.size + 1, q, .slice ab (m).length cb, m) (by simp)).2.1
    have zB : w1.heap.size + 1 < w4.heap.size := (S4.box (w1.heap.size + 1, q, .slice ab (m).length cb, m) (by simp)).2.2.2
    clear k12
    go_wp2_with fail
    refine (unhide CS _ _ _ (S4.box (w1.heap.size, p, .slice aa (l).length ca, l) (by simp)).2.2.1 (S4.box (w1.heap.size + 1, q, .slice ab (m).length cb, m) (by simp)).2.2.1).mono ?_
    rintro e w5 ⟨rfl, k13⟩
    have S5 := S4.later k13
    clear cA0 cA1 zA cB0 cB1 zB
    have cB0 : w5.cell? ⟨w1.heap.size + 1, 0, none⟩ = some (.bool q) := (S5.box (w1.heap.size + 1, q, .slice ab (m).length cb, m) (by simp)).1
    have cB1 : w5.cell? ⟨w1.heap.size + 1, 1, none⟩ = some (.slice ab (m).length cb) := (S5.box (w1.heap.size + 1, q, .slice ab (m).length cb, m) (by simp)).2.1
    have zB : w1.heap.size + 1 < w5.heap.size := (S5.box (w1.heap.size + 1, q, .slice ab (m).length cb, m) (by simp)).2.2.2
    have cC0 : w5.cell? ⟨w2.heap.size, 0, none⟩ = some (.bool r) := (S5.box (w2.heap.size, r, .slice ac (k).length cc, k) (by simp)).1
    have cC1 : w5.cell? ⟨w2.heap.size, 1, none⟩ = some (.slice ac (k).length cc) := (S5.box (w2.heap.size, r, .slice ac (k).length cc, k) (by simp)).2.1
    have zC : w2.heap.size < w5.heap.size := (S5.box (w2.heap.size, r, .slice ac (k).length cc, k) (by simp)).2.2.2
    clear k13
    go_wp2_with fail
    refine (unhide CT _ _ _ (S5.box (w1.heap.size + 1, q, .slice ab (m).length cb, m) (by simp)).2.2.1 (S5.box (w2.heap.size, r, .slice ac (k).length cc, k) (by simp)).2.2.1).mono ?_
    rintro e w6 ⟨rfl, k14⟩
    have S6 := S5.later k14
    clear cB0 cB1 zB cC0 cC1 zC
    have cA0 : w6.cell? ⟨w1.heap.size, 0, none⟩ = some (.bool p) := (S6.box (w1.heap.size, p, .slice aa (l).length ca, l) (by simp)).1
    have cA1 : w6.cell? ⟨w1.heap.size, 1, none⟩ = some (.slice aa (l).length ca) := (S6.box (w1.heap.size, p, .slice aa (l).length ca, l) (by simp)).2.1
    have zA : w1.heap.size < w6.heap.size := (S6.box (w1.heap.size, p, .slice aa (l).length ca, l) (by simp)).2.2.2
    have cB0 : w6.cell? ⟨w1.heap.size + 1, 0, none⟩ = some (.bool q) := (S6.box (w1.heap.size + 1, q, .slice ab (m).length cb, m) (by simp)).1
    have cB1 : w6.cell? ⟨w1.heap.size + 1, 1, none⟩ = some (.slice ab (m).length cb) := (S6.box (w1.heap.size + 1, q, .slice ab (m).length cb, m) (by simp)).2.1
    have zB : w1.heap.size + 1 < w6.heap.size := (S6.box (w1.heap.size + 1, q, .slice ab (m).length cb, m) (by simp)).2.2.2
    clear k14
    go_wp2_with fail
    refine (unhide CS _ _ _ (S6.box (w1.heap.size, p, .slice aa (l).length ca, l) (by simp)).2.2.1 (S6.box (w1.heap.size + 1, q, .slice ab (m).length cb, m) (by simp)).2.2.1).mono ?_
    rintro e w7 ⟨rfl, k15⟩
    have S7 := S6.later k15
    clear cA0 cA1 zA cB0 cB1 zB
    have cB0 : w7.cell? ⟨w1.heap.size + 1, 0, none⟩ = some (.bool q) := (S7.box (w1.heap.size + 1, q, .slice ab (m).length cb, m) (by simp)).1
    have cB1 : w7.cell? ⟨w1.heap.size + 1, 1, none⟩ = some (.slice ab (m).length cb) := (S7.box (w1.heap.size + 1, q, .slice ab (m).length cb, m) (by simp)).2.1
    have zB : w1.heap.size + 1 < w7.heap.size := (S7.box (w1.heap.size + 1, q, .slice ab (m).length cb, m) (by simp)).2.2.2
    have cC0 : w7.cell? ⟨w2.heap.size, 0, none⟩ = some (.bool r) := (S7.box (w2.heap.size, r, .slice ac (k).length cc, k) (by simp)).1
    have cC1 : w7.cell? ⟨w2.heap.size, 1, none⟩ = some (.slice ac (k).length cc) := (S7.box (w2.heap.size, r, .slice ac (k).length cc, k) (by simp)).2.1
    have zC : w2.heap.size < w7.heap.size := (S7.box (w2.heap.size, r, .slice ac (k).length cc, k) (by simp)).2.2.2
    clear k15
    go_wp2_with fail
    refine (unhide CT _ _ _ (S7.box (w1.heap.size + 1, q, .slice ab (m).length cb, m) (by simp)).2.2.1 (S7.box (w2.heap.size, r, .slice ac (k).length cc, k) (by simp)).2.2.1).mono ?_
    rintro e w8 ⟨rfl, k16⟩
    have S8 := S7.later k16
    clear cB0 cB1 zB cC0 cC1 zC
    clear k16
    go_wp2
    go_ret
    exact ⟨rfl, S8.below⟩
  · rcases Classical.em (cmpR q m r k = 2) with hy | hy
    · skip
      have CI := hide (fun (W : World) (u v : Value) (hu : Reads W u (l)) (hv : Reads W v (m)) => implBigCmp_any W p q u v _ _ hu hv)
      have CS := hide (fun (W : World) (u v : Value) (hu : Reads W u (l)) (hv : Reads W v (m)) => specBigCmp_any W p q u v _ _ hu hv)
      have CJ := hide (fun (W : World) (u v : Value) (hu : Reads W u (m)) (hv : Reads W v (k)) => implBigCmp_any W q r u v _ _ hu hv)
      have CT := hide (fun (W : World) (u v : Value) (hu : Reads W u (m)) (hv : Reads W v (k)) => specBigCmp_any W q r u v _ _ hu hv)
      rw [hy] at CJ CT
      have ex : (cmpR p l q m == 2) = false := by rw [beq_eq_false_iff_ne]; exact hx
      generalize cmpR p l q m = X at *
      clear hx hy
      go_wp2_with fail
      refine (unhide CI _ _ _ (S2.box (w1.heap.size, p, .slice aa (l).length ca, l) (by simp)).2.2.1 (S2.box (w1.heap.size + 1, q, .slice ab (m).length cb, m) (by simp)).2.2.1).mono ?_
      rintro e w3 ⟨rfl, k11⟩
      have S3 := S2.later k11
      clear cA0 cA1 zA cB0 cB1 zB
      have cB0 : w3.cell? ⟨w1.heap.size + 1, 0, none⟩ = some (.bool q) := (S3.box (w1.heap.size + 1, q, .slice ab (m).length cb, m) (by simp)).1
      have cB1 : w3.cell? ⟨w1.heap.size + 1, 1, none⟩ = some (.slice ab (m).length cb) := (S3.box (w1.heap.size + 1, q, .slice ab (m).length cb, m) (by simp)).2.1
      have zB : w1.heap.size + 1 < w3.heap.size := (S3.box (w1.heap.size + 1, q, .slice ab (m).length cb, m) (by simp)).2.2.2
      have cC0 : w3.cell? ⟨w2.heap.size, 0, none⟩ = some (.bool r) := (S3.box (w2.heap.size, r, .slice ac (k).length cc, k) (by simp)).1
      have cC1 : w3.cell? ⟨w2.heap.size, 1, none⟩ = some (.slice ac (k).length cc) := (S3.box (w2.heap.size, r, .slice ac (k).length cc, k) (by simp)).2.1
      have zC : w2.heap.size < w3.heap.size := (S3.box (w2.heap.size, r, .slice ac (k).length cc, k) (by simp)).2.2.2
      clear k11
      go_wp2_with fail
      refine (unhide CJ _ _ _ (S3.box (w1.heap.size + 1, q, .slice ab (m).length cb, m) (by simp)).2.2.1 (S3.box (w2.heap.size, r, .slice ac (k).length cc, k) (by simp)).2.2.1).mono ?_
      rintro e w4 ⟨rfl, k12⟩
      have S4 := S3.later k12
      clear cB0 cB1 zB cC0 cC1 zC
      have cA0 : w4.cell? ⟨w1.heap.size, 0, none⟩ = some (.bool p) := (S4.box (w1.heap.size, p, .slice aa (l).length ca, l) (by simp)).1
      have cA1 : w4.cell? ⟨w1.heap.size, 1, none⟩ = some (.slice aa (l).length ca) := (S4.box (w1.heap.size, p, .slice aa (l).length ca, l) (by simp)).2.1
      have zA : w1.heap.size < w4.heap.size := (S4.box (w1.heap.size, p, .slice aa (l).length ca, l) (by simp)).2.2.2
      have cB0 : w4.cell? ⟨w1.heap.size + 1, 0, none⟩ = some (.bool q) := (S4.box (w1.heap.size + 1, q, .slice ab (m).length cb, m) (by simp)).1
      have cB1 : w4.cell? ⟨w1.heap.size + 1, 1, none⟩ = some (.slice ab (m).length cb) := (S4.box (w1.heap.size + 1, q, .slice ab (m).length cb, m) (by simp)).2.1
      have zB : w1.heap.size + 1 < w4.heap.size := (S4.box (w1.heap.size + 1, q, .slice ab (m).length cb, m) (by simp)).2.2.2
      clear k12
      go_wp2_with fail
      refine (unhide CS _ _ _ (S4.box (w1.heap.size, p, .slice aa (l).length ca, l) (by simp)).2.2.1 (S4.box (w1.heap.size + 1, q, .slice ab (m).length cb, m) (by simp)).2.2.1).mono ?_
      rintro e w5 ⟨rfl, k13⟩
      have S5 := S4.later k13
      clear cA0 cA1 zA cB0 cB1 zB
      have cB0 : w5.cell? ⟨w1.heap.size + 1, 0, none⟩ = some (.bool q) := (S5.box (w1.heap.size + 1, q, .slice ab (m).length cb, m) (by simp)).1
      have cB1 : w5.cell? ⟨w1.heap.size + 1, 1, none⟩ = some (.slice ab (m).length cb) := (S5.box (w1.heap.size + 1, q, .slice ab (m).length cb, m) (by simp)).2.1
      have zB : w1.heap.size + 1 < w5.heap.size := (S5.box (w1.heap.size + 1, q, .slice ab (m).length cb, m) (by simp)).2.2.2
      have cC0 : w5.cell? ⟨w2.heap.size, 0, none⟩ = some (.bool r) := (S5.box (w2.heap.size, r, .slice ac (k).length cc, k) (by simp)).1
      have cC1 : w5.cell? ⟨w2.heap.size, 1, none⟩ = some (.slice ac (k).length cc) := (S5.box (w2.heap.size, r, .slice ac (k).length cc, k) (by simp)).2.1
      have zC : w2.heap.size < w5.heap.size := (S5.box (w2.heap.size, r, .slice ac (k).length cc, k) (by simp)).2.2.2
      clear k13
      go_wp2_with fail
      refine (unhide CT _ _ _ (S5.box (w1.heap.size + 1, q, .slice ab (m).length cb, m) (by simp)).2.2.1 (S5.box (w2.heap.size, r, .slice ac (k).length cc, k) (by simp)).2.2.1).mono ?_
      rintro e w6 ⟨rfl, k14⟩
      have S6 := S5.later k14
      clear cB0 cB1 zB cC0 cC1 zC
      have cA0 : w6.cell? ⟨w1.heap.size, 0, none⟩ = some (.bool p) := (S6.box (w1.heap.size, p, .slice aa (l).length ca, l) (by simp)).1
      have cA1 : w6.cell? ⟨w1.heap.size, 1, none⟩ = some (.slice aa (l).length ca) := (S6.box (w1.heap.size, p, .slice aa (l).length ca, l) (by simp)).2.1
      have zA : w1.heap.size < w6.heap.size := (S6.box (w1.heap.size, p, .slice aa (l).length ca, l) (by simp)).2.2.2
      have cB0 : w6.cell? ⟨w1.heap.size + 1, 0, none⟩ = some (.bool q) := (S6.box (w1.heap.size + 1, q, .slice ab (m).length cb, m) (by simp)).1
      have cB1 : w6.cell? ⟨w1.heap.size + 1, 1, none⟩ = some (.slice ab (m).length cb) := (S6.box (w1.heap.size + 1, q, .slice ab (m).length cb, m) (by simp)).2.1
      have zB : w1.heap.size + 1 < w6.heap.size := (S6.box (w1.heap.size + 1, q, .slice ab (m).length cb, m) (by simp)).2.2.2
      clear k14
      go_wp2_with fail
      refine (unhide CS _ _ _ (S6.box (w1.heap.size, p, .slice aa (l).length ca, l) (by simp)).2.2.1 (S6.box (w1.heap.size + 1, q, .slice ab (m).length cb, m) (by simp)).2.2.1).mono ?_
      rintro e w7 ⟨rfl, k15⟩
      have S7 := S6.later k15
      clear cA0 cA1 zA cB0 cB1 zB
      have cB0 : w7.cell? ⟨w1.heap.size + 1, 0, none⟩ = some (.bool q) := (S7.box (w1.heap.size + 1, q, .slice ab (m).length cb, m) (by simp)).1
      have cB1 : w7.cell? ⟨w1.heap.size + 1, 1, none⟩ = some (.slice ab (m).length cb) := (S7.box (w1.heap.size + 1, q, .slice ab (m).length cb, m) (by simp)).2.1
      have zB : w1.heap.size + 1 < w7.heap.size := (S7.box (w1.heap.size + 1, q, .slice ab (m).length cb, m) (by simp)).2.2.2
      have cC0 : w7.cell? ⟨w2.heap.size, 0, none⟩ = some (.bool r) := (S7.box (w2.heap.size, r, .slice ac (k).length cc, k) (by simp)).1
      have cC1 : w7.cell? ⟨w2.heap.size, 1, none⟩ = some (.slice ac (k).length cc) := (S7.box (w2.heap.size, r, .slice ac (k).length cc, k) (by simp)).2.1
      have zC : w2.heap.size < w7.heap.size := (S7.box (w2.heap.size, r, .slice ac (k).length cc, k) (by simp)).2.2.2
      clear k15
      go_wp2_with fail
      refine (unhide CT _ _ _ (S7.box (w1.heap.size + 1, q, .slice ab (m).length cb, m) (by simp)).2.2.1 (S7.box (w2.heap.size, r, .slice ac (k).length cc, k) (by simp)).2.2.1).mono ?_
      rintro e w8 ⟨rfl, k16⟩
      have S8 := S7.later k16
      clear cB0 cB1 zB cC0 cC1 zC
      clear k16
      go_wp2
      go_ret
      exact ⟨rfl, S8.below⟩
    · obtain ⟨h1, h2⟩ := cmpR_two hx
      obtain ⟨-, h3⟩ := cmpR_two hy
      clear hx hy
      obtain ⟨a, rfl, rfl, ha⟩ : ∃ a : Int, p = sg a ∧ l = L a.natAbs ∧ (L a.natAbs).length ≤ 16 := num_of h1
      obtain ⟨b, rfl, rfl, hb⟩ : ∃ b : Int, q = sg b ∧ m = L b.natAbs ∧ (L b.natAbs).length ≤ 16 := num_of h2
      obtain ⟨c, rfl, rfl, hc⟩ : ∃ c : Int, r = sg c ∧ k = L c.natAbs ∧ (L c.natAbs).length ≤ 16 := num_of h3
      clear h1 h2 h3
      have CI := hide (fun (W : World) (u v : Value) (hu : Reads W u (L a.natAbs)) (hv : Reads W v (L b.natAbs)) => implBigCmp_any W (sg a) (sg b) u v _ _ hu hv)
      have CS := hide (fun (W : World) (u v : Value) (hu : Reads W u (L a.natAbs)) (hv : Reads W v (L b.natAbs)) => specBigCmp_any W (sg a) (sg b) u v _ _ hu hv)
      have CJ := hide (fun (W : World) (u v : Value) (hu : Reads W u (L b.natAbs)) (hv : Reads W v (L c.natAbs)) => implBigCmp_any W (sg b) (sg c) u v _ _ hu hv)
      have CT := hide (fun (W : World) (u v : Value) (hu : Reads W u (L b.natAbs)) (hv : Reads W v (L c.natAbs)) => specBigCmp_any W (sg b) (sg c) u v _ _ hu hv)
      have CK := hide (fun (W : World) (u v : Value) (hu : Reads W u (L a.natAbs)) (hv : Reads W v (L c.natAbs)) => implBigCmp_any W (sg a) (sg c) u v _ _ hu hv)
      rw [cmpR_z3 ha hb] at CI CS
      rw [cmpR_z3 hb hc] at CJ CT
      rw [cmpR_z3 ha hc] at CK
      clear ha hb hc
      rcases Int.lt_trichotomy a b with hx | hx | hx
      · rcases Int.lt_trichotomy b c with hy | hy | hy
        · rw [cmpZ_lt hx] at CI CS
          rw [cmpZ_lt hy] at CJ CT
          rw [cmpZ_lt (show a < c by omega)] at CK
          clear hx hy
          go_wp2_with fail
          refine (unhide CI _ _ _ (S2.box (w1.heap.size, (sg a), .slice aa (L a.natAbs).length ca, L a.natAbs) (by simp)).2.2.1 (S2.box (w1.heap.size + 1, (sg b), .slice ab (L b.natAbs).length cb, L b.natAbs) (by simp)).2.2.1).mono ?_
          rintro e w3 ⟨rfl, k11⟩
          have S3 := S2.later k11
          clear cA0 cA1 zA cB0 cB1 zB
          have cB0 : w3.cell? ⟨w1.heap.size + 1, 0, none⟩ = some (.bool (sg b)) := (S3.box (w1.heap.size + 1, (sg b), .slice ab (L b.natAbs).length cb, L b.natAbs) (by simp)).1
          have cB1 : w3.cell? ⟨w1.heap.size + 1, 1, none⟩ = some (.slice ab (L b.natAbs).length cb) := (S3.box (w1.heap.size + 1, (sg b), .slice ab (L b.natAbs).length cb, L b.natAbs) (by simp)).2.1
          have zB : w1.heap.size + 1 < w3.heap.size := (S3.box (w1.heap.size + 1, (sg b), .slice ab (L b.natAbs).length cb, L b.natAbs) (by simp)).2.2.2
          have cC0 : w3.cell? ⟨w2.heap.size, 0, none⟩ = some (.bool (sg c)) := (S3.box (w2.heap.size, (sg c), .slice ac (L c.natAbs).length cc, L c.natAbs) (by simp)).1
          have cC1 : w3.cell? ⟨w2.heap.size, 1, none⟩ = some (.slice ac (L c.natAbs).length cc) := (S3.box (w2.heap.size, (sg c), .slice ac (L c.natAbs).length cc, L c.natAbs) (by simp)).2.1
          have zC : w2.heap.size < w3.heap.size := (S3.box (w2.heap.size, (sg c), .slice ac (L c.natAbs).length cc, L c.natAbs) (by simp)).2.2.2
          clear k11
          go_wp2_with fail
          refine (unhide CJ _ _ _ (S3.box (w1.heap.size + 1, (sg b), .slice ab (L b.natAbs).length cb, L b.natAbs) (by simp)).2.2.1 (S3.box (w2.heap.size, (sg c), .slice ac (L c.natAbs).length cc, L c.natAbs) (by simp)).2.2.1).mono ?_
          rintro e w4 ⟨rfl, k12⟩
          have S4 := S3.later k12
          clear cB0 cB1 zB cC0 cC1 zC
          have cA0 : w4.cell? ⟨w1.heap.size, 0, none⟩ = some (.bool (sg a)) := (S4.box (w1.heap.size, (sg a), .slice aa (L a.natAbs).length ca, L a.natAbs) (by simp)).1
          have cA1 : w4.cell? ⟨w1.heap.size, 1, none⟩ = some (.slice aa (L a.natAbs).length ca) := (S4.box (w1.heap.size, (sg a), .slice aa (L a.natAbs).length ca, L a.natAbs) (by simp)).2.1
          have zA : w1.heap.size < w4.heap.size := (S4.box (w1.heap.size, (sg a), .slice aa (L a.natAbs).length ca, L a.natAbs) (by simp)).2.2.2
          have cB0 : w4.cell? ⟨w1.heap.size + 1, 0, none⟩ = some (.bool (sg b)) := (S4.box (w1.heap.size + 1, (sg b), .slice ab (L b.natAbs).length cb, L b.natAbs) (by simp)).1
          have cB1 : w4.cell? ⟨w1.heap.size + 1, 1, none⟩ = some (.slice ab (L b.natAbs).length cb) := (S4.box (w1.heap.size + 1, (sg b), .slice ab (L b.natAbs).length cb, L b.natAbs) (by simp)).2.1
          have zB : w1.heap.size + 1 < w4.heap.size := (S4.box (w1.heap.size + 1, (sg b), .slice ab (L b.natAbs).length cb, L b.natAbs) (by simp)).2.2.2
          clear k12
          go_wp2_with fail
          refine (unhide CS _ _ _ (S4.box (w1.heap.size, (sg a), .slice aa (L a.natAbs).length ca, L a.natAbs) (by simp)).2.2.1 (S4.box (w1.heap.size + 1, (sg b), .slice ab (L b.natAbs).length cb, L b.natAbs) (by simp)).2.2.1).mono ?_
          rintro e w5 ⟨rfl, k13⟩
          have S5 := S4.later k13
          clear cA0 cA1 zA cB0 cB1 zB
          have cB0 : w5.cell? ⟨w1.heap.size + 1, 0, none⟩ = some (.bool (sg b)) := (S5.box (w1.heap.size + 1, (sg b), .slice ab (L b.natAbs).length cb, L b.natAbs) (by simp)).1
          have cB1 : w5.cell? ⟨w1.heap.size + 1, 1, none⟩ = some (.slice ab (L b.natAbs).length cb) := (S5.box (w1.heap.size + 1, (sg b), .slice ab (L b.natAbs).length cb, L b.natAbs) (by simp)).2.1
          have zB : w1.heap.size + 1 < w5.heap.size := (S5.box (w1.heap.size + 1, (sg b), .slice ab (L b.natAbs).length cb, L b.natAbs) (by simp)).2.2.2
          have cC0 : w5.cell? ⟨w2.heap.size, 0, none⟩ = some (.bool (sg c)) := (S5.box (w2.heap.size, (sg c), .slice ac (L c.natAbs).length cc, L c.natAbs) (by simp)).1
          have cC1 : w5.cell? ⟨w2.heap.size, 1, none⟩ = some (.slice ac (L c.natAbs).length cc) := (S5.box (w2.heap.size, (sg c), .slice ac (L c.natAbs).length cc, L c.natAbs) (by simp)).2.1
          have zC : w2.heap.size < w5.heap.size := (S5.box (w2.heap.size, (sg c), .slice ac (L c.natAbs).length cc, L c.natAbs) (by simp)).2.2.2
          clear k13
          go_wp2_with fail
          refine (unhide CT _ _ _ (S5.box (w1.heap.size + 1, (sg b), .slice ab (L b.natAbs).length cb, L b.natAbs) (by simp)).2.2.1 (S5.box (w2.heap.size, (sg c), .slice ac (L c.natAbs).length cc, L c.natAbs) (by simp)).2.2.1).mono ?_
          rintro e w6 ⟨rfl, k14⟩
          have S6 := S5.later k14
          clear cB0 cB1 zB cC0 cC1 zC
          have cA0 : w6.cell? ⟨w1.heap.size, 0, none⟩ = some (.bool (sg a)) := (S6.box (w1.heap.size, (sg a), .slice aa (L a.natAbs).length ca, L a.natAbs) (by simp)).1
          have cA1 : w6.cell? ⟨w1.heap.size, 1, none⟩ = some (.slice aa (L a.natAbs).length ca) := (S6.box (w1.heap.size, (sg a), .slice aa (L a.natAbs).length ca, L a.natAbs) (by simp)).2.1
          have zA : w1.heap.size < w6.heap.size := (S6.box (w1.heap.size, (sg a), .slice aa (L a.natAbs).length ca, L a.natAbs) (by simp)).2.2.2
          have cC0 : w6.cell? ⟨w2.heap.size, 0, none⟩ = some (.bool (sg c)) := (S6.box (w2.heap.size, (sg c), .slice ac (L c.natAbs).length cc, L c.natAbs) (by simp)).1
          have cC1 : w6.cell? ⟨w2.heap.size, 1, none⟩ = some (.slice ac (L c.natAbs).length cc) := (S6.box (w2.heap.size, (sg c), .slice ac (L c.natAbs).length cc, L c.natAbs) (by simp)).2.1
          have zC : w2.heap.size < w6.heap.size := (S6.box (w2.heap.size, (sg c), .slice ac (L c.natAbs).length cc, L c.natAbs) (by simp)).2.2.2
          clear k14
          go_wp2_with fail
          refine (unhide CK _ _ _ (S6.box (w1.heap.size, (sg a), .slice aa (L a.natAbs).length ca, L a.natAbs) (by simp)).2.2.1 (S6.box (w2.heap.size, (sg c), .slice ac (L c.natAbs).length cc, L c.natAbs) (by simp)).2.2.1).mono ?_
          rintro e w7 ⟨rfl, k15⟩
          have S7 := S6.later k15
          clear cA0 cA1 zA cC0 cC1 zC
          have cA0 : w7.cell? ⟨w1.heap.size, 0, none⟩ = some (.bool (sg a)) := (S7.box (w1.heap.size, (sg a), .slice aa (L a.natAbs).length ca, L a.natAbs) (by simp)).1
          have cA1 : w7.cell? ⟨w1.heap.size, 1, none⟩ = some (.slice aa (L a.natAbs).length ca) := (S7.box (w1.heap.size, (sg a), .slice aa (L a.natAbs).length ca, L a.natAbs) (by simp)).2.1
          have zA : w1.heap.size < w7.heap.size := (S7.box (w1.heap.size, (sg a), .slice aa (L a.natAbs).length ca, L a.natAbs) (by simp)).2.2.2
          have cC0 : w7.cell? ⟨w2.heap.size, 0, none⟩ = some (.bool (sg c)) := (S7.box (w2.heap.size, (sg c), .slice ac (L c.natAbs).length cc, L c.natAbs) (by simp)).1
          have cC1 : w7.cell? ⟨w2.heap.size, 1, none⟩ = some (.slice ac (L c.natAbs).length cc) := (S7.box (w2.heap.size, (sg c), .slice ac (L c.natAbs).length cc, L c.natAbs) (by simp)).2.1
          have zC : w2.heap.size < w7.heap.size := (S7.box (w2.heap.size, (sg c), .slice ac (L c.natAbs).length cc, L c.natAbs) (by simp)).2.2.2
          clear k15
          go_wp2_with fail
          refine (unhide CK _ _ _ (S7.box (w1.heap.size, (sg a), .slice aa (L a.natAbs).length ca, L a.natAbs) (by simp)).2.2.1 (S7.box (w2.heap.size, (sg c), .slice ac (L c.natAbs).length cc, L c.natAbs) (by simp)).2.2.1).mono ?_
          rintro e w8 ⟨rfl, k16⟩
          have S8 := S7.later k16
          clear cA0 cA1 zA cC0 cC1 zC
          clear k16
          go_wp2
          go_ret
          exact ⟨rfl, S8.below⟩
        · rw [cmpZ_lt hx] at CI CS
          rw [cmpZ_eq hy] at CJ CT
          rw [cmpZ_lt (show a < c by omega)] at CK
          clear hx hy
          go_wp2_with fail
          refine (unhide CI _ _ _ (S2.box (w1.heap.size, (sg a), .slice aa (L a.natAbs).length ca, L a.natAbs) (by simp)).2.2.1 (S2.box (w1.heap.size + 1, (sg b), .slice ab (L b.natAbs).length cb, L b.natAbs) (by simp)).2.2.1).mono ?_
          rintro e w3 ⟨rfl, k11⟩
          have S3 := S2.later k11
          clear cA0 cA1 zA cB0 cB1 zB
          have cB0 : w3.cell? ⟨w1.heap.size + 1, 0, none⟩ = some (.bool (sg b)) := (S3.box (w1.heap.size + 1, (sg b), .slice ab (L b.natAbs).length cb, L b.natAbs) (by simp)).1
          have cB1 : w3.cell? ⟨w1.heap.size + 1, 1, none⟩ = some (.slice ab (L b.natAbs).length cb) := (S3.box (w1.heap.size + 1, (sg b), .slice ab (L b.natAbs).length cb, L b.natAbs) (by simp)).2.1
          have zB : w1.heap.size + 1 < w3.heap.size := (S3.box (w1.heap.size + 1, (sg b), .slice ab (L b.natAbs).length cb, L b.natAbs) (by simp)).2.2.2
          have cC0 : w3.cell? ⟨w2.heap.size, 0, none⟩ = some (.bool (sg c)) := (S3.box (w2.heap.size, (sg c), .slice ac (L c.natAbs).length cc, L c.natAbs) (by simp)).1
          have cC1 : w3.cell? ⟨w2.heap.size, 1, none⟩ = some (.slice ac (L c.natAbs).length cc) := (S3.box (w2.heap.size, (sg c), .slice ac (L c.natAbs).length cc, L c.natAbs) (by simp)).2.1
          have zC : w2.heap.size < w3.heap.size := (S3.box (w2.heap.size, (sg c), .slice ac (L c.natAbs).length cc, L c.natAbs) (by simp)).2.2.2
          clear k11
          go_wp2_with fail
          refine (unhide CJ _ _ _ (S3.box (w1.heap.size + 1, (sg b), .slice ab (L b.natAbs).length cb, L b.natAbs) (by simp)).2.2.1 (S3.box (w2.heap.size, (sg c), .slice ac (L c.natAbs).length cc, L c.natAbs) (by simp)).2.2.1).mono ?_
          rintro e w4 ⟨rfl, k12⟩
          have S4 := S3.later k12
          clear cB0 cB1 zB cC0 cC1 zC
          have cA0 : w4.cell? ⟨w1.heap.size, 0, none⟩ = some (.bool (sg a)) := (S4.box (w1.heap.size, (sg a), .slice aa (L a.natAbs).length ca, L a.natAbs) (by simp)).1
          have cA1 : w4.cell? ⟨w1.heap.size, 1, none⟩ = some (.slice aa (L a.natAbs).length ca) := (S4.box (w1.heap.size, (sg a), .slice aa (L a.natAbs).length ca, L a.natAbs) (by simp)).2.1
          have zA : w1.heap.size < w4.heap.size := (S4.box (w1.heap.size, (sg a), .slice aa (L a.natAbs).length ca, L a.natAbs) (by simp)).2.2.2
          have cB0 : w4.cell? ⟨w1.heap.size + 1, 0, none⟩ = some (.bool (sg b)) := (S4.box (w1.heap.size + 1, (sg b), .slice ab (L b.natAbs).length cb, L b.natAbs) (by simp)).1
          have cB1 : w4.cell? ⟨w1.heap.size + 1, 1, none⟩ = some (.slice ab (L b.natAbs).length cb) := (S4.box (w1.heap.size + 1, (sg b), .slice ab (L b.natAbs).length cb, L b.natAbs) (by simp)).2.1
          have zB : w1.heap.size + 1 < w4.heap.size := (S4.box (w1.heap.size + 1, (sg b), .slice ab (L b.natAbs).length cb, L b.natAbs) (by simp)).2.2.2
          clear k12
          go_wp2_with fail
          refine (unhide CS _ _ _ (S4.box (w1.heap.size, (sg a), .slice aa (L a.natAbs).length ca, L a.natAbs) (by simp)).2.2.1 (S4.box (w1.heap.size + 1, (sg b), .slice ab (L b.natAbs).length cb, L b.natAbs) (by simp)).2.2.1).mono ?_
          rintro e w5 ⟨rfl, k13⟩
          have S5 := S4.later k13
          clear cA0 cA1 zA cB0 cB1 zB
          have cB0 : w5.cell? ⟨w1.heap.size + 1, 0, none⟩ = some (.bool (sg b)) := (S5.box (w1.heap.size + 1, (sg b), .slice ab (L b.natAbs).length cb, L b.natAbs) (by simp)).1
          have cB1 : w5.cell? ⟨w1.heap.size + 1, 1, none⟩ = some (.slice ab (L b.natAbs).length cb) := (S5.box (w1.heap.size + 1, (sg b), .slice ab (L b.natAbs).length cb, L b.natAbs) (by simp)).2.1
          have zB : w1.heap.size + 1 < w5.heap.size := (S5.box (w1.heap.size + 1, (sg b), .slice ab (L b.natAbs).length cb, L b.natAbs) (by simp)).2.2.2
          have cC0 : w5.cell? ⟨w2.heap.size, 0, none⟩ = some (.bool (sg c)) := (S5.box (w2.heap.size, (sg c), .slice ac (L c.natAbs).length cc, L c.natAbs) (by simp)).1
          have cC1 : w5.cell? ⟨w2.heap.size, 1, none⟩ = some (.slice ac (L c.natAbs).length cc) := (S5.box (w2.heap.size, (sg c), .slice ac (L c.natAbs).length cc, L c.natAbs) (by simp)).2.1
          have zC : w2.heap.size < w5.heap.size := (S5.box (w2.heap.size, (sg c), .slice ac (L c.natAbs).length cc, L c.natAbs) (by simp)).2.2.2
          clear k13
          go_wp2_with fail
          refine (unhide CT _ _ _ (S5.box (w1.heap.size + 1, (sg b), .slice ab (L b.natAbs).length cb, L b.natAbs) (by simp)).2.2.1 (S5.box (w2.heap.size, (sg c), .slice ac (L c.natAbs).length cc, L c.natAbs) (by simp)).2.2.1).mono ?_
          rintro e w6 ⟨rfl, k14⟩
          have S6 := S5.later k14
          clear cB0 cB1 zB cC0 cC1 zC
          have cA0 : w6.cell? ⟨w1.heap.size, 0, none⟩ = some (.bool (sg a)) := (S6.box (w1.heap.size, (sg a), .slice aa (L a.natAbs).length ca, L a.natAbs) (by simp)).1
          have cA1 : w6.cell? ⟨w1.heap.size, 1, none⟩ = some (.slice aa (L a.natAbs).length ca) := (S6.box (w1.heap.size, (sg a), .slice aa (L a.natAbs).length ca, L a.natAbs) (by simp)).2.1
          have zA : w1.heap.size < w6.heap.size := (S6.box (w1.heap.size, (sg a), .slice aa (L a.natAbs).length ca, L a.natAbs) (by simp)).2.2.2
          have cC0 : w6.cell? ⟨w2.heap.size, 0, none⟩ = some (.bool (sg c)) := (S6.box (w2.heap.size, (sg c), .slice ac (L c.natAbs).length cc, L c.natAbs) (by simp)).1
          have cC1 : w6.cell? ⟨w2.heap.size, 1, none⟩ = some (.slice ac (L c.natAbs).length cc) := (S6.box (w2.heap.size, (sg c), .slice ac (L c.natAbs).length cc, L c.natAbs) (by simp)).2.1
          have zC : w2.heap.size < w6.heap.size := (S6.box (w2.heap.size, (sg c), .slice ac (L c.natAbs).length cc, L c.natAbs) (by simp)).2.2.2
          clear k14
          go_wp2_with fail
          refine (unhide CK _ _ _ (S6.box (w1.heap.size, (sg a), .slice aa (L a.natAbs).length ca, L a.natAbs) (by simp)).2.2.1 (S6.box (w2.heap.size, (sg c), .slice ac (L c.natAbs).length cc, L c.natAbs) (by simp)).2.2.1).mono ?_
          rintro e w7 ⟨rfl, k15⟩
          have S7 := S6.later k15
          clear cA0 cA1 zA cC0 cC1 zC
          have cA0 : w7.cell? ⟨w1.heap.size, 0, none⟩ = some (.bool (sg a)) := (S7.box (w1.heap.size, (sg a), .slice aa (L a.natAbs).length ca, L a.natAbs) (by simp)).1
          have cA1 : w7.cell? ⟨w1.heap.size, 1, none⟩ = some (.slice aa (L a.natAbs).length ca) := (S7.box (w1.heap.size, (sg a), .slice aa (L a.natAbs).length ca, L a.natAbs) (by simp)).2.1
          have zA : w1.heap.size < w7.heap.size := (S7.box (w1.heap.size, (sg a), .slice aa (L a.natAbs).length ca, L a.natAbs) (by simp)).2.2.2
          have cC0 : w7.cell? ⟨w2.heap.size, 0, none⟩ = some (.bool (sg c)) := (S7.box (w2.heap.size, (sg c), .slice ac (L c.natAbs).length cc, L c.natAbs) (by simp)).1
          have cC1 : w7.cell? ⟨w2.heap.size, 1, none⟩ = some (.slice ac (L c.natAbs).length cc) := (S7.box (w2.heap.size, (sg c), .slice ac (L c.natAbs).length cc, L c.natAbs) (by simp)).2.1
          have zC : w2.heap.size < w7.heap.size := (S7.box (w2.heap.size, (sg c), .slice ac (L c.natAbs).length cc, L c.natAbs) (by simp)).2.2.2
          clear k15
          go_wp2_with fail
          refine (unhide CK _ _ _ (S7.box (w1.heap.size, (sg a), .slice aa (L a.natAbs).length ca, L a.natAbs) (by simp)).2.2.1 (S7.box (w2.heap.size, (sg c), .slice ac (L c.natAbs).length cc, L c.natAbs) (by simp)).2.2.1).mono ?_
          rintro e w8 ⟨rfl, k16⟩
          have S8 := S7.later k16
          clear cA0 cA1 zA cC0 cC1 zC
          clear k16
          go_wp2
          go_ret
          exact ⟨rfl, S8.below⟩
        · rw [cmpZ_lt hx] at CI CS
          rw [cmpZ_gt hy] at CJ CT
          clear CK
          clear hx hy
          go_wp2_with fail
          refine (unhide CI _ _ _ (S2.box (w1.heap.size, (sg a), .slice aa (L a.natAbs).length ca, L a.natAbs) (by simp)).2.2.1 (S2.box (w1.heap.size + 1, (sg b), .slice ab (L b.natAbs).length cb, L b.natAbs) (by simp)).2.2.1).mono ?_
          rintro e w3 ⟨rfl, k11⟩
          have S3 := S2.later k11
          clear cA0 cA1 zA cB0 cB1 zB
          have cB0 : w3.cell? ⟨w1.heap.size + 1, 0, none⟩ = some (.bool (sg b)) := (S3.box (w1.heap.size + 1, (sg b), .slice ab (L b.natAbs).length cb, L b.natAbs) (by simp)).1
          have cB1 : w3.cell? ⟨w1.heap.size + 1, 1, none⟩ = some (.slice ab (L b.natAbs).length cb) := (S3.box (w1.heap.size + 1, (sg b), .slice ab (L b.natAbs).length cb, L b.natAbs) (by simp)).2.1
          have zB : w1.heap.size + 1 < w3.heap.size := (S3.box (w1.heap.size + 1, (sg b), .slice ab (L b.natAbs).length cb, L b.natAbs) (by simp)).2.2.2
          have cC0 : w3.cell? ⟨w2.heap.size, 0, none⟩ = some (.bool (sg c)) := (S3.box (w2.heap.size, (sg c), .slice ac (L c.natAbs).length cc, L c.natAbs) (by simp)).1
          have cC1 : w3.cell? ⟨w2.heap.size, 1, none⟩ = some (.slice ac (L c.natAbs).length cc) := (S3.box (w2.heap.size, (sg c), .slice ac (L c.natAbs).length cc, L c.natAbs) (by simp)).2.1
          have zC : w2.heap.size < w3.heap.size := (S3.box (w2.heap.size, (sg c), .slice ac (L c.natAbs).length cc, L c.natAbs) (by simp)).2.2.2
          clear k11
          go_wp2_with fail
          refine (unhide CJ _ _ _ (S3.box (w1.heap.size + 1, (sg b), .slice ab (L b.natAbs).length cb, L b.natAbs) (by simp)).2.2.1 (S3.box (w2.heap.size, (sg c), .slice ac (L c.natAbs).length cc, L c.natAbs) (by simp)).2.2.1).mono ?_
          rintro e w4 ⟨rfl, k12⟩
          have S4 := S3.later k12
          clear cB0 cB1 zB cC0 cC1 zC
          have cA0 : w4.cell? ⟨w1.heap.size, 0, none⟩ = some (.bool (sg a)) := (S4.box (w1.heap.size, (sg a), .slice aa (L a.natAbs).length ca, L a.natAbs) (by simp)).1
          have cA1 : w4.cell? ⟨w1.heap.size, 1, none⟩ = some (.slice aa (L a.natAbs).length ca) := (S4.box (w1.heap.size, (sg a), .slice aa (L a.natAbs).length ca, L a.natAbs) (by simp)).2.1
          have zA : w1.heap.size < w4.heap.size := (S4.box (w1.heap.size, (sg a), .slice aa (L a.natAbs).length ca, L a.natAbs) (by simp)).2.2.2
          have cB0 : w4.cell? ⟨w1.heap.size + 1, 0, none⟩ = some (.bool (sg b)) := (S4.box (w1.heap.size + 1, (sg b), .slice ab (L b.natAbs).length cb, L b.natAbs) (by simp)).1
          have cB1 : w4.cell? ⟨w1.heap.size + 1, 1, none⟩ = some (.slice ab (L b.natAbs).length cb) := (S4.box (w1.heap.size + 1, (sg b), .slice ab (L b.natAbs).length cb, L b.natAbs) (by simp)).2.1
          have zB : w1.heap.size + 1 < w4.heap.size := (S4.box (w1.heap.size + 1, (sg b), .slice ab (L b.natAbs).length cb, L b.natAbs) (by simp)).2.2.2
          clear k12
          go_wp2_with fail
          refine (unhide CS _ _ _ (S4.box (w1.heap.size, (sg a), .slice aa (L a.natAbs).length ca, L a.natAbs) (by simp)).2.2.1 (S4.box (w1.heap.size + 1, (sg b), .slice ab (L b.natAbs).length cb, L b.natAbs) (by simp)).2.2.1).mono ?_
          rintro e w5 ⟨rfl, k13⟩
          have S5 := S4.later k13
          clear cA0 cA1 zA cB0 cB1 zB
          have cB0 : w5.cell? ⟨w1.heap.size + 1, 0, none⟩ = some (.bool (sg b)) := (S5.box (w1.heap.size + 1, (sg b), .slice ab (L b.natAbs).length cb, L b.natAbs) (by simp)).1
          have cB1 : w5.cell? ⟨w1.heap.size + 1, 1, none⟩ = some (.slice ab (L b.natAbs).length cb) := (S5.box (w1.heap.size + 1, (sg b), .slice ab (L b.natAbs).length cb, L b.natAbs) (by simp)).2.1
          have zB : w1.heap.size + 1 < w5.heap.size := (S5.box (w1.heap.size + 1, (sg b), .slice ab (L b.natAbs).length cb, L b.natAbs) (by simp)).2.2.2
          have cC0 : w5.cell? ⟨w2.heap.size, 0, none⟩ = some (.bool (sg c)) := (S5.box (w2.heap.size, (sg c), .slice ac (L c.natAbs).length cc, L c.natAbs) (by simp)).1
          have cC1 : w5.cell? ⟨w2.heap.size, 1, none⟩ = some (.slice ac (L c.natAbs).length cc) := (S5.box (w2.heap.size, (sg c), .slice ac (L c.natAbs).length cc, L c.natAbs) (by simp)).2.1
          have zC : w2.heap.size < w5.heap.size := (S5.box (w2.heap.size, (sg c), .slice ac (L c.natAbs).length cc, L c.natAbs) (by simp)).2.2.2
          clear k13
          go_wp2_with fail
          refine (unhide CT _ _ _ (S5.box (w1.heap.size + 1, (sg b), .slice ab (L b.natAbs).length cb, L b.natAbs) (by simp)).2.2.1 (S5.box (w2.heap.size, (sg c), .slice ac (L c.natAbs).length cc, L c.natAbs) (by simp)).2.2.1).mono ?_
          rintro e w6 ⟨rfl, k14⟩
          have S6 := S5.later k14
          clear cB0 cB1 zB cC0 cC1 zC
          clear k14
          go_wp2
          go_ret
          exact ⟨rfl, S6.below⟩
      · rcases Int.lt_trichotomy b c with hy | hy | hy
        · rw [cmpZ_eq hx] at CI CS
          rw [cmpZ_lt hy] at CJ CT
          rw [cmpZ_lt (show a < c by omega)] at CK
          clear hx hy
          go_wp2_with fail
          refine (unhide CI _ _ _ (S2.box (w1.heap.size, (sg a), .slice aa (L a.natAbs).length ca, L a.natAbs) (by simp)).2.2.1 (S2.box (w1.heap.size + 1, (sg b), .slice ab (L b.natAbs).length cb, L b.natAbs) (by simp)).2.2.1).mono ?_
          rintro e w3 ⟨rfl, k11⟩
          have S3 := S2.later k11
          clear cA0 cA1 zA cB0 cB1 zB
          have cB0 : w3.cell? ⟨w1.heap.size + 1, 0, none⟩ = some (.bool (sg b)) := (S3.box (w1.heap.size + 1, (sg b), .slice ab (L b.natAbs).length cb, L b.natAbs) (by simp)).1
          have cB1 : w3.cell? ⟨w1.heap.size + 1, 1, none⟩ = some (.slice ab (L b.natAbs).length cb) := (S3.box (w1.heap.size + 1, (sg b), .slice ab (L b.natAbs).length cb, L b.natAbs) (by simp)).2.1
          have zB : w1.heap.size + 1 < w3.heap.size := (S3.box (w1.heap.size + 1, (sg b), .slice ab (L b.natAbs).length cb, L b.natAbs) (by simp)).2.2.2
          have cC0 : w3.cell? ⟨w2.heap.size, 0, none⟩ = some (.bool (sg c)) := (S3.box (w2.heap.size, (sg c), .slice ac (L c.natAbs).length cc, L c.natAbs) (by simp)).1
          have cC1 : w3.cell? ⟨w2.heap.size, 1, none⟩ = some (.slice ac (L c.natAbs).length cc) := (S3.box (w2.heap.size, (sg c), .slice ac (L c.natAbs).length cc, L c.natAbs) (by simp)).2.1
          have zC : w2.heap.size < w3.heap.size := (S3.box (w2.heap.size, (sg c), .slice ac (L c.natAbs).length cc, L c.natAbs) (by simp)).2.2.2
          clear k11
          go_wp2_with fail
          refine (unhide CJ _ _ _ (S3.box (w1.heap.size + 1, (sg b), .slice ab (L b.natAbs).length cb, L b.natAbs) (by simp)).2.2.1 (S3.box (w2.heap.size, (sg c), .slice ac (L c.natAbs).length cc, L c.natAbs) (by simp)).2.2.1).mono ?_
          rintro e w4 ⟨rfl, k12⟩
          have S4 := S3.later k12
          clear cB0 cB1 zB cC0 cC1 zC
          have cA0 : w4.cell? ⟨w1.heap.size, 0, none⟩ = some (.bool (sg a)) := (S4.box (w1.heap.size, (sg a), .slice aa (L a.natAbs).length ca, L a.natAbs) (by simp)).1
          have cA1 : w4.cell? ⟨w1.heap.size, 1, none⟩ = some (.slice aa (L a.natAbs).length ca) := (S4.box (w1.heap.size, (sg a), .slice aa (L a.natAbs).length ca, L a.natAbs) (by simp)).2.1
          have zA : w1.heap.size < w4.heap.size := (S4.box (w1.heap.size, (sg a), .slice aa (L a.natAbs).length ca, L a.natAbs) (by simp)).2.2.2
          have cB0 : w4.cell? ⟨w1.heap.size + 1, 0, none⟩ = some (.bool (sg b)) := (S4.box (w1.heap.size + 1, (sg b), .slice ab (L b.natAbs).length cb, L b.natAbs) (by simp)).1
          have cB1 : w4.cell? ⟨w1.heap.size + 1, 1, none⟩ = some (.slice ab (L b.natAbs).length cb) := (S4.box (w1.heap.size + 1, (sg b), .slice ab (L b.natAbs).length cb, L b.natAbs) (by simp)).2.1
          have zB : w1.heap.size + 1 < w4.heap.size := (S4.box (w1.heap.size + 1, (sg b), .slice ab (L b.natAbs).length cb, L b.natAbs) (by simp)).2.2.2
          clear k12
          go_wp2_with fail
          refine (unhide CS _ _ _ (S4.box (w1.heap.size, (sg a), .slice aa (L a.natAbs).length ca, L a.natAbs) (by simp)).2.2.1 (S4.box (w1.heap.size + 1, (sg b), .slice ab (L b.natAbs).length cb, L b.natAbs) (by simp)).2.2.1).mono ?_
          rintro e w5 ⟨rfl, k13⟩
          have S5 := S4.later k13
          clear cA0 cA1 zA cB0 cB1 zB
          have cB0 : w5.cell? ⟨w1.heap.size + 1, 0, none⟩ = some (.bool (sg b)) := (S5.box (w1.heap.size + 1, (sg b), .slice ab (L b.natAbs).length cb, L b.natAbs) (by simp)).1
          have cB1 : w5.cell? ⟨w1.heap.size + 1, 1, none⟩ = some (.slice ab (L b.natAbs).length cb) := (S5.box (w1.heap.size + 1, (sg b), .slice ab (L b.natAbs).length cb, L b.natAbs) (by simp)).2.1
          have zB : w1.heap.size + 1 < w5.heap.size := (S5.box (w1.heap.size + 1, (sg b), .slice ab (L b.natAbs).length cb, L b.natAbs) (by simp)).2.2.2
          have cC0 : w5.cell? ⟨w2.heap.size, 0, none⟩ = some (.bool (sg c)) := (S5.box (w2.heap.size, (sg c), .slice ac (L c.natAbs).length cc, L c.natAbs) (by simp)).1
          have cC1 : w5.cell? ⟨w2.heap.size, 1, none⟩ = some (.slice ac (L c.natAbs).length cc) := (S5.box (w2.heap.size, (sg c), .slice ac (L c.natAbs).length cc, L c.natAbs) (by simp)).2.1
          have zC : w2.heap.size < w5.heap.size := (S5.box (w2.heap.size, (sg c), .slice ac (L c.natAbs).length cc, L c.natAbs) (by simp)).2.2.2
          clear k13
          go_wp2_with fail
          refine (unhide CT _ _ _ (S5.box (w1.heap.size + 1, (sg b), .slice ab (L b.natAbs).length cb, L b.natAbs) (by simp)).2.2.1 (S5.box (w2.heap.size, (sg c), .slice ac (L c.natAbs).length cc, L c.natAbs) (by simp)).2.2.1).mono ?_
          rintro e w6 ⟨rfl, k14⟩
          have S6 := S5.later k14
          clear cB0 cB1 zB cC0 cC1 zC
          have cA0 : w6.cell? ⟨w1.heap.size, 0, none⟩ = some (.bool (sg a)) := (S6.box (w1.heap.size, (sg a), .slice aa (L a.natAbs).length ca, L a.natAbs) (by simp)).1
          have cA1 : w6.cell? ⟨w1.heap.size, 1, none⟩ = some (.slice aa (L a.natAbs).length ca) := (S6.box (w1.heap.size, (sg a), .slice aa (L a.natAbs).length ca, L a.natAbs) (by simp)).2.1
          have zA : w1.heap.size < w6.heap.size := (S6.box (w1.heap.size, (sg a), .slice aa (L a.natAbs).length ca, L a.natAbs) (by simp)).2.2.2
          have cC0 : w6.cell? ⟨w2.heap.size, 0, none⟩ = some (.bool (sg c)) := (S6.box (w2.heap.size, (sg c), .slice ac (L c.natAbs).length cc, L c.natAbs) (by simp)).1
          have cC1 : w6.cell? ⟨w2.heap.size, 1, none⟩ = some (.slice ac (L c.natAbs).length cc) := (S6.box (w2.heap.size, (sg c), .slice ac (L c.natAbs).length cc, L c.natAbs) (by simp)).2.1
          have zC : w2.heap.size < w6.heap.size := (S6.box (w2.heap.size, (sg c), .slice ac (L c.natAbs).length cc, L c.natAbs) (by simp)).2.2.2
          clear k14
          go_wp2_with fail
          refine (unhide CK _ _ _ (S6.box (w1.heap.size, (sg a), .slice aa (L a.natAbs).length ca, L a.natAbs) (by simp)).2.2.1 (S6.box (w2.heap.size, (sg c), .slice ac (L c.natAbs).length cc, L c.natAbs) (by simp)).2.2.1).mono ?_
          rintro e w7 ⟨rfl, k15⟩
          have S7 := S6.later k15
          clear cA0 cA1 zA cC0 cC1 zC
          have cA0 : w7.cell? ⟨w1.heap.size, 0, none⟩ = some (.bool (sg a)) := (S7.box (w1.heap.size, (sg a), .slice aa (L a.natAbs).length ca, L a.natAbs) (by simp)).1
          have cA1 : w7.cell? ⟨w1.heap.size, 1, none⟩ = some (.slice aa (L a.natAbs).length ca) := (S7.box (w1.heap.size, (sg a), .slice aa (L a.natAbs).length ca, L a.natAbs) (by simp)).2.1
          have zA : w1.heap.size < w7.heap.size := (S7.box (w1.heap.size, (sg a), .slice aa (L a.natAbs).length ca, L a.natAbs) (by simp)).2.2.2
          have cC0 : w7.cell? ⟨w2.heap.size, 0, none⟩ = some (.bool (sg c)) := (S7.box (w2.heap.size, (sg c), .slice ac (L c.natAbs).length cc, L c.natAbs) (by simp)).1
          have cC1 : w7.cell? ⟨w2.heap.size, 1, none⟩ = some (.slice ac (L c.natAbs).length cc) := (S7.box (w2.heap.size, (sg c), .slice ac (L c.natAbs).length cc, L c.natAbs) (by simp)).2.1
          have zC : w2.heap.size < w7.heap.size := (S7.box (w2.heap.size, (sg c), .slice ac (L c.natAbs).length cc, L c.natAbs) (by simp)).2.2.2
          clear k15
          go_wp2_with fail
          refine (unhide CK _ _ _ (S7.box (w1.heap.size, (sg a), .slice aa (L a.natAbs).length ca, L a.natAbs) (by simp)).2.2.1 (S7.box (w2.heap.size, (sg c), .slice ac (L c.natAbs).length cc, L c.natAbs) (by simp)).2.2.1).mono ?_
          rintro e w8 ⟨rfl, k16⟩
          have S8 := S7.later k16
          clear cA0 cA1 zA cC0 cC1 zC
          clear k16
          go_wp2
          go_ret
          exact ⟨rfl, S8.below⟩
        · rw [cmpZ_eq hx] at CI CS
          rw [cmpZ_eq hy] at CJ CT
          rw [cmpZ_eq (show a = c by omega)] at CK
          clear hx hy
          go_wp2_with fail
          refine (unhide CI _ _ _ (S2.box (w1.heap.size, (sg a), .slice aa (L a.natAbs).length ca, L a.natAbs) (by simp)).2.2.1 (S2.box (w1.heap.size + 1, (sg b), .slice ab (L b.natAbs).length cb, L b.natAbs) (by simp)).2.2.1).mono ?_
          rintro e w3 ⟨rfl, k11⟩
          have S3 := S2.later k11
          clear cA0 cA1 zA cB0 cB1 zB
          have cB0 : w3.cell? ⟨w1.heap.size + 1, 0, none⟩ = some (.bool (sg b)) := (S3.box (w1.heap.size + 1, (sg b), .slice ab (L b.natAbs).length cb, L b.natAbs) (by simp)).1
          have cB1 : w3.cell? ⟨w1.heap.size + 1, 1, none⟩ = some (.slice ab (L b.natAbs).length cb) := (S3.box (w1.heap.size + 1, (sg b), .slice ab (L b.natAbs).length cb, L b.natAbs) (by simp)).2.1
          have zB : w1.heap.size + 1 < w3.heap.size := (S3.box (w1.heap.size + 1, (sg b), .slice ab (L b.natAbs).length cb, L b.natAbs) (by simp)).2.2.2
          have cC0 : w3.cell? ⟨w2.heap.size, 0, none⟩ = some (.bool (sg c)) := (S3.box (w2.heap.size, (sg c), .slice ac (L c.natAbs).length cc, L c.natAbs) (by simp)).1
          have cC1 : w3.cell? ⟨w2.heap.size, 1, none⟩ = some (.slice ac (L c.natAbs).length cc) := (S3.box (w2.heap.size, (sg c), .slice ac (L c.natAbs).length cc, L c.natAbs) (by simp)).2.1
          have zC : w2.heap.size < w3.heap.size := (S3.box (w2.heap.size, (sg c), .slice ac (L c.natAbs).length cc, L c.natAbs) (by simp)).2.2.2
          clear k11
          go_wp2_with fail
          refine (unhide CJ _ _ _ (S3.box (w1.heap.size + 1, (sg b), .slice ab (L b.natAbs).length cb, L b.natAbs) (by simp)).2.2.1 (S3.box (w2.heap.size, (sg c), .slice ac (L c.natAbs).length cc, L c.natAbs) (by simp)).2.2.1).mono ?_
          rintro e w4 ⟨rfl, k12⟩
          have S4 := S3.later k12
          clear cB0 cB1 zB cC0 cC1 zC
          have cA0 : w4.cell? ⟨w1.heap.size, 0, none⟩ = some (.bool (sg a)) := (S4.box (w1.heap.size, (sg a), .slice aa (L a.natAbs).length ca, L a.natAbs) (by simp)).1
          have cA1 : w4.cell? ⟨w1.heap.size, 1, none⟩ = some (.slice aa (L a.natAbs).length ca) := (S4.box (w1.heap.size, (sg a), .slice aa (L a.natAbs).length ca, L a.natAbs) (by simp)).2.1
          have zA : w1.heap.size < w4.heap.size := (S4.box (w1.heap.size, (sg a), .slice aa (L a.natAbs).length ca, L a.natAbs) (by simp)).2.2.2
          have cB0 : w4.cell? ⟨w1.heap.size + 1, 0, none⟩ = some (.bool (sg b)) := (S4.box (w1.heap.size + 1, (sg b), .slice ab (L b.natAbs).length cb, L b.natAbs) (by simp)).1
          have cB1 : w4.cell? ⟨w1.heap.size + 1, 1, none⟩ = some (.slice ab (L b.natAbs).length cb) := (S4.box (w1.heap.size + 1, (sg b), .slice ab (L b.natAbs).length cb, L b.natAbs) (by simp)).2.1
          have zB : w1.heap.size + 1 < w4.heap.size := (S4.box (w1.heap.size + 1, (sg b), .slice ab (L b.natAbs).length cb, L b.natAbs) (by simp)).2.2.2
          clear k12
          go_wp2_with fail
          refine (unhide CS _ _ _ (S4.box (w1.heap.size, (sg a), .slice aa (L a.natAbs).length ca, L a.natAbs) (by simp)).2.2.1 (S4.box (w1.heap.size + 1, (sg b), .slice ab (L b.natAbs).length cb, L b.natAbs) (by simp)).2.2.1).mono ?_
          rintro e w5 ⟨rfl, k13⟩
          have S5 := S4.later k13
          clear cA0 cA1 zA cB0 cB1 zB
          have cB0 : w5.cell? ⟨w1.heap.size + 1, 0, none⟩ = some (.bool (sg b)) := (S5.box (w1.heap.size + 1, (sg b), .slice ab (L b.natAbs).length cb, L b.natAbs) (by simp)).1
          have cB1 : w5.cell? ⟨w1.heap.size + 1, 1, none⟩ = some (.slice ab (L b.natAbs).length cb) := (S5.box (w1.heap.size + 1, (sg b), .slice ab (L b.natAbs).length cb, L b.natAbs) (by simp)).2.1
          have zB : w1.heap.size + 1 < w5.heap.size := (S5.box (w1.heap.size + 1, (sg b), .slice ab (L b.natAbs).length cb, L b.natAbs) (by simp)).2.2.2
          have cC0 : w5.cell? ⟨w2.heap.size, 0, none⟩ = some (.bool (sg c)) := (S5.box (w2.heap.size, (sg c), .slice ac (L c.natAbs).length cc, L c.natAbs) (by simp)).1
          have cC1 : w5.cell? ⟨w2.heap.size, 1, none⟩ = some (.slice ac (L c.natAbs).length cc) := (S5.box (w2.heap.size, (sg c), .slice ac (L c.natAbs).length cc, L c.natAbs) (by simp)).2.1
          have zC : w2.heap.size < w5.heap.size := (S5.box (w2.heap.size, (sg c), .slice ac (L c.natAbs).length cc, L c.natAbs) (by simp)).2.2.2
          clear k13
          go_wp2_with fail
          refine (unhide CT _ _ _ (S5.box (w1.heap.size + 1, (sg b), .slice ab (L b.natAbs).length cb, L b.natAbs) (by simp)).2.2.1 (S5.box (w2.heap.size, (sg c), .slice ac (L c.natAbs).length cc, L c.natAbs) (by simp)).2.2.1).mono ?_
          rintro e w6 ⟨rfl, k14⟩
          have S6 := S5.later k14
          clear cB0 cB1 zB cC0 cC1 zC
          have cA0 : w6.cell? ⟨w1.heap.size, 0, none⟩ = some (.bool (sg a)) := (S6.box (w1.heap.size, (sg a), .slice aa (L a.natAbs).length ca, L a.natAbs) (by simp)).1
          have cA1 : w6.cell? ⟨w1.heap.size, 1, none⟩ = some (.slice aa (L a.natAbs).length ca) := (S6.box (w1.heap.size, (sg a), .slice aa (L a.natAbs).length ca, L a.natAbs) (by simp)).2.1
          have zA : w1.heap.size < w6.heap.size := (S6.box (w1.heap.size, (sg a), .slice aa (L a.natAbs).length ca, L a.natAbs) (by simp)).2.2.2
          have cC0 : w6.cell? ⟨w2.heap.size, 0, none⟩ = some (.bool (sg c)) := (S6.box (w2.heap.size, (sg c), .slice ac (L c.natAbs).length cc, L c.natAbs) (by simp)).1
          have cC1 : w6.cell? ⟨w2.heap.size, 1, none⟩ = some (.slice ac (L c.natAbs).length cc) := (S6.box (w2.heap.size, (sg c), .slice ac (L c.natAbs).length cc, L c.natAbs) (by simp)).2.1
          have zC : w2.heap.size < w6.heap.size := (S6.box (w2.heap.size, (sg c), .slice ac (L c.natAbs).length cc, L c.natAbs) (by simp)).2.2.2
          clear k14
          go_wp2_with fail
          refine (unhide CK _ _ _ (S6.box (w1.heap.size, (sg a), .slice aa (L a.natAbs).length ca, L a.natAbs) (by simp)).2.2.1 (S6.box (w2.heap.size, (sg c), .slice ac (L c.natAbs).length cc, L c.natAbs) (by simp)).2.2.1).mono ?_
          rintro e w7 ⟨rfl, k15⟩
          have S7 := S6.later k15
          clear cA0 cA1 zA cC0 cC1 zC
          have cA0 : w7.cell? ⟨w1.heap.size, 0, none⟩ = some (.bool (sg a)) := (S7.box (w1.heap.size, (sg a), .slice aa (L a.natAbs).length ca, L a.natAbs) (by simp)).1
          have cA1 : w7.cell? ⟨w1.heap.size, 1, none⟩ = some (.slice aa (L a.natAbs).length ca) := (S7.box (w1.heap.size, (sg a), .slice aa (L a.natAbs).length ca, L a.natAbs) (by simp)).2.1
          have zA : w1.heap.size < w7.heap.size := (S7.box (w1.heap.size, (sg a), .slice aa (L a.natAbs).length ca, L a.natAbs) (by simp)).2.2.2
          have cC0 : w7.cell? ⟨w2.heap.size, 0, none⟩ = some (.bool (sg c)) := (S7.box (w2.heap.size, (sg c), .slice ac (L c.natAbs).length cc, L c.natAbs) (by simp)).1
          have cC1 : w7.cell? ⟨w2.heap.size, 1, none⟩ = some (.slice ac (L c.natAbs).length cc) := (S7.box (w2.heap.size, (sg c), .slice ac (L c.natAbs).length cc, L c.natAbs) (by simp)).2.1
          have zC : w2.heap.size < w7.heap.size := (S7.box (w2.heap.size, (sg c), .slice ac (L c.natAbs).length cc, L c.natAbs) (by simp)).2.2.2
          clear k15
          go_wp2_with fail
          refine (unhide CK _ _ _ (S7.box (w1.heap.size, (sg a), .slice aa (L a.natAbs).length ca, L a.natAbs) (by simp)).2.2.1 (S7.box (w2.heap.size, (sg c), .slice ac (L c.natAbs).length cc, L c.natAbs) (by simp)).2.2.1).mono ?_
          rintro e w8 ⟨rfl, k16⟩
          have S8 := S7.later k16
          clear cA0 cA1 zA cC0 cC1 zC
          clear k16
          go_wp2
          go_ret
          exact ⟨rfl, S8.below⟩
        · rw [cmpZ_eq hx] at CI CS
          rw [cmpZ_gt hy] at CJ CT
          clear CK
          clear hx hy
          go_wp2_with fail
          refine (unhide CI _ _ _ (S2.box (w1.heap.size, (sg a), .slice aa (L a.natAbs).length ca, L a.natAbs) (by simp)).2.2.1 (S2.box (w1.heap.size + 1, (sg b), .slice ab (L b.natAbs).length cb, L b.natAbs) (by simp)).2.2.1).mono ?_
          rintro e w3 ⟨rfl, k11⟩
          have S3 := S2.later k11
          clear cA0 cA1 zA cB0 cB1 zB
          have cB0 : w3.cell? ⟨w1.heap.size + 1, 0, none⟩ = some (.bool (sg b)) := (S3.box (w1.heap.size + 1, (sg b), .slice ab (L b.natAbs).length cb, L b.natAbs) (by simp)).1
          have cB1 : w3.cell? ⟨w1.heap.size + 1, 1, none⟩ = some (.slice ab (L b.natAbs).length cb) := (S3.box (w1.heap.size + 1, (sg b), .slice ab (L b.natAbs).length cb, L b.natAbs) (by simp)).2.1
          have zB : w1.heap.size + 1 < w3.heap.size := (S3.box (w1.heap.size + 1, (sg b), .slice ab (L b.natAbs).length cb, L b.natAbs) (by simp)).2.2.2
          have cC0 : w3.cell? ⟨w2.heap.size, 0, none⟩ = some (.bool (sg c)) := (S3.box (w2.heap.size, (sg c), .slice ac (L c.natAbs).length cc, L c.natAbs) (by simp)).1
          have cC1 : w3.cell? ⟨w2.heap.size, 1, none⟩ = some (.slice ac (L c.natAbs).length cc) := (S3.box (w2.heap.size, (sg c), .slice ac (L c.natAbs).length cc, L c.natAbs) (by simp)).2.1
          have zC : w2.heap.size < w3.heap.size := (S3.box (w2.heap.size, (sg c), .slice ac (L c.natAbs).length cc, L c.natAbs) (by simp)).2.2.2
          clear k11
          go_wp2_with fail
          refine (unhide CJ _ _ _ (S3.box (w1.heap.size + 1, (sg b), .slice ab (L b.natAbs).length cb, L b.natAbs) (by simp)).2.2.1 (S3.box (w2.heap.size, (sg c), .slice ac (L c.natAbs).length cc, L c.natAbs) (by simp)).2.2.1).mono ?_
          rintro e w4 ⟨rfl, k12⟩
          have S4 := S3.later k12
          clear cB0 cB1 zB cC0 cC1 zC
          have cA0 : w4.cell? ⟨w1.heap.size, 0, none⟩ = some (.bool (sg a)) := (S4.box (w1.heap.size, (sg a), .slice aa (L a.natAbs).length ca, L a.natAbs) (by simp)).1
          have cA1 : w4.cell? ⟨w1.heap.size, 1, none⟩ = some (.slice aa (L a.natAbs).length ca) := (S4.box (w1.heap.size, (sg a), .slice aa (L a.natAbs).length ca, L a.natAbs) (by simp)).2.1
          have zA : w1.heap.size < w4.heap.size := (S4.box (w1.heap.size, (sg a), .slice aa (L a.natAbs).length ca, L a.natAbs) (by simp)).2.2.2
          have cB0 : w4.cell? ⟨w1.heap.size + 1, 0, none⟩ = some (.bool (sg b)) := (S4.box (w1.heap.size + 1, (sg b), .slice ab (L b.natAbs).length cb, L b.natAbs) (by simp)).1
          have cB1 : w4.cell? ⟨w1.heap.size + 1, 1, none⟩ = some (.slice ab (L b.natAbs).length cb) := (S4.box (w1.heap.size + 1, (sg b), .slice ab (L b.natAbs).length cb, L b.natAbs) (by simp)).2.1
          have zB : w1.heap.size + 1 < w4.heap.size := (S4.box (w1.heap.size + 1, (sg b), .slice ab (L b.natAbs).length cb, L b.natAbs) (by simp)).2.2.2
          clear k12
          go_wp2_with fail
          refine (unhide CS _ _ _ (S4.box (w1.heap.size, (sg a), .slice aa (L a.natAbs).length ca, L a.natAbs) (by simp)).2.2.1 (S4.box (w1.heap.size + 1, (sg b), .slice ab (L b.natAbs).length cb, L b.natAbs) (by simp)).2.2.1).mono ?_
          rintro e w5 ⟨rfl, k13⟩
          have S5 := S4.later k13
          clear cA0 cA1 zA cB0 cB1 zB
          have cB0 : w5.cell? ⟨w1.heap.size + 1, 0, none⟩ = some (.bool (sg b)) := (S5.box (w1.heap.size + 1, (sg b), .slice ab (L b.natAbs).length cb, L b.natAbs) (by simp)).1
          have cB1 : w5.cell? ⟨w1.heap.size + 1, 1, none⟩ = some (.slice ab (L b.natAbs).length cb) := (S5.box (w1.heap.size + 1, (sg b), .slice ab (L b.natAbs).length cb, L b.natAbs) (by simp)).2.1
          have zB : w1.heap.size + 1 < w5.heap.size := (S5.box (w1.heap.size + 1, (sg b), .slice ab (L b.natAbs).length cb, L b.natAbs) (by simp)).2.2.2
          have cC0 : w5.cell? ⟨w2.heap.size, 0, none⟩ = some (.bool (sg c)) := (S5.box (w2.heap.size, (sg c), .slice ac (L c.natAbs).length cc, L c.natAbs) (by simp)).1
          have cC1 : w5.cell? ⟨w2.heap.size, 1, none⟩ = some (.slice ac (L c.natAbs).length cc) := (S5.box (w2.heap.size, (sg c), .slice ac (L c.natAbs).length cc, L c.natAbs) (by simp)).2.1
          have zC : w2.heap.size < w5.heap.size := (S5.box (w2.heap.size, (sg c), .slice ac (L c.natAbs).length cc, L c.natAbs) (by simp)).2.2.2
          clear k13
          go_wp2_with fail
          refine (unhide CT _ _ _ (S5.box (w1.heap.size + 1, (sg b), .slice ab (L b.natAbs).length cb, L b.natAbs) (by simp)).2.2.1 (S5.box (w2.heap.size, (sg c), .slice ac (L c.natAbs).length cc, L c.natAbs) (by simp)).2.2.1).mono ?_
          rintro e w6 ⟨rfl, k14⟩
          have S6 := S5.later k14
          clear cB0 cB1 zB cC0 cC1 zC
          clear k14
          go_wp2
          go_ret
          exact ⟨rfl, S6.below⟩
      · rcases Int.lt_trichotomy b c with hy | hy | hy
        · rw [cmpZ_gt hx] at CI CS
          rw [cmpZ_lt hy] at CJ CT
          clear CK
          clear hx hy
          go_wp2_with fail
          refine (unhide CI _ _ _ (S2.box (w1.heap.size, (sg a), .slice aa (L a.natAbs).length ca, L a.natAbs) (by simp)).2.2.1 (S2.box (w1.heap.size + 1, (sg b), .slice ab (L b.natAbs).length cb, L b.natAbs) (by simp)).2.2.1).mono ?_
          rintro e w3 ⟨rfl, k11⟩
          have S3 := S2.later k11
          clear cA0 cA1 zA cB0 cB1 zB
          have cB0 : w3.cell? ⟨w1.heap.size + 1, 0, none⟩ = some (.bool (sg b)) := (S3.box (w1.heap.size + 1, (sg b), .slice ab (L b.natAbs).length cb, L b.natAbs) (by simp)).1
          have cB1 : w3.cell? ⟨w1.heap.size + 1, 1, none⟩ = some (.slice ab (L b.natAbs).length cb) := (S3.box (w1.heap.size + 1, (sg b), .slice ab (L b.natAbs).length cb, L b.natAbs) (by simp)).2.1
          have zB : w1.heap.size + 1 < w3.heap.size := (S3.box (w1.heap.size + 1, (sg b), .slice ab (L b.natAbs).length cb, L b.natAbs) (by simp)).2.2.2
          have cC0 : w3.cell? ⟨w2.heap.size, 0, none⟩ = some (.bool (sg c)) := (S3.box (w2.heap.size, (sg c), .slice ac (L c.natAbs).length cc, L c.natAbs) (by simp)).1
          have cC1 : w3.cell? ⟨w2.heap.size, 1, none⟩ = some (.slice ac (L c.natAbs).length cc) := (S3.box (w2.heap.size, (sg c), .slice ac (L c.natAbs).length cc, L c.natAbs) (by simp)).2.1
          have zC : w2.heap.size < w3.heap.size := (S3.box (w2.heap.size, (sg c), .slice ac (L c.natAbs).length cc, L c.natAbs) (by simp)).2.2.2
          clear k11
          go_wp2_with fail
          refine (unhide CJ _ _ _ (S3.box (w1.heap.size + 1, (sg b), .slice ab (L b.natAbs).length cb, L b.natAbs) (by simp)).2.2.1 (S3.box (w2.heap.size, (sg c), .slice ac (L c.natAbs).length cc, L c.natAbs) (by simp)).2.2.1).mono ?_
          rintro e w4 ⟨rfl, k12⟩
          have S4 := S3.later k12
          clear cB0 cB1 zB cC0 cC1 zC
          have cA0 : w4.cell? ⟨w1.heap.size, 0, none⟩ = some (.bool (sg a)) := (S4.box (w1.heap.size, (sg a), .slice aa (L a.natAbs).length ca, L a.natAbs) (by simp)).1
          have cA1 : w4.cell? ⟨w1.heap.size, 1, none⟩ = some (.slice aa (L a.natAbs).length ca) := (S4.box (w1.heap.size, (sg a), .slice aa (L a.natAbs).length ca, L a.natAbs) (by simp)).2.1
          have zA : w1.heap.size < w4.heap.size := (S4.box (w1.heap.size, (sg a), .slice aa (L a.natAbs).length ca, L a.natAbs) (by simp)).2.2.2
          have cB0 : w4.cell? ⟨w1.heap.size + 1, 0, none⟩ = some (.bool (sg b)) := (S4.box (w1.heap.size + 1, (sg b), .slice ab (L b.natAbs).length cb, L b.natAbs) (by simp)).1
          have cB1 : w4.cell? ⟨w1.heap.size + 1, 1, none⟩ = some (.slice ab (L b.natAbs).length cb) := (S4.box (w1.heap.size + 1, (sg b), .slice ab (L b.natAbs).length cb, L b.natAbs) (by simp)).2.1
          have zB : w1.heap.size + 1 < w4.heap.size := (S4.box (w1.heap.size + 1, (sg b), .slice ab (L b.natAbs).length cb, L b.natAbs) (by simp)).2.2.2
          clear k12
          go_wp2_with fail
          refine (unhide CS _ _ _ (S4.box (w1.heap.size, (sg a), .slice aa (L a.natAbs).length ca, L a.natAbs) (by simp)).2.2.1 (S4.box (w1.heap.size + 1, (sg b), .slice ab (L b.natAbs).length cb, L b.natAbs) (by simp)).2.2.1).mono ?_
          rintro e w5 ⟨rfl, k13⟩
          have S5 := S4.later k13
          clear cA0 cA1 zA cB0 cB1 zB
          have cB0 : w5.cell? ⟨w1.heap.size + 1, 0, none⟩ = some (.bool (sg b)) := (S5.box (w1.heap.size + 1, (sg b), .slice ab (L b.natAbs).length cb, L b.natAbs) (by simp)).1
          have cB1 : w5.cell? ⟨w1.heap.size + 1, 1, none⟩ = some (.slice ab (L b.natAbs).length cb) := (S5.box (w1.heap.size + 1, (sg b), .slice ab (L b.natAbs).length cb, L b.natAbs) (by simp)).2.1
          have zB : w1.heap.size + 1 < w5.heap.size := (S5.box (w1.heap.size + 1, (sg b), .slice ab (L b.natAbs).length cb, L b.natAbs) (by simp)).2.2.2
          have cC0 : w5.cell? ⟨w2.heap.size, 0, none⟩ = some (.bool (sg c)) := (S5.box (w2.heap.size, (sg c), .slice ac (L c.natAbs).length cc, L c.natAbs) (by simp)).1
          have cC1 : w5.cell? ⟨w2.heap.size, 1, none⟩ = some (.slice ac (L c.natAbs).length cc) := (S5.box (w2.heap.size, (sg c), .slice ac (L c.natAbs).length cc, L c.natAbs) (by simp)).2.1
          have zC : w2.heap.size < w5.heap.size := (S5.box (w2.heap.size, (sg c), .slice ac (L c.natAbs).length cc, L c.natAbs) (by simp)).2.2.2
          clear k13
          go_wp2_with fail
          refine (unhide CT _ _ _ (S5.box (w1.heap.size + 1, (sg b), .slice ab (L b.natAbs).length cb, L b.natAbs) (by simp)).2.2.1 (S5.box (w2.heap.size, (sg c), .slice ac (L c.natAbs).length cc, L c.natAbs) (by simp)).2.2.1).mono ?_
          rintro e w6 ⟨rfl, k14⟩
          have S6 := S5.later k14
          clear cB0 cB1 zB cC0 cC1 zC
          clear k14
          go_wp2
          go_ret
          exact ⟨rfl, S6.below⟩
        · rw [cmpZ_gt hx] at CI CS
          rw [cmpZ_eq hy] at CJ CT
          clear CK
          clear hx hy
          go_wp2_with fail
          refine (unhide CI _ _ _ (S2.box (w1.heap.size, (sg a), .slice aa (L a.natAbs).length ca, L a.natAbs) (by simp)).2.2.1 (S2.box (w1.heap.size + 1, (sg b), .slice ab (L b.natAbs).length cb, L b.natAbs) (by simp)).2.2.1).mono ?_
          rintro e w3 ⟨rfl, k11⟩
          have S3 := S2.later k11
          clear cA0 cA1 zA cB0 cB1 zB
          have cB0 : w3.cell? ⟨w1.heap.size + 1, 0, none⟩ = some (.bool (sg b)) := (S3.box (w1.heap.size + 1, (sg b), .slice ab (L b.natAbs).length cb, L b.natAbs) (by simp)).1
          have cB1 : w3.cell? ⟨w1.heap.size + 1, 1, none⟩ = some (.slice ab (L b.natAbs).length cb) := (S3.box (w1.heap.size + 1, (sg b), .slice ab (L b.natAbs).length cb, L b.natAbs) (by simp)).2.1
          have zB : w1.heap.size + 1 < w3.heap.size := (S3.box (w1.heap.size + 1, (sg b), .slice ab (L b.natAbs).length cb, L b.natAbs) (by simp)).2.2.2
          have cC0 : w3.cell? ⟨w2.heap.size, 0, none⟩ = some (.bool (sg c)) := (S3.box (w2.heap.size, (sg c), .slice ac (L c.natAbs).length cc, L c.natAbs) (by simp)).1
          have cC1 : w3.cell? ⟨w2.heap.size, 1, none⟩ = some (.slice ac (L c.natAbs).length cc) := (S3.box (w2.heap.size, (sg c), .slice ac (L c.natAbs).length cc, L c.natAbs) (by simp)).2.1
          have zC : w2.heap.size < w3.heap.size := (S3.box (w2.heap.size, (sg c), .slice ac (L c.natAbs).length cc, L c.natAbs) (by simp)).2.2.2
          clear k11
          go_wp2_with fail
          refine (unhide CJ _ _ _ (S3.box (w1.heap.size + 1, (sg b), .slice ab (L b.natAbs).length cb, L b.natAbs) (by simp)).2.2.1 (S3.box (w2.heap.size, (sg c), .slice ac (L c.natAbs).length cc, L c.natAbs) (by simp)).2.2.1).mono ?_
          rintro e w4 ⟨rfl, k12⟩
          have S4 := S3.later k12
          clear cB0 cB1 zB cC0 cC1 zC
          have cA0 : w4.cell? ⟨w1.heap.size, 0, none⟩ = some (.bool (sg a)) := (S4.box (w1.heap.size, (sg a), .slice aa (L a.natAbs).length ca, L a.natAbs) (by simp)).1
          have cA1 : w4.cell? ⟨w1.heap.size, 1, none⟩ = some (.slice aa (L a.natAbs).length ca) := (S4.box (w1.heap.size, (sg a), .slice aa (L a.natAbs).length ca, L a.natAbs) (by simp)).2.1
          have zA : w1.heap.size < w4.heap.size := (S4.box (w1.heap.size, (sg a), .slice aa (L a.natAbs).length ca, L a.natAbs) (by simp)).2.2.2
          have cB0 : w4.cell? ⟨w1.heap.size + 1, 0, none⟩ = some (.bool (sg b)) := (S4.box (w1.heap.size + 1, (sg b), .slice ab (L b.natAbs).length cb, L b.natAbs) (by simp)).1
          have cB1 : w4.cell? ⟨w1.heap.size + 1, 1, none⟩ = some (.slice ab (L b.natAbs).length cb) := (S4.box (w1.heap.size + 1, (sg b), .slice ab (L b.natAbs).length cb, L b.natAbs) (by simp)).2.1
          have zB : w1.heap.size + 1 < w4.heap.size := (S4.box (w1.heap.size + 1, (sg b), .slice ab (L b.natAbs).length cb, L b.natAbs) (by simp)).2.2.2
          clear k12
          go_wp2_with fail
          refine (unhide CS _ _ _ (S4.box (w1.heap.size, (sg a), .slice aa (L a.natAbs).length ca, L a.natAbs) (by simp)).2.2.1 (S4.box (w1.heap.size + 1, (sg b), .slice ab (L b.natAbs).length cb, L b.natAbs) (by simp)).2.2.1).mono ?_
          rintro e w5 ⟨rfl, k13⟩
          have S5 := S4.later k13
          clear cA0 cA1 zA cB0 cB1 zB
          have cB0 : w5.cell? ⟨w1.heap.size + 1, 0, none⟩ = some (.bool (sg b)) := (S5.box (w1.heap.size + 1, (sg b), .slice ab (L b.natAbs).length cb, L b.natAbs) (by simp)).1
          have cB1 : w5.cell? ⟨w1.heap.size + 1, 1, none⟩ = some (.slice ab (L b.natAbs).length cb) := (S5.box (w1.heap.size + 1, (sg b), .slice ab (L b.natAbs).length cb, L b.natAbs) (by simp)).2.1
          have zB : w1.heap.size + 1 < w5.heap.size := (S5.box (w1.heap.size + 1, (sg b), .slice ab (L b.natAbs).length cb, L b.natAbs) (by simp)).2.2.2
          have cC0 : w5.cell? ⟨w2.heap.size, 0, none⟩ = some (.bool (sg c)) := (S5.box (w2.heap.size, (sg c), .slice ac (L c.natAbs).length cc, L c.natAbs) (by simp)).1
          have cC1 : w5.cell? ⟨w2.heap.size, 1, none⟩ = some (.slice ac (L c.natAbs).length cc) := (S5.box (w2.heap.size, (sg c), .slice ac (L c.natAbs).length cc, L c.natAbs) (by simp)).2.1
          have zC : w2.heap.size < w5.heap.size := (S5.box (w2.heap.size, (sg c), .slice ac (L c.natAbs).length cc, L c.natAbs) (by simp)).2.2.2
          clear k13
          go_wp2_with fail
          refine (unhide CT _ _ _ (S5.box (w1.heap.size + 1, (sg b), .slice ab (L b.natAbs).length cb, L b.natAbs) (by simp)).2.2.1 (S5.box (w2.heap.size, (sg c), .slice ac (L c.natAbs).length cc, L c.natAbs) (by simp)).2.2.1).mono ?_
          rintro e w6 ⟨rfl, k14⟩
          have S6 := S5.later k14
          clear cB0 cB1 zB cC0 cC1 zC
          clear k14
          go_wp2
          go_ret
          exact ⟨rfl, S6.below⟩
        · rw [cmpZ_gt hx] at CI CS
          rw [cmpZ_gt hy] at CJ CT
          rw [cmpZ_gt (show c < a by omega)] at CK
          clear hx hy
          go_wp2_with fail
          refine (unhide CI _ _ _ (S2.box (w1.heap.size, (sg a), .slice aa (L a.natAbs).length ca, L a.natAbs) (by simp)).2.2.1 (S2.box (w1.heap.size + 1, (sg b), .slice ab (L b.natAbs).length cb, L b.natAbs) (by simp)).2.2.1).mono ?_
          rintro e w3 ⟨rfl, k11⟩
          have S3 := S2.later k11
          clear cA0 cA1 zA cB0 cB1 zB
          have cB0 : w3.cell? ⟨w1.heap.size + 1, 0, none⟩ = some (.bool (sg b)) := (S3.box (w1.heap.size + 1, (sg b), .slice ab (L b.natAbs).length cb, L b.natAbs) (by simp)).1
          have cB1 : w3.cell? ⟨w1.heap.size + 1, 1, none⟩ = some (.slice ab (L b.natAbs).length cb) := (S3.box (w1.heap.size + 1, (sg b), .slice ab (L b.natAbs).length cb, L b.natAbs) (by simp)).2.1
          have zB : w1.heap.size + 1 < w3.heap.size := (S3.box (w1.heap.size + 1, (sg b), .slice ab (L b.natAbs).length cb, L b.natAbs) (by simp)).2.2.2
          have cC0 : w3.cell? ⟨w2.heap.size, 0, none⟩ = some (.bool (sg c)) := (S3.box (w2.heap.size, (sg c), .slice ac (L c.natAbs).length cc, L c.natAbs) (by simp)).1
          have cC1 : w3.cell? ⟨w2.heap.size, 1, none⟩ = some (.slice ac (L c.natAbs).length cc) := (S3.box (w2.heap.size, (sg c), .slice ac (L c.natAbs).length cc, L c.natAbs) (by simp)).2.1
          have zC : w2.heap.size < w3.heap.size := (S3.box (w2.heap.size, (sg c), .slice ac (L c.natAbs).length cc, L c.natAbs) (by simp)).2.2.2
          clear k11
          go_wp2_with fail
          refine (unhide CJ _ _ _ (S3.box (w1.heap.size + 1, (sg b), .slice ab (L b.natAbs).length cb, L b.natAbs) (by simp)).2.2.1 (S3.box (w2.heap.size, (sg c), .slice ac (L c.natAbs).length cc, L c.natAbs) (by simp)).2.2.1).mono ?_
          rintro e w4 ⟨rfl, k12⟩
          have S4 := S3.later k12
          clear cB0 cB1 zB cC0 cC1 zC
          have cA0 : w4.cell? ⟨w1.heap.size, 0, none⟩ = some (.bool (sg a)) := (S4.box (w1.heap.size, (sg a), .slice aa (L a.natAbs).length ca, L a.natAbs) (by simp)).1
          have cA1 : w4.cell? ⟨w1.heap.size, 1, none⟩ = some (.slice aa (L a.natAbs).length ca) := (S4.box (w1.heap.size, (sg a), .slice aa (L a.natAbs).length ca, L a.natAbs) (by simp)).2.1
          have zA : w1.heap.size < w4.heap.size := (S4.box (w1.heap.size, (sg a), .slice aa (L a.natAbs).length ca, L a.natAbs) (by simp)).2.2.2
          have cB0 : w4.cell? ⟨w1.heap.size + 1, 0, none⟩ = some (.bool (sg b)) := (S4.box (w1.heap.size + 1, (sg b), .slice ab (L b.natAbs).length cb, L b.natAbs) (by simp)).1
          have cB1 : w4.cell? ⟨w1.heap.size + 1, 1, none⟩ = some (.slice ab (L b.natAbs).length cb) := (S4.box (w1.heap.size + 1, (sg b), .slice ab (L b.natAbs).length cb, L b.natAbs) (by simp)).2.1
          have zB : w1.heap.size + 1 < w4.heap.size := (S4.box (w1.heap.size + 1, (sg b), .slice ab (L b.natAbs).length cb, L b.natAbs) (by simp)).2.2.2
          clear k12
          go_wp2_with fail
          refine (unhide CS _ _ _ (S4.box (w1.heap.size, (sg a), .slice aa (L a.natAbs).length ca, L a.natAbs) (by simp)).2.2.1 (S4.box (w1.heap.size + 1, (sg b), .slice ab (L b.natAbs).length cb, L b.natAbs) (by simp)).2.2.1).mono ?_
          rintro e w5 ⟨rfl, k13⟩
          have S5 := S4.later k13
          clear cA0 cA1 zA cB0 cB1 zB
          have cB0 : w5.cell? ⟨w1.heap.size + 1, 0, none⟩ = some (.bool (sg b)) := (S5.box (w1.heap.size + 1, (sg b), .slice ab (L b.natAbs).length cb, L b.natAbs) (by simp)).1
          have cB1 : w5.cell? ⟨w1.heap.size + 1, 1, none⟩ = some (.slice ab (L b.natAbs).length cb) := (S5.box (w1.heap.size + 1, (sg b), .slice ab (L b.natAbs).length cb, L b.natAbs) (by simp)).2.1
          have zB : w1.heap.size + 1 < w5.heap.size := (S5.box (w1.heap.size + 1, (sg b), .slice ab (L b.natAbs).length cb, L b.natAbs) (by simp)).2.2.2
          have cC0 : w5.cell? ⟨w2.heap.size, 0, none⟩ = some (.bool (sg c)) := (S5.box (w2.heap.size, (sg c), .slice ac (L c.natAbs).length cc, L c.natAbs) (by simp)).1
          have cC1 : w5.cell? ⟨w2.heap.size, 1, none⟩ = some (.slice ac (L c.natAbs).length cc) := (S5.box (w2.heap.size, (sg c), .slice ac (L c.natAbs).length cc, L c.natAbs) (by simp)).2.1
          have zC : w2.heap.size < w5.heap.size := (S5.box (w2.heap.size, (sg c), .slice ac (L c.natAbs).length cc, L c.natAbs) (by simp)).2.2.2
          clear k13
          go_wp2_with fail
          refine (unhide CT _ _ _ (S5.box (w1.heap.size + 1, (sg b), .slice ab (L b.natAbs).length cb, L b.natAbs) (by simp)).2.2.1 (S5.box (w2.heap.size, (sg c), .slice ac (L c.natAbs).length cc, L c.natAbs) (by simp)).2.2.1).mono ?_
          rintro e w6 ⟨rfl, k14⟩
          have S6 := S5.later k14
          clear cB0 cB1 zB cC0 cC1 zC
          have cA0 : w6.cell? ⟨w1.heap.size, 0, none⟩ = some (.bool (sg a)) := (S6.box (w1.heap.size, (sg a), .slice aa (L a.natAbs).length ca, L a.natAbs) (by simp)).1
          have cA1 : w6.cell? ⟨w1.heap.size, 1, none⟩ = some (.slice aa (L a.natAbs).length ca) := (S6.box (w1.heap.size, (sg a), .slice aa (L a.natAbs).length ca, L a.natAbs) (by simp)).2.1
          have zA : w1.heap.size < w6.heap.size := (S6.box (w1.heap.size, (sg a), .slice aa (L a.natAbs).length ca, L a.natAbs) (by simp)).2.2.2
          have cC0 : w6.cell? ⟨w2.heap.size, 0, none⟩ = some (.bool (sg c)) := (S6.box (w2.heap.size, (sg c), .slice ac (L c.natAbs).length cc, L c.natAbs) (by simp)).1
          have cC1 : w6.cell? ⟨w2.heap.size, 1, none⟩ = some (.slice ac (L c.natAbs).length cc) := (S6.box (w2.heap.size, (sg c), .slice ac (L c.natAbs).length cc, L c.natAbs) (by simp)).2.1
          have zC : w2.heap.size < w6.heap.size := (S6.box (w2.heap.size, (sg c), .slice ac (L c.natAbs).length cc, L c.natAbs) (by simp)).2.2.2
          clear k14
          go_wp2_with fail
          refine (unhide CK _ _ _ (S6.box (w1.heap.size, (sg a), .slice aa (L a.natAbs).length ca, L a.natAbs) (by simp)).2.2.1 (S6.box (w2.heap.size, (sg c), .slice ac (L c.natAbs).length cc, L c.natAbs) (by simp)).2.2.1).mono ?_
          rintro e w7 ⟨rfl, k15⟩
          have S7 := S6.later k15
          clear cA0 cA1 zA cC0 cC1 zC
          clear k15
          go_wp2
          go_ret
          exact ⟨rfl, S7.below⟩

end Go.Proofs.Ytfemobaoedccoaa
