/- The law laws.FnBigParts: its walk. -/
import Derived.Test.YtfemobaoedccoaaDrawB
import Derived.Test.YtfemobaoedccoaaBigE
import Derived.Test.YtfemobaoedccoaaBigH
namespace Go.Proofs.Ytfemobaoedccoaa
open Go.RowKit
set_option linter.unusedSimpArgs false

theorem okB_z {a : Int} (h : (L a.natAbs).length ≤ 16) : okB (sg a) (L a.natAbs) = true := by
  refine okB_true ⟨h, L_lim _, fun e => ?_, L_last _⟩
  have : a.natAbs = 0 := L_len_zero.1 (by rw [e]; rfl)
  unfold sg
  simp
  omega

theorem zv_z (a : Int) : zv (sg a) (L a.natAbs) = a := by
  unfold zv zof sg
  rw [val_L, Int.toNat_natCast]
  by_cases h : a < 0 <;> simp [h] <;> omega

theorem implMul_z {W : World} {a b : Int} (ha : (L a.natAbs).length ≤ 16) (hb : (L b.natAbs).length ≤ 16) {u v : Value} (hu : Reads W u (L a.natAbs)) (hv : Reads W v (L b.natAbs)) :
    Calls Try.prog 17 #[.agg #[.bool (sg a), u], .agg #[.bool (sg b), v]] W (GivesBig2 W (outR true (a * b))) := by
  have := implBigMul_any W (sg a) (sg b) u v _ _ hu hv
  rwa [okB_z ha, okB_z hb, zv_z, zv_z] at this
theorem specMul_z {W : World} {a b : Int} (ha : (L a.natAbs).length ≤ 16) (hb : (L b.natAbs).length ≤ 16) {u v : Value} (hu : Reads W u (L a.natAbs)) (hv : Reads W v (L b.natAbs)) :
    Calls Try.prog 18 #[.agg #[.bool (sg a), u], .agg #[.bool (sg b), v]] W (GivesBig2 W (outR true (a * b))) := by
  have := specBigMul_any W (sg a) (sg b) u v _ _ hu hv
  rwa [okB_z ha, okB_z hb, zv_z, zv_z] at this
theorem implAdd_z {W : World} {a b : Int} (ha : (L a.natAbs).length ≤ 16) (hb : (L b.natAbs).length ≤ 16) {u v : Value} (hu : Reads W u (L a.natAbs)) (hv : Reads W v (L b.natAbs)) :
    Calls Try.prog 22 #[.agg #[.bool (sg a), u], .agg #[.bool (sg b), v]] W (GivesBig2 W (outR true (a + b))) := by
  have := implBigAdd_any W (sg a) (sg b) u v _ _ hu hv
  rwa [okB_z ha, okB_z hb, zv_z, zv_z] at this

theorem Stt.own2 {w w1 w2 : World} {cs : List (Nat × Nat × Value)} {os : List (Nat × Nat × Value × List Int)} (h : Stt w w1 cs os) (k : Below w1.heap.size w1 w2) {s s' : Value} {l l' : List Int} (ho : Own w1.heap.size w2 s l) (ho' : Own w1.heap.size w2 s' l') :
    Stt w w2 cs (os ++ [(w1.heap.size, w2.heap.size, s, l), (w1.heap.size, w2.heap.size, s', l')]) := by
  refine ⟨(h.later k).below, (h.later k).cells, fun o hm => ?_⟩
  rcases List.mem_append.1 hm with hm | hm
  · exact (h.later k).owns o hm
  · simp at hm
    rcases hm with rfl | rfl
    · exact ⟨ho, fun j hj => (ho.lt j hj).2, Nat.le_refl _, h.below.size⟩
    · exact ⟨ho', fun j hj => (ho'.lt j hj).2, Nat.le_refl _, h.below.size⟩

theorem out_cases (z : Int) : (outR true z = (sg z, L z.natAbs, true) ∧ (L z.natAbs).length ≤ 16) ∨ outR true z = (false, [], false) := by
  unfold outR
  by_cases h : (L z.natAbs).length ≤ 16
  · exact .inl ⟨by simp [h], h⟩
  · exact .inr (by simp [h])

set_option maxHeartbeats 4000000 in
set_option maxRecDepth 100000 in
theorem bigParts_walk (w : World) (v1 v2 : Value) (hb1 : Byt w v1) (hb2 : Byt w v2) :
    Calls Try.prog 4 #[v1, v2] w fun e w' => e = .returned (.bool true) ∧ Below w.heap.size w w' := by
  have B1 := hide hb1
  have B2 := hide hb2
  obtain ⟨ao1, q1, off1, n1, cap1, rfl, h11, h12, -, -⟩ := hb1
  obtain ⟨ao2, q2, off2, n2, cap2, rfl, h21, h22, -, -⟩ := hb2
  have S0 : Stt w w [] [] := ⟨Below.refl _ _, by simp, by simp⟩
  by_cases g1 : 1048576 < n1
  · go_enter Try.func4, Try.ntmps4
    go_wp2
    go_ret
    exact ⟨rfl, Below.refl _ _⟩
  by_cases g2 : 1048576 < n2
  · go_enter Try.func4, Try.ntmps4
    go_wp2
    go_ret
    exact ⟨rfl, Below.refl _ _⟩
  · go_enter Try.func4, Try.ntmps4
    go_wp2_with fail
    refine (drawMul_any _ _ (unhide B1)).mono ?_
    rintro e w1 ⟨a, b, aa, ca, ab, cb, rfl, ha, hb, oa, ob, b1⟩
    have S1 := ((S0.own2 b1 oa ob).box (.bool (sg a)) (.slice aa (L a.natAbs).length ca) 25).box (.bool (sg b)) (.slice ab (L b.natAbs).length cb) 25
    simp only [List.nil_append, List.cons_append, World.size_alloc] at S1
    clear b1 oa ob S0
    go_wp2_with fail
    refine (drawMul_any _ _ ((unhide B2).later S1.below)).mono ?_
    rintro e w2 ⟨c, d, ac, cc, ad, cd, rfl, hc, -, oc, od, b2⟩
    have S2 := S1.own2 b2 oc od
    simp only [List.nil_append, List.cons_append, World.size_alloc] at S2
    have S2b := (S2.box (.bool (sg c)) (.slice ac (L c.natAbs).length cc) 25).box (.bool (sg d)) (.slice ad (L d.natAbs).length cd) 25
    simp only [List.nil_append, List.cons_append, World.size_alloc] at S2b
    clear b2 oc od S1
    have cA0 : w2.cell? ⟨w1.heap.size, 0, none⟩ = some (.bool (sg a)) := S2.cells (w1.heap.size, 0, .bool (sg a)) (by simp)
    have cA1 : w2.cell? ⟨w1.heap.size, 1, none⟩ = some (.slice aa (L a.natAbs).length ca) := S2.cells (w1.heap.size, 1, .slice aa (L a.natAbs).length ca) (by simp)
    have zA : w1.heap.size < w2.heap.size := S2.blk (c := (w1.heap.size, 0, .bool (sg a))) (by simp)
    have cB0 : w2.cell? ⟨w1.heap.size + 1, 0, none⟩ = some (.bool (sg b)) := S2.cells (w1.heap.size + 1, 0, .bool (sg b)) (by simp)
    have cB1 : w2.cell? ⟨w1.heap.size + 1, 1, none⟩ = some (.slice ab (L b.natAbs).length cb) := S2.cells (w1.heap.size + 1, 1, .slice ab (L b.natAbs).length cb) (by simp)
    have zB : w1.heap.size + 1 < w2.heap.size := S2.blk (c := (w1.heap.size + 1, 0, .bool (sg b))) (by simp)
    clear S2
    have CX := hide (fun (W : World) (u v : Value) (hu : Reads W u (L a.natAbs)) (hv : Reads W v (L b.natAbs)) => implMul_z ha hb hu hv)
    have CW := hide (fun (W : World) (u v : Value) (hu : Reads W u (L a.natAbs)) (hv : Reads W v (L b.natAbs)) => specMul_z ha hb hu hv)
    have CY := hide (fun (W : World) (u v : Value) (hu : Reads W u (L a.natAbs)) (hv : Reads W v (L c.natAbs)) => implMul_z ha hc hu hv)
    have CT := hide (fun (W : World) (u v : Value) (hu : Reads W u (L b.natAbs)) (hv : Reads W v (L c.natAbs)) => implAdd_z hb hc hu hv)
    have E1 := hide (out_cases (a * b))
    have E2 := hide (out_cases (a * c))
    have E3 := hide (out_cases (b + c))
    generalize outR true (a * b) = O1 at *
    generalize outR true (a * c) = O2 at *
    generalize outR true (b + c) = O3 at *
    obtain ⟨p1, l1, k1⟩ := O1
    obtain ⟨p2, l2, k2⟩ := O2
    obtain ⟨p3, l3, k3⟩ := O3
    have hkk : (!(k1 == k1)) = false := by cases k1 <;> rfl
    go_wp2_with fail
    refine (unhide CX _ _ _ (S2b.owns (w.heap.size, w1.heap.size, .slice aa (L a.natAbs).length ca, L a.natAbs) (by simp)).1.reads (S2b.owns (w.heap.size, w1.heap.size, .slice ab (L b.natAbs).length cb, L b.natAbs) (by simp)).1.reads).mono ?_
    rintro e w3 ⟨sax, scx, rfl, owx, blx⟩
    have Sw3 := S2b.own blx owx
    simp only [List.nil_append, List.cons_append, World.size_alloc] at Sw3
    have Sw3b := Sw3.box (.bool p1) (.slice sax l1.length scx) 25
    simp only [List.nil_append, List.cons_append, World.size_alloc] at Sw3b
    clear cA0 cA1 zA cB0 cB1 zB
    have cA0 : w3.cell? ⟨w1.heap.size, 0, none⟩ = some (.bool (sg a)) := Sw3.cells (w1.heap.size, 0, .bool (sg a)) (by simp)
    have cA1 : w3.cell? ⟨w1.heap.size, 1, none⟩ = some (.slice aa (L a.natAbs).length ca) := Sw3.cells (w1.heap.size, 1, .slice aa (L a.natAbs).length ca) (by simp)
    have zA : w1.heap.size < w3.heap.size := Sw3.blk (c := (w1.heap.size, 0, .bool (sg a))) (by simp)
    have cB0 : w3.cell? ⟨w1.heap.size + 1, 0, none⟩ = some (.bool (sg b)) := Sw3.cells (w1.heap.size + 1, 0, .bool (sg b)) (by simp)
    have cB1 : w3.cell? ⟨w1.heap.size + 1, 1, none⟩ = some (.slice ab (L b.natAbs).length cb) := Sw3.cells (w1.heap.size + 1, 1, .slice ab (L b.natAbs).length cb) (by simp)
    have zB : w1.heap.size + 1 < w3.heap.size := Sw3.blk (c := (w1.heap.size + 1, 0, .bool (sg b))) (by simp)
    have cC0 : w3.cell? ⟨w2.heap.size, 0, none⟩ = some (.bool (sg c)) := Sw3.cells (w2.heap.size, 0, .bool (sg c)) (by simp)
    have cC1 : w3.cell? ⟨w2.heap.size, 1, none⟩ = some (.slice ac (L c.natAbs).length cc) := Sw3.cells (w2.heap.size, 1, .slice ac (L c.natAbs).length cc) (by simp)
    have zC : w2.heap.size < w3.heap.size := Sw3.blk (c := (w2.heap.size, 0, .bool (sg c))) (by simp)
    clear blx owx S2b
    go_wp2_with fail
    refine (unhide CW _ _ _ (Sw3b.owns (w.heap.size, w1.heap.size, .slice aa (L a.natAbs).length ca, L a.natAbs) (by simp)).1.reads (Sw3b.owns (w.heap.size, w1.heap.size, .slice ab (L b.natAbs).length cb, L b.natAbs) (by simp)).1.reads).mono ?_
    rintro e w4 ⟨saw, scw, rfl, oww, blw⟩
    have Sw4 := Sw3b.own blw oww
    simp only [List.nil_append, List.cons_append, World.size_alloc] at Sw4
    have Sw4b := Sw4.box (.bool p1) (.slice saw l1.length scw) 25
    simp only [List.nil_append, List.cons_append, World.size_alloc] at Sw4b
    clear cA0 cA1 zA cB0 cB1 zB cC0 cC1 zC
    have cA0 : w4.cell? ⟨w1.heap.size, 0, none⟩ = some (.bool (sg a)) := Sw4.cells (w1.heap.size, 0, .bool (sg a)) (by simp)
    have cA1 : w4.cell? ⟨w1.heap.size, 1, none⟩ = some (.slice aa (L a.natAbs).length ca) := Sw4.cells (w1.heap.size, 1, .slice aa (L a.natAbs).length ca) (by simp)
    have zA : w1.heap.size < w4.heap.size := Sw4.blk (c := (w1.heap.size, 0, .bool (sg a))) (by simp)
    have cB0 : w4.cell? ⟨w1.heap.size + 1, 0, none⟩ = some (.bool (sg b)) := Sw4.cells (w1.heap.size + 1, 0, .bool (sg b)) (by simp)
    have cB1 : w4.cell? ⟨w1.heap.size + 1, 1, none⟩ = some (.slice ab (L b.natAbs).length cb) := Sw4.cells (w1.heap.size + 1, 1, .slice ab (L b.natAbs).length cb) (by simp)
    have zB : w1.heap.size + 1 < w4.heap.size := Sw4.blk (c := (w1.heap.size + 1, 0, .bool (sg b))) (by simp)
    have cC0 : w4.cell? ⟨w2.heap.size, 0, none⟩ = some (.bool (sg c)) := Sw4.cells (w2.heap.size, 0, .bool (sg c)) (by simp)
    have cC1 : w4.cell? ⟨w2.heap.size, 1, none⟩ = some (.slice ac (L c.natAbs).length cc) := Sw4.cells (w2.heap.size, 1, .slice ac (L c.natAbs).length cc) (by simp)
    have zC : w2.heap.size < w4.heap.size := Sw4.blk (c := (w2.heap.size, 0, .bool (sg c))) (by simp)
    clear blw oww Sw3b
    go_wp2_with fail
    refine (unhide CY _ _ _ (Sw4b.owns (w.heap.size, w1.heap.size, .slice aa (L a.natAbs).length ca, L a.natAbs) (by simp)).1.reads (Sw4b.owns (w1.heap.size + 1 + 1, w2.heap.size, .slice ac (L c.natAbs).length cc, L c.natAbs) (by simp)).1.reads).mono ?_
    rintro e w5 ⟨say, scy, rfl, owy, bly⟩
    have Sw5 := Sw4b.own bly owy
    simp only [List.nil_append, List.cons_append, World.size_alloc] at Sw5
    have Sw5b := Sw5.box (.bool p2) (.slice say l2.length scy) 25
    simp only [List.nil_append, List.cons_append, World.size_alloc] at Sw5b
    clear cA0 cA1 zA cB0 cB1 zB cC0 cC1 zC
    have cA0 : w5.cell? ⟨w1.heap.size, 0, none⟩ = some (.bool (sg a)) := Sw5.cells (w1.heap.size, 0, .bool (sg a)) (by simp)
    have cA1 : w5.cell? ⟨w1.heap.size, 1, none⟩ = some (.slice aa (L a.natAbs).length ca) := Sw5.cells (w1.heap.size, 1, .slice aa (L a.natAbs).length ca) (by simp)
    have zA : w1.heap.size < w5.heap.size := Sw5.blk (c := (w1.heap.size, 0, .bool (sg a))) (by simp)
    have cB0 : w5.cell? ⟨w1.heap.size + 1, 0, none⟩ = some (.bool (sg b)) := Sw5.cells (w1.heap.size + 1, 0, .bool (sg b)) (by simp)
    have cB1 : w5.cell? ⟨w1.heap.size + 1, 1, none⟩ = some (.slice ab (L b.natAbs).length cb) := Sw5.cells (w1.heap.size + 1, 1, .slice ab (L b.natAbs).length cb) (by simp)
    have zB : w1.heap.size + 1 < w5.heap.size := Sw5.blk (c := (w1.heap.size + 1, 0, .bool (sg b))) (by simp)
    have cC0 : w5.cell? ⟨w2.heap.size, 0, none⟩ = some (.bool (sg c)) := Sw5.cells (w2.heap.size, 0, .bool (sg c)) (by simp)
    have cC1 : w5.cell? ⟨w2.heap.size, 1, none⟩ = some (.slice ac (L c.natAbs).length cc) := Sw5.cells (w2.heap.size, 1, .slice ac (L c.natAbs).length cc) (by simp)
    have zC : w2.heap.size < w5.heap.size := Sw5.blk (c := (w2.heap.size, 0, .bool (sg c))) (by simp)
    have cX0 : w5.cell? ⟨w3.heap.size, 0, none⟩ = some (.bool p1) := Sw5.cells (w3.heap.size, 0, .bool p1) (by simp)
    have cX1 : w5.cell? ⟨w3.heap.size, 1, none⟩ = some (.slice sax l1.length scx) := Sw5.cells (w3.heap.size, 1, .slice sax l1.length scx) (by simp)
    have zX : w3.heap.size < w5.heap.size := Sw5.blk (c := (w3.heap.size, 0, .bool p1)) (by simp)
    have cW0 : w5.cell? ⟨w4.heap.size, 0, none⟩ = some (.bool p1) := Sw5.cells (w4.heap.size, 0, .bool p1) (by simp)
    have cW1 : w5.cell? ⟨w4.heap.size, 1, none⟩ = some (.slice saw l1.length scw) := Sw5.cells (w4.heap.size, 1, .slice saw l1.length scw) (by simp)
    have zW : w4.heap.size < w5.heap.size := Sw5.blk (c := (w4.heap.size, 0, .bool p1)) (by simp)
    clear bly owy Sw4b
    go_wp2_with fail
    refine (unhide CT _ _ _ (Sw5b.owns (w.heap.size, w1.heap.size, .slice ab (L b.natAbs).length cb, L b.natAbs) (by simp)).1.reads (Sw5b.owns (w1.heap.size + 1 + 1, w2.heap.size, .slice ac (L c.natAbs).length cc, L c.natAbs) (by simp)).1.reads).mono ?_
    rintro e w6 ⟨sat, sct, rfl, owt, blt⟩
    have Sw6 := Sw5b.own blt owt
    simp only [List.nil_append, List.cons_append, World.size_alloc] at Sw6
    have Sw6b := Sw6.box (.bool p3) (.slice sat l3.length sct) 25
    simp only [List.nil_append, List.cons_append, World.size_alloc] at Sw6b
    clear cA0 cA1 zA cB0 cB1 zB cC0 cC1 zC cX0 cX1 zX cW0 cW1 zW
    have cA0 : w6.cell? ⟨w1.heap.size, 0, none⟩ = some (.bool (sg a)) := Sw6.cells (w1.heap.size, 0, .bool (sg a)) (by simp)
    have cA1 : w6.cell? ⟨w1.heap.size, 1, none⟩ = some (.slice aa (L a.natAbs).length ca) := Sw6.cells (w1.heap.size, 1, .slice aa (L a.natAbs).length ca) (by simp)
    have zA : w1.heap.size < w6.heap.size := Sw6.blk (c := (w1.heap.size, 0, .bool (sg a))) (by simp)
    have cX0 : w6.cell? ⟨w3.heap.size, 0, none⟩ = some (.bool p1) := Sw6.cells (w3.heap.size, 0, .bool p1) (by simp)
    have cX1 : w6.cell? ⟨w3.heap.size, 1, none⟩ = some (.slice sax l1.length scx) := Sw6.cells (w3.heap.size, 1, .slice sax l1.length scx) (by simp)
    have zX : w3.heap.size < w6.heap.size := Sw6.blk (c := (w3.heap.size, 0, .bool p1)) (by simp)
    have cW0 : w6.cell? ⟨w4.heap.size, 0, none⟩ = some (.bool p1) := Sw6.cells (w4.heap.size, 0, .bool p1) (by simp)
    have cW1 : w6.cell? ⟨w4.heap.size, 1, none⟩ = some (.slice saw l1.length scw) := Sw6.cells (w4.heap.size, 1, .slice saw l1.length scw) (by simp)
    have zW : w4.heap.size < w6.heap.size := Sw6.blk (c := (w4.heap.size, 0, .bool p1)) (by simp)
    have cY0 : w6.cell? ⟨w5.heap.size, 0, none⟩ = some (.bool p2) := Sw6.cells (w5.heap.size, 0, .bool p2) (by simp)
    have cY1 : w6.cell? ⟨w5.heap.size, 1, none⟩ = some (.slice say l2.length scy) := Sw6.cells (w5.heap.size, 1, .slice say l2.length scy) (by simp)
    have zY : w5.heap.size < w6.heap.size := Sw6.blk (c := (w5.heap.size, 0, .bool p2)) (by simp)
    clear blt owt Sw5b
    clear Sw3 Sw4 Sw5 CX CW CY CT
    go_wp2_with fail
    refine (jtBig_same _ p1 _ _ l1 (Sw6b.owns (w2.heap.size + 1 + 1, w3.heap.size, .slice sax l1.length scx, l1) (by simp)).1.reads (Sw6b.owns (w3.heap.size + 1, w4.heap.size, .slice saw l1.length scw, l1) (by simp)).1.reads).mono ?_
    rintro e w7 ⟨rfl, b7⟩
    have S7 := Sw6b.later b7
    clear b7 Sw6 Sw6b
    clear cA0 cA1 zA cX0 cX1 zX cW0 cW1 zW cY0 cY1 zY
    have cA0 : w7.cell? ⟨w1.heap.size, 0, none⟩ = some (.bool (sg a)) := S7.cells (w1.heap.size, 0, .bool (sg a)) (by simp)
    have cA1 : w7.cell? ⟨w1.heap.size, 1, none⟩ = some (.slice aa (L a.natAbs).length ca) := S7.cells (w1.heap.size, 1, .slice aa (L a.natAbs).length ca) (by simp)
    have zA : w1.heap.size < w7.heap.size := S7.blk (c := (w1.heap.size, 0, .bool (sg a))) (by simp)
    have cX0 : w7.cell? ⟨w3.heap.size, 0, none⟩ = some (.bool p1) := S7.cells (w3.heap.size, 0, .bool p1) (by simp)
    have cX1 : w7.cell? ⟨w3.heap.size, 1, none⟩ = some (.slice sax l1.length scx) := S7.cells (w3.heap.size, 1, .slice sax l1.length scx) (by simp)
    have zX : w3.heap.size < w7.heap.size := S7.blk (c := (w3.heap.size, 0, .bool p1)) (by simp)
    have cW0 : w7.cell? ⟨w4.heap.size, 0, none⟩ = some (.bool p1) := S7.cells (w4.heap.size, 0, .bool p1) (by simp)
    have cW1 : w7.cell? ⟨w4.heap.size, 1, none⟩ = some (.slice saw l1.length scw) := S7.cells (w4.heap.size, 1, .slice saw l1.length scw) (by simp)
    have zW : w4.heap.size < w7.heap.size := S7.blk (c := (w4.heap.size, 0, .bool p1)) (by simp)
    have cY0 : w7.cell? ⟨w5.heap.size, 0, none⟩ = some (.bool p2) := S7.cells (w5.heap.size, 0, .bool p2) (by simp)
    have cY1 : w7.cell? ⟨w5.heap.size, 1, none⟩ = some (.slice say l2.length scy) := S7.cells (w5.heap.size, 1, .slice say l2.length scy) (by simp)
    have zY : w5.heap.size < w7.heap.size := S7.blk (c := (w5.heap.size, 0, .bool p2)) (by simp)
    have cT0 : w7.cell? ⟨w6.heap.size, 0, none⟩ = some (.bool p3) := S7.cells (w6.heap.size, 0, .bool p3) (by simp)
    have cT1 : w7.cell? ⟨w6.heap.size, 1, none⟩ = some (.slice sat l3.length sct) := S7.cells (w6.heap.size, 1, .slice sat l3.length sct) (by simp)
    have zT : w6.heap.size < w7.heap.size := S7.blk (c := (w6.heap.size, 0, .bool p3)) (by simp)
    by_cases hall : k1 = true ∧ k2 = true ∧ k3 = true
    · obtain ⟨rfl, rfl, rfl⟩ := hall
      have F1 : p1 = sg (a * b) ∧ l1 = L (a * b).natAbs ∧ (L (a * b).natAbs).length ≤ 16 := by
        rcases unhide E1 with ⟨e, h⟩ | e <;> simp at e
        exact ⟨e.1, e.2, h⟩
      have F2 : p2 = sg (a * c) ∧ l2 = L (a * c).natAbs ∧ (L (a * c).natAbs).length ≤ 16 := by
        rcases unhide E2 with ⟨e, h⟩ | e <;> simp at e
        exact ⟨e.1, e.2, h⟩
      have F3 : p3 = sg (b + c) ∧ l3 = L (b + c).natAbs ∧ (L (b + c).natAbs).length ≤ 16 := by
        rcases unhide E3 with ⟨e, h⟩ | e <;> simp at e
        exact ⟨e.1, e.2, h⟩
      clear E1 E2 E3
      obtain ⟨rfl, rfl, hx⟩ := F1
      obtain ⟨rfl, rfl, hy⟩ := F2
      obtain ⟨rfl, rfl, ht⟩ := F3
      have CZ := hide (fun (W : World) (u v : Value) (hu : Reads W u (L a.natAbs)) (hv : Reads W v (L (b + c).natAbs)) => implMul_z ha ht hu hv)
      have CV := hide (fun (W : World) (u v : Value) (hu : Reads W u (L (a * b).natAbs)) (hv : Reads W v (L (a * c).natAbs)) => implAdd_z hx hy hu hv)
      rw [Int.mul_add] at CZ
      generalize outR true (a * b + a * c) = O at *
      obtain ⟨p4, l4, k4⟩ := O
      have hk4 : (k4 == k4) = true := by simp
      go_wp2_with fail
      refine (unhide CZ _ _ _ (S7.owns (w.heap.size, w1.heap.size, .slice aa (L a.natAbs).length ca, L a.natAbs) (by simp)).1.reads (S7.owns (w5.heap.size + 1, w6.heap.size, .slice sat (L (b + c).natAbs).length sct, L (b + c).natAbs) (by simp)).1.reads).mono ?_
      rintro e w8 ⟨saz, scz, rfl, owz, blz⟩
      have S8 := S7.own blz owz
      simp only [List.nil_append, List.cons_append, World.size_alloc] at S8
      have S8b := S8.box (.bool p4) (.slice saz l4.length scz) 25
      simp only [List.nil_append, List.cons_append, World.size_alloc] at S8b
      clear blz owz S7
      clear cA0 cA1 zA cX0 cX1 zX cW0 cW1 zW cY0 cY1 zY cT0 cT1 zT
      have cX0 : w8.cell? ⟨w3.heap.size, 0, none⟩ = some (.bool (sg (a * b))) := S8.cells (w3.heap.size, 0, .bool (sg (a * b))) (by simp)
      have cX1 : w8.cell? ⟨w3.heap.size, 1, none⟩ = some (.slice sax (L (a * b).natAbs).length scx) := S8.cells (w3.heap.size, 1, .slice sax (L (a * b).natAbs).length scx) (by simp)
      have zX : w3.heap.size < w8.heap.size := S8.blk (c := (w3.heap.size, 0, .bool (sg (a * b)))) (by simp)
      have cY0 : w8.cell? ⟨w5.heap.size, 0, none⟩ = some (.bool (sg (a * c))) := S8.cells (w5.heap.size, 0, .bool (sg (a * c))) (by simp)
      have cY1 : w8.cell? ⟨w5.heap.size, 1, none⟩ = some (.slice say (L (a * c).natAbs).length scy) := S8.cells (w5.heap.size, 1, .slice say (L (a * c).natAbs).length scy) (by simp)
      have zY : w5.heap.size < w8.heap.size := S8.blk (c := (w5.heap.size, 0, .bool (sg (a * c)))) (by simp)
      clear S8
      go_wp2_with fail
      refine (unhide CV _ _ _ (S8b.owns (w2.heap.size + 1 + 1, w3.heap.size, .slice sax (L (a * b).natAbs).length scx, L (a * b).natAbs) (by simp)).1.reads (S8b.owns (w4.heap.size + 1, w5.heap.size, .slice say (L (a * c).natAbs).length scy, L (a * c).natAbs) (by simp)).1.reads).mono ?_
      rintro e w9 ⟨sav, scv, rfl, owv, blv⟩
      have S9 := S8b.own blv owv
      simp only [List.nil_append, List.cons_append, World.size_alloc] at S9
      have S9b := S9.box (.bool p4) (.slice sav l4.length scv) 25
      simp only [List.nil_append, List.cons_append, World.size_alloc] at S9b
      clear blv owv S8b
      clear cX0 cX1 zX cY0 cY1 zY
      have cZ0 : w9.cell? ⟨w8.heap.size, 0, none⟩ = some (.bool p4) := S9.cells (w8.heap.size, 0, .bool p4) (by simp)
      have cZ1 : w9.cell? ⟨w8.heap.size, 1, none⟩ = some (.slice saz l4.length scz) := S9.cells (w8.heap.size, 1, .slice saz l4.length scz) (by simp)
      have zZ : w8.heap.size < w9.heap.size := S9.blk (c := (w8.heap.size, 0, .bool p4)) (by simp)
      clear S9
      go_wp2_with fail
      refine (jtBig_same _ p4 _ _ l4 (S9b.owns (w7.heap.size, w8.heap.size, .slice saz l4.length scz, l4) (by simp)).1.reads (S9b.owns (w8.heap.size + 1, w9.heap.size, .slice sav l4.length scv, l4) (by simp)).1.reads).mono ?_
      rintro e w10 ⟨rfl, b10⟩
      have S10 := S9b.later b10
      clear b10 S9b cZ0 cZ1 zZ
      go_wp2
      go_ret
      exact ⟨rfl, S10.below⟩
    · clear cA0 cA1 cY0 cY1 cT0 cT1
      cases k1 <;> cases k2 <;> cases k3
      all_goals
        first
          | exact absurd ⟨rfl, rfl, rfl⟩ hall
          | skip
      all_goals
        clear hall hkk E1 E2 E3
        go_wp2_with fail
        refine (jtBig_same _ p1 _ _ l1 (S7.owns (w2.heap.size + 1 + 1, w3.heap.size, .slice sax l1.length scx, l1) (by simp)).1.reads (S7.owns (w3.heap.size + 1, w4.heap.size, .slice saw l1.length scw, l1) (by simp)).1.reads).mono ?_
        rintro e w8 ⟨rfl, b8⟩
        have S8 := S7.later b8
        clear b8 S7 cX0 cX1 cW0 cW1
        go_wp2
        go_ret
        exact ⟨rfl, S8.below⟩

end Go.Proofs.Ytfemobaoedccoaa
