/- The law FnDecMulSum: its walk. -/
import Derived.Test.YthnkmjkgcnhlfaaGreatDoorNumM
import Derived.Test.YthnkmjkgcnhlfaaGreatDoorDrMu
import Derived.Test.YthnkmjkgcnhlfaaGreatDoorH08
import Derived.Test.YthnkmjkgcnhlfaaGreatDoorByt1
import Derived.Test.YthnkmjkgcnhlfaaGreatDoorDSt
namespace Go.Proofs.YthnkmjkgcnhlfaaGreatDoor
open Go.RowKit
set_option linter.unusedSimpArgs false
set_option maxRecDepth 100000


set_option maxHeartbeats 4000000 in
theorem xDecMulSumP_walk (w : World) (u u1 : Value) (hu : Byt w u) (hu1 : Byt w u1) (tt : Tab w) (hd : Hd w) :
    Calls Tryz.prog 6 #[u, u1] w fun e w' => e = .returned (.bool true) ∧ Below w.heap.size w w' := by
  have C0 := hide (drawDecMul_any w u hu)
  have CM := hide (fun W (b : Below w.heap.size w W) => drawDecMul_any W u1 (hu1.later b))
  obtain ⟨ao, N, cap, rfl, hn⟩ := byt_len hu
  obtain ⟨ao1, N1, cap1, rfl, hn1⟩ := byt_len hu1
  clear hu hu1
  by_cases hl : (1048576 : Int) < N
  · have t0 : decide ((1048576 : Int) < N) = true := by simpa using hl
    go_enter Tryz.func6, Tryz.ntmps6
    go_wp2
    go_ret
    exact ⟨rfl, Below.refl _ _⟩
  have t0 : decide ((1048576 : Int) < N) = false := by simpa using hl
  by_cases hl1 : (1048576 : Int) < N1
  · have t1 : decide ((1048576 : Int) < N1) = true := by simpa using hl1
    go_enter Tryz.func6, Tryz.ntmps6
    go_wp2
    go_ret
    exact ⟨rfl, Below.refl _ _⟩
  have t1 : decide ((1048576 : Int) < N1) = false := by simpa using hl1
  go_enter Tryz.func6, Tryz.ntmps6
  go_wp2_with fail
  refine (unhide C0).mono ?_
  rintro e w1 ⟨p, q, l, m, s, t, aa, ca, ab, cb, rfl, oa, ob, b1⟩
  have S1 := ((DS.start b1).add p (.slice aa l.length ca) l s oa.reads).add q (.slice ab m.length cb) m t (ob.reads.alloc _)
  simp only [List.nil_append, List.cons_append, World.size_alloc] at S1
  clear C0 b1 oa ob
  go_wp2_with fail
  refine (unhide CM _ S1.below).mono ?_
  rintro e w2 ⟨p2, q2, l2, m2, s2, t2, ac, cc, ad, cd, rfl, oc, od, k2⟩
  have R2 := S1.later k2
  have S2 := (R2.add p2 (.slice ac l2.length cc) l2 s2 oc.reads).add q2 (.slice ad m2.length cd) m2 t2 (od.reads.alloc _)
  simp only [List.nil_append, List.cons_append, World.size_alloc] at S2
  clear k2 oc od S1 CM
  obtain ⟨og, ol, os, on, hO⟩ : ∃ og ol os on, dmulR p l s q m t = (og, ol, os, on) := ⟨_, _, _, _, rfl⟩
  have CI := hide (fun W u v (hu : Reads W u l) (hv : Reads W v m) (k : Below w.heap.size w W) => implDecMul_any W p q u v l m s t hu hv (tt.later k) (hd.later k))
  have CS := hide (fun W u v (hu : Reads W u l) (hv : Reads W v m) => specDecMul_any W p q u v l m s t hu hv)
  rw [hO] at CI CS
  obtain ⟨cA0, cA1, cA2, -, zA⟩ := R2.box (w1.heap.size, p, .slice aa l.length ca, l, s) (by simp)
  obtain ⟨cB0, cB1, cB2, -, zB⟩ := R2.box (w1.heap.size + 1, q, .slice ab m.length cb, m, t) (by simp)
  go_wp2_with fail
  refine (unhide CI _ _ _ (S2.box (w1.heap.size, p, .slice aa l.length ca, l, s) (by simp)).2.2.2.1 (S2.box (w1.heap.size + 1, q, .slice ab m.length cb, m, t) (by simp)).2.2.2.1 S2.below).mono ?_
  rintro e w3 ⟨a3, c3, rfl, o3, k3⟩
  simp only at o3 ⊢
  have R3 := S2.later k3
  have S3 := R3.add (og) (.slice a3 (ol).length c3) (ol) (os) o3.reads
  simp only [List.nil_append, List.cons_append, World.size_alloc] at S3
  clear cA0 cA1 cA2 zA
  clear cB0 cB1 cB2 zB
  clear k3 o3 S2 R2
  obtain ⟨cA0, cA1, cA2, -, zA⟩ := R3.box (w1.heap.size, p, .slice aa l.length ca, l, s) (by simp)
  obtain ⟨cB0, cB1, cB2, -, zB⟩ := R3.box (w1.heap.size + 1, q, .slice ab m.length cb, m, t) (by simp)
  go_wp2_with fail
  refine (unhide CS _ _ _ (S3.box (w1.heap.size, p, .slice aa l.length ca, l, s) (by simp)).2.2.2.1 (S3.box (w1.heap.size + 1, q, .slice ab m.length cb, m, t) (by simp)).2.2.2.1).mono ?_
  rintro e w4 ⟨a4, c4, rfl, o4, k4⟩
  simp only at o4 ⊢
  have R4 := S3.later k4
  have S4 := R4.add (og) (.slice a4 (ol).length c4) (ol) (os) o4.reads
  simp only [List.nil_append, List.cons_append, World.size_alloc] at S4
  clear cA0 cA1 cA2 zA
  clear cB0 cB1 cB2 zB
  clear k4 o4 S3 R3
  have hnn : (on != on) = false := by simp
  have hnn2 : (on == on) = true := by simp
  clear CI CS
  have HO := hide hO
  clear hO
  obtain ⟨cX0, cX1, cX2, -, zX⟩ := R4.box (w3.heap.size, (og), .slice a3 (ol).length c3, (ol), (os)) (by simp)
  go_wp2_with fail
  refine (jtDec_same _ (og) _ _ (ol) (os) (S4.box (w3.heap.size, (og), .slice a3 (ol).length c3, (ol), (os)) (by simp)).2.2.2.1 (S4.box (w4.heap.size, (og), .slice a4 (ol).length c4, (ol), (os)) (by simp)).2.2.2.1).mono ?_
  rintro e w5 ⟨rfl, k5⟩
  have S5 := S4.later k5
  clear cX0 cX1 cX2 zX
  clear k5 S4 R4
  obtain ⟨cA0, cA1, cA2, -, zA⟩ := S5.box (w1.heap.size, p, .slice aa l.length ca, l, s) (by simp)
  obtain ⟨cB0, cB1, cB2, -, zB⟩ := S5.box (w1.heap.size + 1, q, .slice ab m.length cb, m, t) (by simp)
  obtain ⟨cC0, cC1, cC2, -, zC⟩ := S5.box (w2.heap.size, p2, .slice ac l2.length cc, l2, s2) (by simp)
  by_cases h0 : on = 0
  case neg =>
    have hn0 : (on != 0) = true := by simpa using h0
    clear h0 HO
    obtain ⟨cX0, cX1, cX2, -, zX⟩ := S5.box (w3.heap.size, (og), .slice a3 (ol).length c3, (ol), (os)) (by simp)
    obtain ⟨cY0, cY1, cY2, -, zY⟩ := S5.box (w4.heap.size, (og), .slice a4 (ol).length c4, (ol), (os)) (by simp)
    go_wp2_with fail
    refine (jtDec_same _ (og) _ _ (ol) (os) (S5.box (w3.heap.size, (og), .slice a3 (ol).length c3, (ol), (os)) (by simp)).2.2.2.1 (S5.box (w4.heap.size, (og), .slice a4 (ol).length c4, (ol), (os)) (by simp)).2.2.2.1).mono ?_
    rintro e w6 ⟨rfl, k6⟩
    have S6 := S5.later k6
    clear cA0 cA1 cA2 zA
    clear cB0 cB1 cB2 zB
    clear cC0 cC1 cC2 zC
    clear cX0 cX1 cX2 zX
    clear cY0 cY1 cY2 zY
    clear k6 S5
    go_wp2
    go_ret
    exact ⟨rfl, S6.below⟩
  subst h0
  by_cases g0 : 6 < s
  case pos =>
    have f0 : decide (6 < s) = true := by simpa using g0
    clear HO g0
    obtain ⟨cX0, cX1, cX2, -, zX⟩ := S5.box (w3.heap.size, (og), .slice a3 (ol).length c3, (ol), (os)) (by simp)
    obtain ⟨cY0, cY1, cY2, -, zY⟩ := S5.box (w4.heap.size, (og), .slice a4 (ol).length c4, (ol), (os)) (by simp)
    go_wp2_with fail
    refine (jtDec_same _ (og) _ _ (ol) (os) (S5.box (w3.heap.size, (og), .slice a3 (ol).length c3, (ol), (os)) (by simp)).2.2.2.1 (S5.box (w4.heap.size, (og), .slice a4 (ol).length c4, (ol), (os)) (by simp)).2.2.2.1).mono ?_
    rintro e w6 ⟨rfl, k6⟩
    have S6 := S5.later k6
    clear cA0 cA1 cA2 zA
    clear cB0 cB1 cB2 zB
    clear cC0 cC1 cC2 zC
    clear cX0 cX1 cX2 zX
    clear cY0 cY1 cY2 zY
    clear k6 S5
    go_wp2
    go_ret
    exact ⟨rfl, S6.below⟩
  have f0 : decide (6 < s) = false := by simpa using g0
  have G0 := hide g0
  clear g0
  by_cases g1 : 6 < t
  case pos =>
    have f1 : decide (6 < t) = true := by simpa using g1
    clear HO g1
    obtain ⟨cX0, cX1, cX2, -, zX⟩ := S5.box (w3.heap.size, (og), .slice a3 (ol).length c3, (ol), (os)) (by simp)
    obtain ⟨cY0, cY1, cY2, -, zY⟩ := S5.box (w4.heap.size, (og), .slice a4 (ol).length c4, (ol), (os)) (by simp)
    go_wp2_with fail
    refine (jtDec_same _ (og) _ _ (ol) (os) (S5.box (w3.heap.size, (og), .slice a3 (ol).length c3, (ol), (os)) (by simp)).2.2.2.1 (S5.box (w4.heap.size, (og), .slice a4 (ol).length c4, (ol), (os)) (by simp)).2.2.2.1).mono ?_
    rintro e w6 ⟨rfl, k6⟩
    have S6 := S5.later k6
    clear cA0 cA1 cA2 zA
    clear cB0 cB1 cB2 zB
    clear cC0 cC1 cC2 zC
    clear cX0 cX1 cX2 zX
    clear cY0 cY1 cY2 zY
    clear k6 S5
    go_wp2
    go_ret
    exact ⟨rfl, S6.below⟩
  have f1 : decide (6 < t) = false := by simpa using g1
  have G1 := hide g1
  clear g1
  by_cases g2 : 6 < s2
  case pos =>
    have f2 : decide (6 < s2) = true := by simpa using g2
    clear HO g2
    obtain ⟨cX0, cX1, cX2, -, zX⟩ := S5.box (w3.heap.size, (og), .slice a3 (ol).length c3, (ol), (os)) (by simp)
    obtain ⟨cY0, cY1, cY2, -, zY⟩ := S5.box (w4.heap.size, (og), .slice a4 (ol).length c4, (ol), (os)) (by simp)
    go_wp2_with fail
    refine (jtDec_same _ (og) _ _ (ol) (os) (S5.box (w3.heap.size, (og), .slice a3 (ol).length c3, (ol), (os)) (by simp)).2.2.2.1 (S5.box (w4.heap.size, (og), .slice a4 (ol).length c4, (ol), (os)) (by simp)).2.2.2.1).mono ?_
    rintro e w6 ⟨rfl, k6⟩
    have S6 := S5.later k6
    clear cA0 cA1 cA2 zA
    clear cB0 cB1 cB2 zB
    clear cC0 cC1 cC2 zC
    clear cX0 cX1 cX2 zX
    clear cY0 cY1 cY2 zY
    clear k6 S5
    go_wp2
    go_ret
    exact ⟨rfl, S6.below⟩
  have f2 : decide (6 < s2) = false := by simpa using g2
  have G2 := hide g2
  clear g2
  obtain ⟨yg, yl, ys, yn, yO⟩ : ∃ x1 x2 x3 x4, dmulR p l s p2 l2 s2 = (x1, x2, x3, x4) := ⟨_, _, _, _, rfl⟩
  have CC := hide (fun W u v (hu : Reads W u l) (hv : Reads W v l2) (k : Below w.heap.size w W) => implDecMul_any W p p2 u v l l2 s s2 hu hv (tt.later k) (hd.later k))
  rw [yO] at CC
  have yH := hide yO
  clear yO
  go_wp2_with fail
  refine (unhide CC _ _ _ (S5.box (w1.heap.size, p, .slice aa l.length ca, l, s) (by simp)).2.2.2.1 (S5.box (w2.heap.size, p2, .slice ac l2.length cc, l2, s2) (by simp)).2.2.2.1 S5.below).mono ?_
  rintro e w6 ⟨a6, c6, rfl, o6, k6⟩
  simp only at o6 ⊢
  have R6 := S5.later k6
  have S6 := R6.add (yg) (.slice a6 (yl).length c6) (yl) (ys) o6.reads
  simp only [List.nil_append, List.cons_append, World.size_alloc] at S6
  clear cA0 cA1 cA2 zA
  clear cB0 cB1 cB2 zB
  clear cC0 cC1 cC2 zC
  clear k6 o6 S5
  clear CC
  obtain ⟨vg, vl, vs, vn, vO⟩ : ∃ x1 x2 x3 x4, daddR q m t p2 l2 s2 = (x1, x2, x3, x4) := ⟨_, _, _, _, rfl⟩
  have CC := hide (fun W u v (hu : Reads W u m) (hv : Reads W v l2) (k : Below w.heap.size w W) => implDecAdd_any W q p2 u v m l2 t s2 hu hv (tt.later k) (hd.later k))
  rw [vO] at CC
  have vH := hide vO
  clear vO
  obtain ⟨cB0, cB1, cB2, -, zB⟩ := R6.box (w1.heap.size + 1, q, .slice ab m.length cb, m, t) (by simp)
  obtain ⟨cC0, cC1, cC2, -, zC⟩ := R6.box (w2.heap.size, p2, .slice ac l2.length cc, l2, s2) (by simp)
  go_wp2_with fail
  refine (unhide CC _ _ _ (S6.box (w1.heap.size + 1, q, .slice ab m.length cb, m, t) (by simp)).2.2.2.1 (S6.box (w2.heap.size, p2, .slice ac l2.length cc, l2, s2) (by simp)).2.2.2.1 S6.below).mono ?_
  rintro e w7 ⟨a7, c7, rfl, o7, k7⟩
  simp only at o7 ⊢
  have R7 := S6.later k7
  have S7 := R7.add (vg) (.slice a7 (vl).length c7) (vl) (vs) o7.reads
  simp only [List.nil_append, List.cons_append, World.size_alloc] at S7
  clear cB0 cB1 cB2 zB
  clear cC0 cC1 cC2 zC
  clear k7 o7 S6 R6
  clear CC
  obtain ⟨zg, zl, zs, zn, zO⟩ : ∃ x1 x2 x3 x4, dmulR p l s (vg) (vl) (vs) = (x1, x2, x3, x4) := ⟨_, _, _, _, rfl⟩
  have CC := hide (fun W u v (hu : Reads W u l) (hv : Reads W v (vl)) (k : Below w.heap.size w W) => implDecMul_any W p (vg) u v l (vl) s (vs) hu hv (tt.later k) (hd.later k))
  rw [zO] at CC
  have zH := hide zO
  clear zO
  obtain ⟨cA0, cA1, cA2, -, zA⟩ := R7.box (w1.heap.size, p, .slice aa l.length ca, l, s) (by simp)
  go_wp2_with fail
  refine (unhide CC _ _ _ (S7.box (w1.heap.size, p, .slice aa l.length ca, l, s) (by simp)).2.2.2.1 (S7.box (w7.heap.size, (vg), .slice a7 (vl).length c7, (vl), (vs)) (by simp)).2.2.2.1 S7.below).mono ?_
  rintro e w8 ⟨a8, c8, rfl, o8, k8⟩
  simp only at o8 ⊢
  have R8 := S7.later k8
  have S8 := R8.add (zg) (.slice a8 (zl).length c8) (zl) (zs) o8.reads
  simp only [List.nil_append, List.cons_append, World.size_alloc] at S8
  clear cA0 cA1 cA2 zA
  clear k8 o8 S7 R7
  clear CC
  obtain ⟨bg, bl, bs, bn, bO⟩ : ∃ x1 x2 x3 x4, daddR (og) (ol) (os) (yg) (yl) (ys) = (x1, x2, x3, x4) := ⟨_, _, _, _, rfl⟩
  have CC := hide (fun W u v (hu : Reads W u (ol)) (hv : Reads W v (yl)) (k : Below w.heap.size w W) => implDecAdd_any W (og) (yg) u v (ol) (yl) (os) (ys) hu hv (tt.later k) (hd.later k))
  rw [bO] at CC
  have bH := hide bO
  clear bO
  obtain ⟨cX0, cX1, cX2, -, zX⟩ := R8.box (w3.heap.size, (og), .slice a3 (ol).length c3, (ol), (os)) (by simp)
  obtain ⟨cU0, cU1, cU2, -, zU⟩ := R8.box (w6.heap.size, (yg), .slice a6 (yl).length c6, (yl), (ys)) (by simp)
  go_wp2_with fail
  refine (unhide CC _ _ _ (S8.box (w3.heap.size, (og), .slice a3 (ol).length c3, (ol), (os)) (by simp)).2.2.2.1 (S8.box (w6.heap.size, (yg), .slice a6 (yl).length c6, (yl), (ys)) (by simp)).2.2.2.1 S8.below).mono ?_
  rintro e w9 ⟨a9, c9, rfl, o9, k9⟩
  simp only at o9 ⊢
  have R9 := S8.later k9
  have S9 := R9.add (bg) (.slice a9 (bl).length c9) (bl) (bs) o9.reads
  simp only [List.nil_append, List.cons_append, World.size_alloc] at S9
  clear cX0 cX1 cX2 zX
  clear cU0 cU1 cU2 zU
  clear k9 o9 S8 R8
  clear CC
  by_cases ky : yn = 0
  case neg =>
    have kk : (yn != 0) = true := by simpa using ky
    clear ky
    go_wp2
    go_ret
    exact ⟨rfl, S9.below⟩
  subst ky
  by_cases kv : vn = 0
  case neg =>
    have kk : (vn != 0) = true := by simpa using kv
    clear kv
    go_wp2
    go_ret
    exact ⟨rfl, S9.below⟩
  subst kv
  by_cases kz : zn = 0
  case neg =>
    have kk : (zn != 0) = true := by simpa using kz
    clear kz
    go_wp2
    go_ret
    exact ⟨rfl, S9.below⟩
  subst kz
  by_cases kb : bn = 0
  case neg =>
    have kk : (bn != 0) = true := by simpa using kb
    clear kb
    go_wp2
    go_ret
    exact ⟨rfl, S9.below⟩
  subst kb
  have hc := mulsum_law (unhide HO) (unhide yH) (unhide vH) (unhide zH) (unhide bH) (by have := unhide G0; omega) (by have := unhide G1; omega) (by have := unhide G2; omega)
  have CC := hide (fun W u v (hu : Reads W u zl) (hv : Reads W v bl) (k : Below w.heap.size w W) => implDecCmp_any W zg bg u v zl bl zs bs hu hv (tt.later k))
  rw [hc] at CC
  clear hc HO yH vH zH bH
  obtain ⟨cZ0, cZ1, cZ2, -, zZ⟩ := R9.box (w8.heap.size, (zg), .slice a8 (zl).length c8, (zl), (zs)) (by simp)
  go_wp2_with fail
  refine (unhide CC _ _ _ (S9.box (w8.heap.size, (zg), .slice a8 (zl).length c8, (zl), (zs)) (by simp)).2.2.2.1 (S9.box (w9.heap.size, (bg), .slice a9 (bl).length c9, (bl), (bs)) (by simp)).2.2.2.1 S9.below).mono ?_
  rintro e w10 ⟨rfl, k10⟩
  have S10 := S9.later k10
  clear cZ0 cZ1 cZ2 zZ
  clear k10 S9 R9
  go_wp2
  go_ret
  exact ⟨rfl, S10.below⟩

end Go.Proofs.YthnkmjkgcnhlfaaGreatDoor
