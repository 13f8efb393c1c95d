/- The law FnDecHalf: its walk. -/
import Derived.Test.YthnkmjkgcnhlfaaGreatDoorNumN
import Derived.Test.YthnkmjkgcnhlfaaGreatDoorH08
import Derived.Test.YthnkmjkgcnhlfaaGreatDoorJtE
import Derived.Test.YthnkmjkgcnhlfaaGreatDoorByt1
import Derived.Test.YthnkmjkgcnhlfaaGreatDoorDStB
namespace Go.Proofs.YthnkmjkgcnhlfaaGreatDoor
open Go.RowKit
set_option linter.unusedSimpArgs false
set_option maxRecDepth 100000


set_option maxHeartbeats 40000000 in
theorem xDecHalfP_walk (w : World) (u : Value) (hu : Byt w u) (tt : Tab w) (hd : Hd w) :
    Calls Tryz.prog 9 #[u] w fun e w' => e = .returned (.bool true) ∧ Below w.heap.size w w' := by
  have C0 := hide (drawDecRound_any w u hu)
  obtain ⟨ao, N, cap, rfl, hn⟩ := byt_len hu
  clear hu
  by_cases hl : (1048576 : Int) < N
  · have t0 : decide ((1048576 : Int) < N) = true := by simpa using hl
    go_enter Tryz.func9, Tryz.ntmps9
    go_wp2
    go_ret
    exact ⟨rfl, Below.refl _ _⟩
  have t0 : decide ((1048576 : Int) < N) = false := by simpa using hl
  go_enter Tryz.func9, Tryz.ntmps9
  go_wp2_with fail
  refine (unhide C0).mono ?_
  rintro e w1 ⟨p, l, sc, t, mode, aa, ca, rfl, hll, oa, b1⟩
  have S1 := (DS.start b1).add p (.slice aa l.length ca) l sc oa.reads
  simp only [List.nil_append] at S1
  clear C0 b1 oa
  obtain ⟨og, ol, os, on, hO⟩ : ∃ og ol os on, droundR p l sc t mode = (og, ol, os, on) := ⟨_, _, _, _, rfl⟩
  have CI := hide (fun W v (hr : Reads W v l) (k : Below w.heap.size w W) => implDecRound_any W p v l sc t mode hr (tt.later k) (hd.later k))
  have CS := hide (fun W v (hr : Reads W v l) => specDecRound_any W p v l sc t mode hr)
  rw [hO] at CI CS
  have HO := hide (show on ≠ 1 → _ from fun h => half_law hO h)
  clear hO
  go_wp2_with fail
  refine (unhide CI _ _ (S1.box (w1.heap.size, p, .slice aa l.length ca, l, sc) (by simp)).2.2.2.1 S1.below).mono ?_
  rintro e w2 ⟨a2, c2, rfl, o2, k2⟩
  simp only at o2 ⊢
  have R2 := S1.later k2
  have S2 := R2.add (og) (.slice a2 (ol).length c2) (ol) (os) o2.reads
  simp only [List.nil_append, List.cons_append, World.size_alloc] at S2
  clear k2 o2 S1
  obtain ⟨cA0, cA1, cA2, -, zA⟩ := R2.box (w1.heap.size, p, .slice aa l.length ca, l, sc) (by simp)
  go_wp2_with fail
  refine (unhide CS _ _ (S2.box (w1.heap.size, p, .slice aa l.length ca, l, sc) (by simp)).2.2.2.1).mono ?_
  rintro e w3 ⟨a3, c3, rfl, o3, k3⟩
  simp only at o3 ⊢
  have R3 := S2.later k3
  have S3 := R3.add (og) (.slice a3 (ol).length c3) (ol) (os) o3.reads
  simp only [List.nil_append, List.cons_append, World.size_alloc] at S3
  clear cA0 cA1 cA2 zA
  clear k3 o3 S2 R2
  have hnn : (on != on) = false := by simp
  have hnn2 : (on == on) = true := by simp
  clear CI CS
  obtain ⟨cX0, cX1, cX2, -, zX⟩ := R3.box (w2.heap.size, (og), .slice a2 (ol).length c2, (ol), (os)) (by simp)
  go_wp2_with fail
  refine (jtDec_same _ (og) _ _ (ol) (os) (S3.box (w2.heap.size, (og), .slice a2 (ol).length c2, (ol), (os)) (by simp)).2.2.2.1 (S3.box (w3.heap.size, (og), .slice a3 (ol).length c3, (ol), (os)) (by simp)).2.2.2.1).mono ?_
  rintro e w4 ⟨rfl, k4⟩
  have S4 := S3.later k4
  clear cX0 cX1 cX2 zX
  clear k4 S3 R3
  by_cases h0 : on = 1
  case pos =>
    have hn0 : (on == 1) = true := by simpa using h0
    clear h0 HO
    obtain ⟨cX0, cX1, cX2, -, zX⟩ := S4.box (w2.heap.size, (og), .slice a2 (ol).length c2, (ol), (os)) (by simp)
    obtain ⟨cY0, cY1, cY2, -, zY⟩ := S4.box (w3.heap.size, (og), .slice a3 (ol).length c3, (ol), (os)) (by simp)
    go_wp2_with fail
    refine (jtDec_same _ (og) _ _ (ol) (os) (S4.box (w2.heap.size, (og), .slice a2 (ol).length c2, (ol), (os)) (by simp)).2.2.2.1 (S4.box (w3.heap.size, (og), .slice a3 (ol).length c3, (ol), (os)) (by simp)).2.2.2.1).mono ?_
    rintro e w5 ⟨rfl, k5⟩
    have S5 := S4.later k5
    clear cX0 cX1 cX2 zX
    clear cY0 cY1 cY2 zY
    clear k5 S4
    go_wp2
    go_ret
    exact ⟨rfl, S5.below⟩
  have hn0 : (on == 1) = false := by simpa using h0
  obtain ⟨dg, dl, ds, dc, ug, ul, us, uc, mg, ml, ms, mc, kg, kl, ks, kc, eg, el, es, ec, e2, e1, e5, e6, e7, hall⟩ := unhide HO h0
  clear HO h0
  have HALL := hide hall
  clear hall
  have E2 := hide e2
  clear e2
  have E1 := hide e1
  clear e1
  have E5 := hide e5
  clear e5
  have E6 := hide e6
  clear e6
  have E7 := hide e7
  clear e7
  have e2 := unhide E2
  clear E2
  have C := hide (fun W v (hr : Reads W v l) (k : Below w.heap.size w W) => implDecRound_any W p v l sc t 2 hr (tt.later k) (hd.later k))
  rw [e2] at C
  clear e2
  obtain ⟨cA0, cA1, cA2, -, zA⟩ := S4.box (w1.heap.size, p, .slice aa l.length ca, l, sc) (by simp)
  go_wp2_with fail
  refine (unhide C _ _ (S4.box (w1.heap.size, p, .slice aa l.length ca, l, sc) (by simp)).2.2.2.1 S4.below).mono ?_
  rintro e w5 ⟨a5, c5, rfl, o5, k5⟩
  simp only at o5 ⊢
  have R5 := S4.later k5
  have S5 := R5.add (dg) (.slice a5 (dl).length c5) (dl) (ds) o5.reads
  simp only [List.nil_append, List.cons_append, World.size_alloc] at S5
  clear cA0 cA1 cA2 zA
  clear k5 o5 S4
  clear C
  have e1 := unhide E1
  clear E1
  have C := hide (fun W v (hr : Reads W v l) (k : Below w.heap.size w W) => implDecRound_any W p v l sc t 1 hr (tt.later k) (hd.later k))
  rw [e1] at C
  clear e1
  obtain ⟨cA0, cA1, cA2, -, zA⟩ := R5.box (w1.heap.size, p, .slice aa l.length ca, l, sc) (by simp)
  go_wp2_with fail
  refine (unhide C _ _ (S5.box (w1.heap.size, p, .slice aa l.length ca, l, sc) (by simp)).2.2.2.1 S5.below).mono ?_
  rintro e w6 ⟨a6, c6, rfl, o6, k6⟩
  simp only at o6 ⊢
  have R6 := S5.later k6
  have S6 := R6.add (ug) (.slice a6 (ul).length c6) (ul) (us) o6.reads
  simp only [List.nil_append, List.cons_append, World.size_alloc] at S6
  clear cA0 cA1 cA2 zA
  clear k6 o6 S5 R5
  clear C
  have e5 := unhide E5
  clear E5
  have C := hide (fun W v (hr : Reads W v l) (k : Below w.heap.size w W) => implDecRound_any W p v l sc t 5 hr (tt.later k) (hd.later k))
  rw [e5] at C
  clear e5
  obtain ⟨cA0, cA1, cA2, -, zA⟩ := R6.box (w1.heap.size, p, .slice aa l.length ca, l, sc) (by simp)
  go_wp2_with fail
  refine (unhide C _ _ (S6.box (w1.heap.size, p, .slice aa l.length ca, l, sc) (by simp)).2.2.2.1 S6.below).mono ?_
  rintro e w7 ⟨a7, c7, rfl, o7, k7⟩
  simp only at o7 ⊢
  have R7 := S6.later k7
  have S7 := R7.add (mg) (.slice a7 (ml).length c7) (ml) (ms) o7.reads
  simp only [List.nil_append, List.cons_append, World.size_alloc] at S7
  clear cA0 cA1 cA2 zA
  clear k7 o7 S6 R6
  clear C
  have e6 := unhide E6
  clear E6
  have C := hide (fun W v (hr : Reads W v l) (k : Below w.heap.size w W) => implDecRound_any W p v l sc t 6 hr (tt.later k) (hd.later k))
  rw [e6] at C
  clear e6
  obtain ⟨cA0, cA1, cA2, -, zA⟩ := R7.box (w1.heap.size, p, .slice aa l.length ca, l, sc) (by simp)
  go_wp2_with fail
  refine (unhide C _ _ (S7.box (w1.heap.size, p, .slice aa l.length ca, l, sc) (by simp)).2.2.2.1 S7.below).mono ?_
  rintro e w8 ⟨a8, c8, rfl, o8, k8⟩
  simp only at o8 ⊢
  have R8 := S7.later k8
  have S8 := R8.add (kg) (.slice a8 (kl).length c8) (kl) (ks) o8.reads
  simp only [List.nil_append, List.cons_append, World.size_alloc] at S8
  clear cA0 cA1 cA2 zA
  clear k8 o8 S7 R7
  clear C
  have e7 := unhide E7
  clear E7
  have C := hide (fun W v (hr : Reads W v l) (k : Below w.heap.size w W) => implDecRound_any W p v l sc t 7 hr (tt.later k) (hd.later k))
  rw [e7] at C
  clear e7
  obtain ⟨cA0, cA1, cA2, -, zA⟩ := R8.box (w1.heap.size, p, .slice aa l.length ca, l, sc) (by simp)
  go_wp2_with fail
  refine (unhide C _ _ (S8.box (w1.heap.size, p, .slice aa l.length ca, l, sc) (by simp)).2.2.2.1 S8.below).mono ?_
  rintro e w9 ⟨a9, c9, rfl, o9, k9⟩
  simp only at o9 ⊢
  have R9 := S8.later k9
  have S9 := R9.add (eg) (.slice a9 (el).length c9) (el) (es) o9.reads
  simp only [List.nil_append, List.cons_append, World.size_alloc] at S9
  clear cA0 cA1 cA2 zA
  clear k9 o9 S8 R8
  clear C
  obtain ⟨cA0, cA1, cA2, -, zA⟩ := R9.box (w1.heap.size, p, .slice aa l.length ca, l, sc) (by simp)
  by_cases zdc : dc = 0
  case neg =>
    have kk : (dc != 0) = true := by simpa using zdc
    clear zdc HALL
    go_wp2
    go_ret
    exact ⟨rfl, S9.below⟩
  subst zdc
  by_cases zuc : uc = 0
  case neg =>
    have kk : (uc != 0) = true := by simpa using zuc
    clear zuc HALL
    go_wp2
    go_ret
    exact ⟨rfl, S9.below⟩
  subst zuc
  by_cases zmc : mc = 0
  case neg =>
    have kk : (mc != 0) = true := by simpa using zmc
    clear zmc HALL
    go_wp2
    go_ret
    exact ⟨rfl, S9.below⟩
  subst zmc
  by_cases zkc : kc = 0
  case neg =>
    have kk : (kc != 0) = true := by simpa using zkc
    clear zkc HALL
    go_wp2
    go_ret
    exact ⟨rfl, S9.below⟩
  subst zkc
  by_cases zec : ec = 0
  case neg =>
    have kk : (ec != 0) = true := by simpa using zec
    clear zec HALL
    go_wp2
    go_ret
    exact ⟨rfl, S9.below⟩
  subst zec
  by_cases hts : sc ≤ t
  case pos =>
    have kk : decide (sc ≤ t) = true := by simpa using hts
    clear hts HALL
    go_wp2
    go_ret
    exact ⟨rfl, S9.below⟩
  have kk : decide (sc ≤ t) = false := by simpa using hts
  obtain ⟨xg, xl, yg, yl, c, hx, hy, hc, hfin⟩ := unhide HALL rfl rfl rfl rfl rfl (by omega)
  clear HALL hts
  have HF := hide hfin
  clear hfin
  have C1 := hide (fun W u v (hu : Reads W u l) (hv : Reads W v dl) (k : Below w.heap.size w W) => implDecSub_any W p dg u v l dl sc ds hu hv (tt.later k) (hd.later k))
  rw [hx] at C1
  have C2 := hide (fun W u v (hu : Reads W u ul) (hv : Reads W v l) (k : Below w.heap.size w W) => implDecSub_any W ug p u v ul l us sc hu hv (tt.later k) (hd.later k))
  rw [hy] at C2
  have C3 := hide (fun W u v (hu : Reads W u xl) (hv : Reads W v yl) (k : Below w.heap.size w W) => implDecCmp_any W false false u v xl yl sc sc hu hv (tt.later k))
  rw [hc] at C3
  clear hx hy hc
  obtain ⟨cDn0, cDn1, cDn2, -, zDn⟩ := R9.box (w5.heap.size, (dg), .slice a5 (dl).length c5, (dl), (ds)) (by simp)
  go_wp2_with fail
  refine (unhide C1 _ _ _ (S9.box (w1.heap.size, p, .slice aa l.length ca, l, sc) (by simp)).2.2.2.1 (S9.box (w5.heap.size, (dg), .slice a5 (dl).length c5, (dl), (ds)) (by simp)).2.2.2.1 S9.below).mono ?_
  rintro e w10 ⟨ad, cd, rfl, od, kd⟩
  simp only at od ⊢
  have RK := S9.later kd
  have QD := hide (show Reads _ _ _ from od.reads)
  have SK := RK.add (xg) (.slice ad (xl).length cd) (xl) (sc) od.reads
  simp only [List.nil_append, List.cons_append, World.size_alloc] at SK
  have FD : (w10.alloc (.cells #[.bool xg, .slice ad (xl).length cd, .int .i64 sc] 27)).frozen? ⟨w10.heap.size, 0, none⟩ = false := by simp
  have BD : Below w10.heap.size w10 (w10.alloc (.cells #[.bool xg, .slice ad (xl).length cd, .int .i64 sc] 27)) := (Below.refl _ _).alloc (Nat.le_refl _) _
  have hsz : (w10.alloc (.cells #[.bool xg, .slice ad (xl).length cd, .int .i64 sc] 27)).heap.size = w10.heap.size + 1 := World.size_alloc _ _
  clear cA0 cA1 cA2 zA
  clear cDn0 cDn1 cDn2 zDn
  clear kd od S9 R9
  obtain ⟨cA0, cA1, cA2, -, zA⟩ := RK.box (w1.heap.size, p, .slice aa l.length ca, l, sc) (by simp)
  obtain ⟨cUp0, cUp1, cUp2, -, zUp⟩ := RK.box (w6.heap.size, (ug), .slice a6 (ul).length c6, (ul), (us)) (by simp)
  go_wp2_with fail
  refine (unhide C2 _ _ _ (SK.box (w6.heap.size, (ug), .slice a6 (ul).length c6, (ul), (us)) (by simp)).2.2.2.1 (SK.box (w1.heap.size, p, .slice aa l.length ca, l, sc) (by simp)).2.2.2.1 SK.below).mono ?_
  rintro e w11 ⟨au, cu, rfl, ou, ku⟩
  simp only at ou ⊢
  have SU := SK.later ku
  have fD : w11.frozen? ⟨w10.heap.size, 0, none⟩ = false := (ku.frozen (p := ⟨w10.heap.size, 0, none⟩) (by rw [hsz]; exact Nat.lt_succ_self _)).trans FD
  have BU := BD.trans (ku.mono BD.size)
  rw [hsz] at ou
  have hzz := ku.size
  rw [hsz] at hzz
  have hne : ¬ (w10.heap.size = w11.heap.size) := by omega
  have hne2 : ¬ (w11.heap.size = w10.heap.size) := by omega
  clear cA0 cA1 cA2 zA
  clear cUp0 cUp1 cUp2 zUp
  clear ku C1 C2 BD FD SK
  obtain ⟨cD0, cD1, cD2, -, zD⟩ := SU.box (w10.heap.size, (xg), .slice ad (xl).length cd, (xl), (sc)) (by simp)
  have BX : Below w10.heap.size w10 ((w11.setCell ⟨w10.heap.size, 0, none⟩ (.bool false)).alloc (.cells #[.bool false, .slice au (yl).length cu, .int .i64 sc] 27)) := (BU.setCell (p := ⟨w10.heap.size, 0, none⟩) (Nat.le_refl _) _).alloc (by simp [World.setCell]; omega) _
  go_wp2_with fail
  refine (unhide C3 _ _ _ ?rd ?ru ?bb).mono ?_
  case rd => exact (unhide QD).later BX
  case ru => exact (ou.setBelow (a := ⟨w10.heap.size, 0, none⟩) (Nat.lt_succ_self _) _).reads.alloc _
  case bb => exact (RK.later BX).below
  rintro e w12 ⟨rfl, kc⟩
  have B3 := BX.trans (kc.mono BX.size)
  have S3 := RK.later B3
  clear cD0 cD1 cD2 zD
  clear kc B3 BX C3 BU RK SU QD ou fD hne hne2 hzz hsz
  rcases unhide HF with ⟨rfl, h1, h2, h3⟩ | ⟨rfl, h1, h2, h3⟩ | ⟨rfl, h1, h2, h3⟩
  case inl =>
    clear HF
    simp only [Prod.mk.injEq] at h1
    obtain ⟨e1, e2, e3⟩ := h1
    obtain rfl := e1.symm
    obtain rfl := e2.symm
    obtain rfl := e3.symm
    clear e1 e2 e3
    simp only [Prod.mk.injEq] at h2
    obtain ⟨e1, e2, e3⟩ := h2
    obtain rfl := e1.symm
    obtain rfl := e2.symm
    obtain rfl := e3.symm
    clear e1 e2 e3
    simp only [Prod.mk.injEq] at h3
    obtain ⟨e1, e2, e3⟩ := h3
    obtain rfl := e1.symm
    obtain rfl := e2.symm
    obtain rfl := e3.symm
    clear e1 e2 e3
    obtain ⟨cMo0, cMo1, cMo2, -, zMo⟩ := S3.box (w7.heap.size, (dg), .slice a7 (dl).length c7, (dl), (ds)) (by simp)
    obtain ⟨cDn0, cDn1, cDn2, -, zDn⟩ := S3.box (w5.heap.size, (dg), .slice a5 (dl).length c5, (dl), (ds)) (by simp)
    go_wp2_with fail
    refine (jtDec_same _ (dg) _ _ (dl) (ds) (S3.box (w7.heap.size, (dg), .slice a7 (dl).length c7, (dl), (ds)) (by simp)).2.2.2.1 (S3.box (w5.heap.size, (dg), .slice a5 (dl).length c5, (dl), (ds)) (by simp)).2.2.2.1).mono ?_
    rintro e w13 ⟨rfl, k13⟩
    have S13 := S3.later k13
    clear cMo0 cMo1 cMo2 zMo
    clear cDn0 cDn1 cDn2 zDn
    clear k13 S3
    obtain ⟨cLe0, cLe1, cLe2, -, zLe⟩ := S13.box (w8.heap.size, (dg), .slice a8 (dl).length c8, (dl), (ds)) (by simp)
    obtain ⟨cDn0, cDn1, cDn2, -, zDn⟩ := S13.box (w5.heap.size, (dg), .slice a5 (dl).length c5, (dl), (ds)) (by simp)
    go_wp2_with fail
    refine (jtDec_same _ (dg) _ _ (dl) (ds) (S13.box (w8.heap.size, (dg), .slice a8 (dl).length c8, (dl), (ds)) (by simp)).2.2.2.1 (S13.box (w5.heap.size, (dg), .slice a5 (dl).length c5, (dl), (ds)) (by simp)).2.2.2.1).mono ?_
    rintro e w14 ⟨rfl, k14⟩
    have S14 := S13.later k14
    clear cLe0 cLe1 cLe2 zLe
    clear cDn0 cDn1 cDn2 zDn
    clear k14 S13
    obtain ⟨cEv0, cEv1, cEv2, -, zEv⟩ := S14.box (w9.heap.size, (dg), .slice a9 (dl).length c9, (dl), (ds)) (by simp)
    obtain ⟨cDn0, cDn1, cDn2, -, zDn⟩ := S14.box (w5.heap.size, (dg), .slice a5 (dl).length c5, (dl), (ds)) (by simp)
    go_wp2_with fail
    refine (jtDec_same _ (dg) _ _ (dl) (ds) (S14.box (w9.heap.size, (dg), .slice a9 (dl).length c9, (dl), (ds)) (by simp)).2.2.2.1 (S14.box (w5.heap.size, (dg), .slice a5 (dl).length c5, (dl), (ds)) (by simp)).2.2.2.1).mono ?_
    rintro e w15 ⟨rfl, k15⟩
    have S15 := S14.later k15
    clear cEv0 cEv1 cEv2 zEv
    clear cDn0 cDn1 cDn2 zDn
    clear k15 S14
    go_wp2
    go_ret
    exact ⟨rfl, S15.below⟩
  case inr.inl =>
    clear HF
    simp only [Prod.mk.injEq] at h1
    obtain ⟨e1, e2, e3⟩ := h1
    obtain rfl := e1.symm
    obtain rfl := e2.symm
    obtain rfl := e3.symm
    clear e1 e2 e3
    simp only [Prod.mk.injEq] at h2
    obtain ⟨e1, e2, e3⟩ := h2
    obtain rfl := e1.symm
    obtain rfl := e2.symm
    obtain rfl := e3.symm
    clear e1 e2 e3
    simp only [Prod.mk.injEq] at h3
    obtain ⟨e1, e2, e3⟩ := h3
    obtain rfl := e1.symm
    obtain rfl := e2.symm
    obtain rfl := e3.symm
    clear e1 e2 e3
    obtain ⟨cMo0, cMo1, cMo2, -, zMo⟩ := S3.box (w7.heap.size, (ug), .slice a7 (ul).length c7, (ul), (us)) (by simp)
    obtain ⟨cUp0, cUp1, cUp2, -, zUp⟩ := S3.box (w6.heap.size, (ug), .slice a6 (ul).length c6, (ul), (us)) (by simp)
    go_wp2_with fail
    refine (jtDec_same _ (ug) _ _ (ul) (us) (S3.box (w7.heap.size, (ug), .slice a7 (ul).length c7, (ul), (us)) (by simp)).2.2.2.1 (S3.box (w6.heap.size, (ug), .slice a6 (ul).length c6, (ul), (us)) (by simp)).2.2.2.1).mono ?_
    rintro e w13 ⟨rfl, k13⟩
    have S13 := S3.later k13
    clear cMo0 cMo1 cMo2 zMo
    clear cUp0 cUp1 cUp2 zUp
    clear k13 S3
    obtain ⟨cLe0, cLe1, cLe2, -, zLe⟩ := S13.box (w8.heap.size, (ug), .slice a8 (ul).length c8, (ul), (us)) (by simp)
    obtain ⟨cUp0, cUp1, cUp2, -, zUp⟩ := S13.box (w6.heap.size, (ug), .slice a6 (ul).length c6, (ul), (us)) (by simp)
    go_wp2_with fail
    refine (jtDec_same _ (ug) _ _ (ul) (us) (S13.box (w8.heap.size, (ug), .slice a8 (ul).length c8, (ul), (us)) (by simp)).2.2.2.1 (S13.box (w6.heap.size, (ug), .slice a6 (ul).length c6, (ul), (us)) (by simp)).2.2.2.1).mono ?_
    rintro e w14 ⟨rfl, k14⟩
    have S14 := S13.later k14
    clear cLe0 cLe1 cLe2 zLe
    clear cUp0 cUp1 cUp2 zUp
    clear k14 S13
    obtain ⟨cEv0, cEv1, cEv2, -, zEv⟩ := S14.box (w9.heap.size, (ug), .slice a9 (ul).length c9, (ul), (us)) (by simp)
    obtain ⟨cUp0, cUp1, cUp2, -, zUp⟩ := S14.box (w6.heap.size, (ug), .slice a6 (ul).length c6, (ul), (us)) (by simp)
    go_wp2_with fail
    refine (jtDec_same _ (ug) _ _ (ul) (us) (S14.box (w9.heap.size, (ug), .slice a9 (ul).length c9, (ul), (us)) (by simp)).2.2.2.1 (S14.box (w6.heap.size, (ug), .slice a6 (ul).length c6, (ul), (us)) (by simp)).2.2.2.1).mono ?_
    rintro e w15 ⟨rfl, k15⟩
    have S15 := S14.later k15
    clear cEv0 cEv1 cEv2 zEv
    clear cUp0 cUp1 cUp2 zUp
    clear k15 S14
    go_wp2
    go_ret
    exact ⟨rfl, S15.below⟩
  clear HF
  simp only [Prod.mk.injEq] at h1
  obtain ⟨e1, e2, e3⟩ := h1
  obtain rfl := e1.symm
  obtain rfl := e2.symm
  obtain rfl := e3.symm
  clear e1 e2 e3
  simp only [Prod.mk.injEq] at h2
  obtain ⟨e1, e2, e3⟩ := h2
  obtain rfl := e1.symm
  obtain rfl := e2.symm
  obtain rfl := e3.symm
  clear e1 e2 e3
  have RE := hide (S3.box (w9.heap.size, (eg), .slice a9 (el).length c9, (el), (es)) (by simp)).2.2.2.1
  rcases h3 with ⟨h3, h4, h5⟩ | ⟨h4, h5⟩
  case inl =>
    simp only [Prod.mk.injEq] at h3
    obtain ⟨e1, e2, e3⟩ := h3
    obtain rfl := e1.symm
    obtain rfl := e2.symm
    obtain rfl := e3.symm
    clear e1 e2 e3
    simp only [Prod.mk.injEq] at h4
    obtain ⟨e1, e2, e3⟩ := h4
    obtain rfl := e1.symm
    obtain rfl := e2.symm
    obtain rfl := e3.symm
    clear e1 e2 e3
    obtain ⟨cEv0, cEv1, cEv2, -, zEv⟩ := S3.box (w9.heap.size, (ug), .slice a9 (ul).length c9, (ul), (us)) (by simp)
    rcases h5 with h5 | ⟨x, r, h5⟩
    case inl =>
      have hl0 : (ul).length = 0 := by rw [h5]; rfl
      have hd0 : decide ((0 : Int) < ((ul).length : Int)) = false := by rw [hl0]; rfl
      have hd1 : decide (0 < (ul).length) = false := by rw [hl0]; rfl
      have hd2 : ¬ (0 < (ul).length) := by omega
      clear h5 RE hl0
      obtain ⟨cUp0, cUp1, cUp2, -, zUp⟩ := S3.box (w6.heap.size, (ug), .slice a6 (ul).length c6, (ul), (us)) (by simp)
      obtain ⟨cDn0, cDn1, cDn2, -, zDn⟩ := S3.box (w5.heap.size, (ug), .slice a5 (ul).length c5, (ul), (us)) (by simp)
      go_wp2_with fail
      refine (jtDec_same _ (ug) _ _ (ul) (us) (S3.box (w6.heap.size, (ug), .slice a6 (ul).length c6, (ul), (us)) (by simp)).2.2.2.1 (S3.box (w5.heap.size, (ug), .slice a5 (ul).length c5, (ul), (us)) (by simp)).2.2.2.1).mono ?_
      rintro e w13 ⟨rfl, k13⟩
      have S13 := S3.later k13
      clear cEv0 cEv1 cEv2 zEv
      clear cUp0 cUp1 cUp2 zUp
      clear cDn0 cDn1 cDn2 zDn
      clear k13 S3
      obtain ⟨cMo0, cMo1, cMo2, -, zMo⟩ := S13.box (w7.heap.size, (ug), .slice a7 (ul).length c7, (ul), (us)) (by simp)
      obtain ⟨cUp0, cUp1, cUp2, -, zUp⟩ := S13.box (w6.heap.size, (ug), .slice a6 (ul).length c6, (ul), (us)) (by simp)
      go_wp2_with fail
      refine (jtDec_same _ (ug) _ _ (ul) (us) (S13.box (w7.heap.size, (ug), .slice a7 (ul).length c7, (ul), (us)) (by simp)).2.2.2.1 (S13.box (w6.heap.size, (ug), .slice a6 (ul).length c6, (ul), (us)) (by simp)).2.2.2.1).mono ?_
      rintro e w14 ⟨rfl, k14⟩
      have S14 := S13.later k14
      clear cMo0 cMo1 cMo2 zMo
      clear cUp0 cUp1 cUp2 zUp
      clear k14 S13
      obtain ⟨cLe0, cLe1, cLe2, -, zLe⟩ := S14.box (w8.heap.size, (ug), .slice a8 (ul).length c8, (ul), (us)) (by simp)
      obtain ⟨cDn0, cDn1, cDn2, -, zDn⟩ := S14.box (w5.heap.size, (ug), .slice a5 (ul).length c5, (ul), (us)) (by simp)
      go_wp2_with fail
      refine (jtDec_same _ (ug) _ _ (ul) (us) (S14.box (w8.heap.size, (ug), .slice a8 (ul).length c8, (ul), (us)) (by simp)).2.2.2.1 (S14.box (w5.heap.size, (ug), .slice a5 (ul).length c5, (ul), (us)) (by simp)).2.2.2.1).mono ?_
      rintro e w15 ⟨rfl, k15⟩
      have S15 := S14.later k15
      clear cLe0 cLe1 cLe2 zLe
      clear cDn0 cDn1 cDn2 zDn
      clear k15 S14
      obtain ⟨cEv0, cEv1, cEv2, -, zEv⟩ := S15.box (w9.heap.size, (ug), .slice a9 (ul).length c9, (ul), (us)) (by simp)
      obtain ⟨cUp0, cUp1, cUp2, -, zUp⟩ := S15.box (w6.heap.size, (ug), .slice a6 (ul).length c6, (ul), (us)) (by simp)
      go_wp2_with fail
      refine (jtDec_same _ (ug) _ _ (ul) (us) (S15.box (w9.heap.size, (ug), .slice a9 (ul).length c9, (ul), (us)) (by simp)).2.2.2.1 (S15.box (w6.heap.size, (ug), .slice a6 (ul).length c6, (ul), (us)) (by simp)).2.2.2.1).mono ?_
      rintro e w16 ⟨rfl, k16⟩
      have S16 := S15.later k16
      clear cEv0 cEv1 cEv2 zEv
      clear cUp0 cUp1 cUp2 zUp
      clear k16 S15
      go_wp2
      go_ret
      exact ⟨rfl, S16.below⟩
    case inr =>
      have hl0 : 0 < (ul).length := by rw [h5]; simp
      have hd0 : decide ((0 : Int) < ((ul).length : Int)) = true := by simp; omega
      obtain ⟨ao, gb, go, gc, ev, rr⟩ := unhide RE
      clear RE
      simp only [Value.slice.injEq] at ev
      obtain ⟨rfl, -, rfl⟩ := ev
      obtain rfl := rr.at_ hl0
      have cL := rr.cell 0 hl0
      have hx0 : (ul)[0] = (x : Int) := by simp [h5]
      rw [hx0, Nat.add_zero] at cL
      have hle := rr.le
      clear rr hx0 h5
      obtain ⟨o, ho⟩ : ∃ o, decide (x % 2 = 1) = o := ⟨_, rfl⟩
      have t1 : (x : Int).tmod 2 = ((x % 2 : Nat) : Int) := by rw [Int.tmod_eq_emod_of_nonneg (by omega)]; rfl
      have o1 : (((x : Int).tmod 2) == 1) = o := by rw [t1, ← ho, Bool.eq_iff_iff]; simp; omega
      have o2 : (((x : Int) % 2) == 1) = o := by rw [← ho, Bool.eq_iff_iff]; simp; omega
      clear t1
      clear ho
      obtain ⟨cUp0, cUp1, cUp2, -, zUp⟩ := S3.box (w6.heap.size, (ug), .slice a6 (ul).length c6, (ul), (us)) (by simp)
      obtain ⟨cDn0, cDn1, cDn2, -, zDn⟩ := S3.box (w5.heap.size, (ug), .slice a5 (ul).length c5, (ul), (us)) (by simp)
      go_wp2_with fail
      refine (jtDec_same _ (ug) _ _ (ul) (us) (S3.box (w6.heap.size, (ug), .slice a6 (ul).length c6, (ul), (us)) (by simp)).2.2.2.1 (S3.box (w5.heap.size, (ug), .slice a5 (ul).length c5, (ul), (us)) (by simp)).2.2.2.1).mono ?_
      rintro e w13 ⟨rfl, k13⟩
      have S13 := S3.later k13
      clear cEv0 cEv1 cEv2 zEv
      clear cUp0 cUp1 cUp2 zUp
      clear cDn0 cDn1 cDn2 zDn
      clear k13 S3
      obtain ⟨cMo0, cMo1, cMo2, -, zMo⟩ := S13.box (w7.heap.size, (ug), .slice a7 (ul).length c7, (ul), (us)) (by simp)
      obtain ⟨cUp0, cUp1, cUp2, -, zUp⟩ := S13.box (w6.heap.size, (ug), .slice a6 (ul).length c6, (ul), (us)) (by simp)
      go_wp2_with fail
      refine (jtDec_same _ (ug) _ _ (ul) (us) (S13.box (w7.heap.size, (ug), .slice a7 (ul).length c7, (ul), (us)) (by simp)).2.2.2.1 (S13.box (w6.heap.size, (ug), .slice a6 (ul).length c6, (ul), (us)) (by simp)).2.2.2.1).mono ?_
      rintro e w14 ⟨rfl, k14⟩
      have S14 := S13.later k14
      clear cMo0 cMo1 cMo2 zMo
      clear cUp0 cUp1 cUp2 zUp
      clear k14 S13
      obtain ⟨cLe0, cLe1, cLe2, -, zLe⟩ := S14.box (w8.heap.size, (ug), .slice a8 (ul).length c8, (ul), (us)) (by simp)
      obtain ⟨cDn0, cDn1, cDn2, -, zDn⟩ := S14.box (w5.heap.size, (ug), .slice a5 (ul).length c5, (ul), (us)) (by simp)
      go_wp2_with fail
      refine (jtDec_same _ (ug) _ _ (ul) (us) (S14.box (w8.heap.size, (ug), .slice a8 (ul).length c8, (ul), (us)) (by simp)).2.2.2.1 (S14.box (w5.heap.size, (ug), .slice a5 (ul).length c5, (ul), (us)) (by simp)).2.2.2.1).mono ?_
      rintro e w15 ⟨rfl, k15⟩
      have S15 := S14.later k15
      clear cLe0 cLe1 cLe2 zLe
      clear cDn0 cDn1 cDn2 zDn
      clear k15 S14
      obtain ⟨cEv0, cEv1, cEv2, -, zEv⟩ := S15.box (w9.heap.size, (ug), .slice (some ⟨gb, go, none⟩) (ul).length c9, (ul), (us)) (by simp)
      obtain ⟨cUp0, cUp1, cUp2, -, zUp⟩ := S15.box (w6.heap.size, (ug), .slice a6 (ul).length c6, (ul), (us)) (by simp)
      go_wp2_with fail
      refine (jtDec_same _ (ug) _ _ (ul) (us) (S15.box (w9.heap.size, (ug), .slice (some ⟨gb, go, none⟩) (ul).length c9, (ul), (us)) (by simp)).2.2.2.1 (S15.box (w6.heap.size, (ug), .slice a6 (ul).length c6, (ul), (us)) (by simp)).2.2.2.1).mono ?_
      rintro e w16 ⟨rfl, k16⟩
      have S16 := S15.later k16
      clear cEv0 cEv1 cEv2 zEv
      clear cUp0 cUp1 cUp2 zUp
      clear k16 S15
      go_wp2
      go_ret
      exact ⟨rfl, S16.below⟩
  case inr =>
    rcases h4 with h4 | h4
    case inl =>
      simp only [Prod.mk.injEq] at h4
      obtain ⟨e1, e2, e3⟩ := h4
      obtain rfl := e1.symm
      obtain rfl := e2.symm
      obtain rfl := e3.symm
      clear e1 e2 e3
      obtain ⟨cEv0, cEv1, cEv2, -, zEv⟩ := S3.box (w9.heap.size, (ug), .slice a9 (ul).length c9, (ul), (us)) (by simp)
      rcases h5 with h5 | ⟨x, r, h5, hx2⟩
      case inl =>
        have hl0 : (ul).length = 0 := by rw [h5]; rfl
        have hd0 : decide ((0 : Int) < ((ul).length : Int)) = false := by rw [hl0]; rfl
        have hd1 : decide (0 < (ul).length) = false := by rw [hl0]; rfl
        have hd2 : ¬ (0 < (ul).length) := by omega
        clear h5 RE hl0
        obtain ⟨cUp0, cUp1, cUp2, -, zUp⟩ := S3.box (w6.heap.size, (ug), .slice a6 (ul).length c6, (ul), (us)) (by simp)
        obtain ⟨cDn0, cDn1, cDn2, -, zDn⟩ := S3.box (w5.heap.size, (dg), .slice a5 (dl).length c5, (dl), (ds)) (by simp)
        go_wp2_with fail
        refine (jtDec_any _ (ug) (dg) _ _ (ul) (dl) (us) (ds) (S3.box (w6.heap.size, (ug), .slice a6 (ul).length c6, (ul), (us)) (by simp)).2.2.2.1 (S3.box (w5.heap.size, (dg), .slice a5 (dl).length c5, (dl), (ds)) (by simp)).2.2.2.1).mono ?_
        rintro e w13 ⟨⟨bx, rfl⟩, k13⟩
        have S13 := S3.later k13
        clear cEv0 cEv1 cEv2 zEv
        clear cUp0 cUp1 cUp2 zUp
        clear cDn0 cDn1 cDn2 zDn
        clear k13 S3
        obtain ⟨cMo0, cMo1, cMo2, -, zMo⟩ := S13.box (w7.heap.size, (ug), .slice a7 (ul).length c7, (ul), (us)) (by simp)
        obtain ⟨cUp0, cUp1, cUp2, -, zUp⟩ := S13.box (w6.heap.size, (ug), .slice a6 (ul).length c6, (ul), (us)) (by simp)
        go_wp2_with fail
        refine (jtDec_same _ (ug) _ _ (ul) (us) (S13.box (w7.heap.size, (ug), .slice a7 (ul).length c7, (ul), (us)) (by simp)).2.2.2.1 (S13.box (w6.heap.size, (ug), .slice a6 (ul).length c6, (ul), (us)) (by simp)).2.2.2.1).mono ?_
        rintro e w14 ⟨rfl, k14⟩
        have S14 := S13.later k14
        clear cMo0 cMo1 cMo2 zMo
        clear cUp0 cUp1 cUp2 zUp
        clear k14 S13
        obtain ⟨cLe0, cLe1, cLe2, -, zLe⟩ := S14.box (w8.heap.size, (dg), .slice a8 (dl).length c8, (dl), (ds)) (by simp)
        obtain ⟨cDn0, cDn1, cDn2, -, zDn⟩ := S14.box (w5.heap.size, (dg), .slice a5 (dl).length c5, (dl), (ds)) (by simp)
        go_wp2_with fail
        refine (jtDec_same _ (dg) _ _ (dl) (ds) (S14.box (w8.heap.size, (dg), .slice a8 (dl).length c8, (dl), (ds)) (by simp)).2.2.2.1 (S14.box (w5.heap.size, (dg), .slice a5 (dl).length c5, (dl), (ds)) (by simp)).2.2.2.1).mono ?_
        rintro e w15 ⟨rfl, k15⟩
        have S15 := S14.later k15
        clear cLe0 cLe1 cLe2 zLe
        clear cDn0 cDn1 cDn2 zDn
        clear k15 S14
        obtain ⟨cEv0, cEv1, cEv2, -, zEv⟩ := S15.box (w9.heap.size, (ug), .slice a9 (ul).length c9, (ul), (us)) (by simp)
        obtain ⟨cUp0, cUp1, cUp2, -, zUp⟩ := S15.box (w6.heap.size, (ug), .slice a6 (ul).length c6, (ul), (us)) (by simp)
        go_wp2_with fail
        refine (jtDec_same _ (ug) _ _ (ul) (us) (S15.box (w9.heap.size, (ug), .slice a9 (ul).length c9, (ul), (us)) (by simp)).2.2.2.1 (S15.box (w6.heap.size, (ug), .slice a6 (ul).length c6, (ul), (us)) (by simp)).2.2.2.1).mono ?_
        rintro e w16 ⟨rfl, k16⟩
        have S16 := S15.later k16
        clear cEv0 cEv1 cEv2 zEv
        clear cUp0 cUp1 cUp2 zUp
        clear k16 S15
        cases bx
        case true =>
          go_wp2
          go_ret
          exact ⟨rfl, S16.below⟩
        case false =>
          go_wp2
          go_ret
          exact ⟨rfl, S16.below⟩
      case inr =>
        have hl0 : 0 < (ul).length := by rw [h5]; simp
        have hd0 : decide ((0 : Int) < ((ul).length : Int)) = true := by simp; omega
        obtain ⟨ao, gb, go, gc, ev, rr⟩ := unhide RE
        clear RE
        simp only [Value.slice.injEq] at ev
        obtain ⟨rfl, -, rfl⟩ := ev
        obtain rfl := rr.at_ hl0
        have cL := rr.cell 0 hl0
        have hx0 : (ul)[0] = (x : Int) := by simp [h5]
        rw [hx0, Nat.add_zero] at cL
        have hle := rr.le
        clear rr hx0 h5
        obtain ⟨o, ho⟩ : ∃ o, decide (x % 2 = 1) = o := ⟨_, rfl⟩
        have t1 : (x : Int).tmod 2 = ((x % 2 : Nat) : Int) := by rw [Int.tmod_eq_emod_of_nonneg (by omega)]; rfl
        have o1 : (((x : Int).tmod 2) == 1) = o := by rw [t1, ← ho, Bool.eq_iff_iff]; simp; omega
        have o2 : (((x : Int) % 2) == 1) = o := by rw [← ho, Bool.eq_iff_iff]; simp; omega
        clear t1
        obtain rfl : o = false := by rw [← ho, decide_eq_false_iff_not]; omega
        clear ho
        obtain ⟨cUp0, cUp1, cUp2, -, zUp⟩ := S3.box (w6.heap.size, (ug), .slice a6 (ul).length c6, (ul), (us)) (by simp)
        obtain ⟨cDn0, cDn1, cDn2, -, zDn⟩ := S3.box (w5.heap.size, (dg), .slice a5 (dl).length c5, (dl), (ds)) (by simp)
        go_wp2_with fail
        refine (jtDec_any _ (ug) (dg) _ _ (ul) (dl) (us) (ds) (S3.box (w6.heap.size, (ug), .slice a6 (ul).length c6, (ul), (us)) (by simp)).2.2.2.1 (S3.box (w5.heap.size, (dg), .slice a5 (dl).length c5, (dl), (ds)) (by simp)).2.2.2.1).mono ?_
        rintro e w13 ⟨⟨bx, rfl⟩, k13⟩
        have S13 := S3.later k13
        clear cEv0 cEv1 cEv2 zEv
        clear cUp0 cUp1 cUp2 zUp
        clear cDn0 cDn1 cDn2 zDn
        clear k13 S3
        obtain ⟨cMo0, cMo1, cMo2, -, zMo⟩ := S13.box (w7.heap.size, (ug), .slice a7 (ul).length c7, (ul), (us)) (by simp)
        obtain ⟨cUp0, cUp1, cUp2, -, zUp⟩ := S13.box (w6.heap.size, (ug), .slice a6 (ul).length c6, (ul), (us)) (by simp)
        go_wp2_with fail
        refine (jtDec_same _ (ug) _ _ (ul) (us) (S13.box (w7.heap.size, (ug), .slice a7 (ul).length c7, (ul), (us)) (by simp)).2.2.2.1 (S13.box (w6.heap.size, (ug), .slice a6 (ul).length c6, (ul), (us)) (by simp)).2.2.2.1).mono ?_
        rintro e w14 ⟨rfl, k14⟩
        have S14 := S13.later k14
        clear cMo0 cMo1 cMo2 zMo
        clear cUp0 cUp1 cUp2 zUp
        clear k14 S13
        obtain ⟨cLe0, cLe1, cLe2, -, zLe⟩ := S14.box (w8.heap.size, (dg), .slice a8 (dl).length c8, (dl), (ds)) (by simp)
        obtain ⟨cDn0, cDn1, cDn2, -, zDn⟩ := S14.box (w5.heap.size, (dg), .slice a5 (dl).length c5, (dl), (ds)) (by simp)
        go_wp2_with fail
        refine (jtDec_same _ (dg) _ _ (dl) (ds) (S14.box (w8.heap.size, (dg), .slice a8 (dl).length c8, (dl), (ds)) (by simp)).2.2.2.1 (S14.box (w5.heap.size, (dg), .slice a5 (dl).length c5, (dl), (ds)) (by simp)).2.2.2.1).mono ?_
        rintro e w15 ⟨rfl, k15⟩
        have S15 := S14.later k15
        clear cLe0 cLe1 cLe2 zLe
        clear cDn0 cDn1 cDn2 zDn
        clear k15 S14
        obtain ⟨cEv0, cEv1, cEv2, -, zEv⟩ := S15.box (w9.heap.size, (ug), .slice (some ⟨gb, go, none⟩) (ul).length c9, (ul), (us)) (by simp)
        obtain ⟨cUp0, cUp1, cUp2, -, zUp⟩ := S15.box (w6.heap.size, (ug), .slice a6 (ul).length c6, (ul), (us)) (by simp)
        go_wp2_with fail
        refine (jtDec_same _ (ug) _ _ (ul) (us) (S15.box (w9.heap.size, (ug), .slice (some ⟨gb, go, none⟩) (ul).length c9, (ul), (us)) (by simp)).2.2.2.1 (S15.box (w6.heap.size, (ug), .slice a6 (ul).length c6, (ul), (us)) (by simp)).2.2.2.1).mono ?_
        rintro e w16 ⟨rfl, k16⟩
        have S16 := S15.later k16
        clear cEv0 cEv1 cEv2 zEv
        clear cUp0 cUp1 cUp2 zUp
        clear k16 S15
        cases bx
        case true =>
          go_wp2
          go_ret
          exact ⟨rfl, S16.below⟩
        case false =>
          go_wp2
          go_ret
          exact ⟨rfl, S16.below⟩
    case inr =>
      simp only [Prod.mk.injEq] at h4
      obtain ⟨e1, e2, e3⟩ := h4
      obtain rfl := e1.symm
      obtain rfl := e2.symm
      obtain rfl := e3.symm
      clear e1 e2 e3
      obtain ⟨cEv0, cEv1, cEv2, -, zEv⟩ := S3.box (w9.heap.size, (dg), .slice a9 (dl).length c9, (dl), (ds)) (by simp)
      rcases h5 with h5 | ⟨x, r, h5, hx2⟩
      case inl =>
        have hl0 : (dl).length = 0 := by rw [h5]; rfl
        have hd0 : decide ((0 : Int) < ((dl).length : Int)) = false := by rw [hl0]; rfl
        have hd1 : decide (0 < (dl).length) = false := by rw [hl0]; rfl
        have hd2 : ¬ (0 < (dl).length) := by omega
        clear h5 RE hl0
        obtain ⟨cUp0, cUp1, cUp2, -, zUp⟩ := S3.box (w6.heap.size, (ug), .slice a6 (ul).length c6, (ul), (us)) (by simp)
        obtain ⟨cDn0, cDn1, cDn2, -, zDn⟩ := S3.box (w5.heap.size, (dg), .slice a5 (dl).length c5, (dl), (ds)) (by simp)
        go_wp2_with fail
        refine (jtDec_any _ (ug) (dg) _ _ (ul) (dl) (us) (ds) (S3.box (w6.heap.size, (ug), .slice a6 (ul).length c6, (ul), (us)) (by simp)).2.2.2.1 (S3.box (w5.heap.size, (dg), .slice a5 (dl).length c5, (dl), (ds)) (by simp)).2.2.2.1).mono ?_
        rintro e w13 ⟨⟨bx, rfl⟩, k13⟩
        have S13 := S3.later k13
        clear cEv0 cEv1 cEv2 zEv
        clear cUp0 cUp1 cUp2 zUp
        clear cDn0 cDn1 cDn2 zDn
        clear k13 S3
        obtain ⟨cMo0, cMo1, cMo2, -, zMo⟩ := S13.box (w7.heap.size, (ug), .slice a7 (ul).length c7, (ul), (us)) (by simp)
        obtain ⟨cUp0, cUp1, cUp2, -, zUp⟩ := S13.box (w6.heap.size, (ug), .slice a6 (ul).length c6, (ul), (us)) (by simp)
        go_wp2_with fail
        refine (jtDec_same _ (ug) _ _ (ul) (us) (S13.box (w7.heap.size, (ug), .slice a7 (ul).length c7, (ul), (us)) (by simp)).2.2.2.1 (S13.box (w6.heap.size, (ug), .slice a6 (ul).length c6, (ul), (us)) (by simp)).2.2.2.1).mono ?_
        rintro e w14 ⟨rfl, k14⟩
        have S14 := S13.later k14
        clear cMo0 cMo1 cMo2 zMo
        clear cUp0 cUp1 cUp2 zUp
        clear k14 S13
        obtain ⟨cLe0, cLe1, cLe2, -, zLe⟩ := S14.box (w8.heap.size, (dg), .slice a8 (dl).length c8, (dl), (ds)) (by simp)
        obtain ⟨cDn0, cDn1, cDn2, -, zDn⟩ := S14.box (w5.heap.size, (dg), .slice a5 (dl).length c5, (dl), (ds)) (by simp)
        go_wp2_with fail
        refine (jtDec_same _ (dg) _ _ (dl) (ds) (S14.box (w8.heap.size, (dg), .slice a8 (dl).length c8, (dl), (ds)) (by simp)).2.2.2.1 (S14.box (w5.heap.size, (dg), .slice a5 (dl).length c5, (dl), (ds)) (by simp)).2.2.2.1).mono ?_
        rintro e w15 ⟨rfl, k15⟩
        have S15 := S14.later k15
        clear cLe0 cLe1 cLe2 zLe
        clear cDn0 cDn1 cDn2 zDn
        clear k15 S14
        obtain ⟨cEv0, cEv1, cEv2, -, zEv⟩ := S15.box (w9.heap.size, (dg), .slice a9 (dl).length c9, (dl), (ds)) (by simp)
        obtain ⟨cUp0, cUp1, cUp2, -, zUp⟩ := S15.box (w6.heap.size, (ug), .slice a6 (ul).length c6, (ul), (us)) (by simp)
        go_wp2_with fail
        refine (jtDec_any _ (dg) (ug) _ _ (dl) (ul) (ds) (us) (S15.box (w9.heap.size, (dg), .slice a9 (dl).length c9, (dl), (ds)) (by simp)).2.2.2.1 (S15.box (w6.heap.size, (ug), .slice a6 (ul).length c6, (ul), (us)) (by simp)).2.2.2.1).mono ?_
        rintro e w16 ⟨⟨bz, rfl⟩, k16⟩
        have S16 := S15.later k16
        clear cEv0 cEv1 cEv2 zEv
        clear cUp0 cUp1 cUp2 zUp
        clear k16 S15
        obtain ⟨cEv0, cEv1, cEv2, -, zEv⟩ := S16.box (w9.heap.size, (dg), .slice a9 (dl).length c9, (dl), (ds)) (by simp)
        obtain ⟨cDn0, cDn1, cDn2, -, zDn⟩ := S16.box (w5.heap.size, (dg), .slice a5 (dl).length c5, (dl), (ds)) (by simp)
        cases bz
        case true =>
          cases bx
          case true =>
            go_wp2
            go_ret
            exact ⟨rfl, S16.below⟩
          case false =>
            go_wp2
            go_ret
            exact ⟨rfl, S16.below⟩
        case false =>
          go_wp2_with fail
          refine (jtDec_same _ (dg) _ _ (dl) (ds) (S16.box (w9.heap.size, (dg), .slice a9 (dl).length c9, (dl), (ds)) (by simp)).2.2.2.1 (S16.box (w5.heap.size, (dg), .slice a5 (dl).length c5, (dl), (ds)) (by simp)).2.2.2.1).mono ?_
          rintro e w17 ⟨rfl, k17⟩
          have S17 := S16.later k17
          clear cEv0 cEv1 cEv2 zEv
          clear cDn0 cDn1 cDn2 zDn
          clear k17 S16
          cases bx
          case true =>
            go_wp2
            go_ret
            exact ⟨rfl, S17.below⟩
          case false =>
            go_wp2
            go_ret
            exact ⟨rfl, S17.below⟩
      case inr =>
        have hl0 : 0 < (dl).length := by rw [h5]; simp
        have hd0 : decide ((0 : Int) < ((dl).length : Int)) = true := by simp; omega
        obtain ⟨ao, gb, go, gc, ev, rr⟩ := unhide RE
        clear RE
        simp only [Value.slice.injEq] at ev
        obtain ⟨rfl, -, rfl⟩ := ev
        obtain rfl := rr.at_ hl0
        have cL := rr.cell 0 hl0
        have hx0 : (dl)[0] = (x : Int) := by simp [h5]
        rw [hx0, Nat.add_zero] at cL
        have hle := rr.le
        clear rr hx0 h5
        obtain ⟨o, ho⟩ : ∃ o, decide (x % 2 = 1) = o := ⟨_, rfl⟩
        have t1 : (x : Int).tmod 2 = ((x % 2 : Nat) : Int) := by rw [Int.tmod_eq_emod_of_nonneg (by omega)]; rfl
        have o1 : (((x : Int).tmod 2) == 1) = o := by rw [t1, ← ho, Bool.eq_iff_iff]; simp; omega
        have o2 : (((x : Int) % 2) == 1) = o := by rw [← ho, Bool.eq_iff_iff]; simp; omega
        clear t1
        obtain rfl : o = false := by rw [← ho, decide_eq_false_iff_not]; omega
        clear ho
        obtain ⟨cUp0, cUp1, cUp2, -, zUp⟩ := S3.box (w6.heap.size, (ug), .slice a6 (ul).length c6, (ul), (us)) (by simp)
        obtain ⟨cDn0, cDn1, cDn2, -, zDn⟩ := S3.box (w5.heap.size, (dg), .slice a5 (dl).length c5, (dl), (ds)) (by simp)
        go_wp2_with fail
        refine (jtDec_any _ (ug) (dg) _ _ (ul) (dl) (us) (ds) (S3.box (w6.heap.size, (ug), .slice a6 (ul).length c6, (ul), (us)) (by simp)).2.2.2.1 (S3.box (w5.heap.size, (dg), .slice a5 (dl).length c5, (dl), (ds)) (by simp)).2.2.2.1).mono ?_
        rintro e w13 ⟨⟨bx, rfl⟩, k13⟩
        have S13 := S3.later k13
        clear cEv0 cEv1 cEv2 zEv
        clear cUp0 cUp1 cUp2 zUp
        clear cDn0 cDn1 cDn2 zDn
        clear k13 S3
        obtain ⟨cMo0, cMo1, cMo2, -, zMo⟩ := S13.box (w7.heap.size, (ug), .slice a7 (ul).length c7, (ul), (us)) (by simp)
        obtain ⟨cUp0, cUp1, cUp2, -, zUp⟩ := S13.box (w6.heap.size, (ug), .slice a6 (ul).length c6, (ul), (us)) (by simp)
        go_wp2_with fail
        refine (jtDec_same _ (ug) _ _ (ul) (us) (S13.box (w7.heap.size, (ug), .slice a7 (ul).length c7, (ul), (us)) (by simp)).2.2.2.1 (S13.box (w6.heap.size, (ug), .slice a6 (ul).length c6, (ul), (us)) (by simp)).2.2.2.1).mono ?_
        rintro e w14 ⟨rfl, k14⟩
        have S14 := S13.later k14
        clear cMo0 cMo1 cMo2 zMo
        clear cUp0 cUp1 cUp2 zUp
        clear k14 S13
        obtain ⟨cLe0, cLe1, cLe2, -, zLe⟩ := S14.box (w8.heap.size, (dg), .slice a8 (dl).length c8, (dl), (ds)) (by simp)
        obtain ⟨cDn0, cDn1, cDn2, -, zDn⟩ := S14.box (w5.heap.size, (dg), .slice a5 (dl).length c5, (dl), (ds)) (by simp)
        go_wp2_with fail
        refine (jtDec_same _ (dg) _ _ (dl) (ds) (S14.box (w8.heap.size, (dg), .slice a8 (dl).length c8, (dl), (ds)) (by simp)).2.2.2.1 (S14.box (w5.heap.size, (dg), .slice a5 (dl).length c5, (dl), (ds)) (by simp)).2.2.2.1).mono ?_
        rintro e w15 ⟨rfl, k15⟩
        have S15 := S14.later k15
        clear cLe0 cLe1 cLe2 zLe
        clear cDn0 cDn1 cDn2 zDn
        clear k15 S14
        obtain ⟨cEv0, cEv1, cEv2, -, zEv⟩ := S15.box (w9.heap.size, (dg), .slice (some ⟨gb, go, none⟩) (dl).length c9, (dl), (ds)) (by simp)
        obtain ⟨cUp0, cUp1, cUp2, -, zUp⟩ := S15.box (w6.heap.size, (ug), .slice a6 (ul).length c6, (ul), (us)) (by simp)
        go_wp2_with fail
        refine (jtDec_any _ (dg) (ug) _ _ (dl) (ul) (ds) (us) (S15.box (w9.heap.size, (dg), .slice (some ⟨gb, go, none⟩) (dl).length c9, (dl), (ds)) (by simp)).2.2.2.1 (S15.box (w6.heap.size, (ug), .slice a6 (ul).length c6, (ul), (us)) (by simp)).2.2.2.1).mono ?_
        rintro e w16 ⟨⟨bz, rfl⟩, k16⟩
        have S16 := S15.later k16
        clear cEv0 cEv1 cEv2 zEv
        clear cUp0 cUp1 cUp2 zUp
        clear k16 S15
        obtain ⟨cEv0, cEv1, cEv2, -, zEv⟩ := S16.box (w9.heap.size, (dg), .slice (some ⟨gb, go, none⟩) (dl).length c9, (dl), (ds)) (by simp)
        obtain ⟨cDn0, cDn1, cDn2, -, zDn⟩ := S16.box (w5.heap.size, (dg), .slice a5 (dl).length c5, (dl), (ds)) (by simp)
        cases bz
        case true =>
          cases bx
          case true =>
            go_wp2
            go_ret
            exact ⟨rfl, S16.below⟩
          case false =>
            go_wp2
            go_ret
            exact ⟨rfl, S16.below⟩
        case false =>
          go_wp2_with fail
          refine (jtDec_same _ (dg) _ _ (dl) (ds) (S16.box (w9.heap.size, (dg), .slice (some ⟨gb, go, none⟩) (dl).length c9, (dl), (ds)) (by simp)).2.2.2.1 (S16.box (w5.heap.size, (dg), .slice a5 (dl).length c5, (dl), (ds)) (by simp)).2.2.2.1).mono ?_
          rintro e w17 ⟨rfl, k17⟩
          have S17 := S16.later k17
          clear cEv0 cEv1 cEv2 zEv
          clear cDn0 cDn1 cDn2 zDn
          clear k17 S16
          cases bx
          case true =>
            go_wp2
            go_ret
            exact ⟨rfl, S17.below⟩
          case false =>
            go_wp2
            go_ret
            exact ⟨rfl, S17.below⟩

end Go.Proofs.YthnkmjkgcnhlfaaGreatDoor
