/- The law FnDecRoundTwice: its walk. -/
import Derived.Test.YthnkmjkgcnhlfaaGreatDoorNumK
import Derived.Test.YthnkmjkgcnhlfaaGreatDoorH08
import Derived.Test.YthnkmjkgcnhlfaaGreatDoorByt1
import Derived.Test.YthnkmjkgcnhlfaaGreatDoorDSt
namespace Go.Proofs.YthnkmjkgcnhlfaaGreatDoor
open Go.RowKit
set_option linter.unusedSimpArgs false
set_option maxRecDepth 100000


set_option maxHeartbeats 4000000 in
theorem xDecTwiceP_walk (w : World) (u u1 : Value) (hu : Byt w u) (hu1 : Byt w u1) (tt : Tab w) (hd : Hd w) :
    Calls Tryz.prog 10 #[u, u1] w fun e w' => e = .returned (.bool true) ∧ Below w.heap.size w w' := by
  have C0 := hide (drawDecRound_any w u hu)
  obtain ⟨ao, N, cap, rfl, hn⟩ := byt_len hu
  obtain ⟨ao1, N1, cap1, rfl, hn1⟩ := byt_len hu1
  clear hu hu1
  by_cases hl : (1048576 : Int) < N
  · have t0 : decide ((1048576 : Int) < N) = true := by simpa using hl
    go_enter Tryz.func10, Tryz.ntmps10
    go_wp2
    go_ret
    exact ⟨rfl, Below.refl _ _⟩
  have t0 : decide ((1048576 : Int) < N) = false := by simpa using hl
  by_cases hl1 : (1048576 : Int) < N1
  · have t1 : decide ((1048576 : Int) < N1) = true := by simpa using hl1
    go_enter Tryz.func10, Tryz.ntmps10
    go_wp2
    go_ret
    exact ⟨rfl, Below.refl _ _⟩
  have t1 : decide ((1048576 : Int) < N1) = false := by simpa using hl1
  go_enter Tryz.func10, Tryz.ntmps10
  go_wp2_with fail
  refine (unhide C0).mono ?_
  rintro e w1 ⟨p, l, sc, t, mode, aa, ca, rfl, hll, oa, b1⟩
  have S1 := (DS.start b1).add p (.slice aa l.length ca) l sc oa.reads
  simp only [List.nil_append] at S1
  clear C0 b1 oa
  obtain ⟨og, ol, os, on, hO⟩ : ∃ og ol os on, droundR p l sc t mode = (og, ol, os, on) := ⟨_, _, _, _, rfl⟩
  have CI := hide (fun W v (hr : Reads W v l) (k : Below w.heap.size w W) => implDecRound_any W p v l sc t mode hr (tt.later k) (hd.later k))
  have CS := hide (fun W v (hr : Reads W v l) => specDecRound_any W p v l sc t mode hr)
  rw [hO] at CI CS
  have HO := hide (show on = 0 → mode < 5 → _ from fun h0 h5 => twice_law (h0 ▸ hO) h5)
  clear hO
  go_wp2_with fail
  refine (unhide CI _ _ (S1.box (w1.heap.size, p, .slice aa l.length ca, l, sc) (by simp)).2.2.2.1 S1.below).mono ?_
  rintro e w2 ⟨a2, c2, rfl, o2, k2⟩
  simp only at o2 ⊢
  have R2 := S1.later k2
  have S2 := R2.add (og) (.slice a2 (ol).length c2) (ol) (os) o2.reads
  simp only [List.nil_append, List.cons_append, World.size_alloc] at S2
  clear k2 o2 S1
  obtain ⟨cA0, cA1, cA2, -, zA⟩ := R2.box (w1.heap.size, p, .slice aa l.length ca, l, sc) (by simp)
  go_wp2_with fail
  refine (unhide CS _ _ (S2.box (w1.heap.size, p, .slice aa l.length ca, l, sc) (by simp)).2.2.2.1).mono ?_
  rintro e w3 ⟨a3, c3, rfl, o3, k3⟩
  simp only at o3 ⊢
  have R3 := S2.later k3
  have S3 := R3.add (og) (.slice a3 (ol).length c3) (ol) (os) o3.reads
  simp only [List.nil_append, List.cons_append, World.size_alloc] at S3
  clear cA0 cA1 cA2 zA
  clear k3 o3 S2 R2
  have hnn : (on != on) = false := by simp
  have hnn2 : (on == on) = true := by simp
  clear CI CS
  obtain ⟨cX0, cX1, cX2, -, zX⟩ := R3.box (w2.heap.size, (og), .slice a2 (ol).length c2, (ol), (os)) (by simp)
  go_wp2_with fail
  refine (jtDec_same _ (og) _ _ (ol) (os) (S3.box (w2.heap.size, (og), .slice a2 (ol).length c2, (ol), (os)) (by simp)).2.2.2.1 (S3.box (w3.heap.size, (og), .slice a3 (ol).length c3, (ol), (os)) (by simp)).2.2.2.1).mono ?_
  rintro e w4 ⟨rfl, k4⟩
  have S4 := S3.later k4
  clear cX0 cX1 cX2 zX
  clear k4 S3 R3
  by_cases h0 : on = 0
  case neg =>
    have hn0 : (on != 0) = true := by simpa using h0
    clear h0 HO
    obtain ⟨cX0, cX1, cX2, -, zX⟩ := S4.box (w2.heap.size, (og), .slice a2 (ol).length c2, (ol), (os)) (by simp)
    obtain ⟨cY0, cY1, cY2, -, zY⟩ := S4.box (w3.heap.size, (og), .slice a3 (ol).length c3, (ol), (os)) (by simp)
    go_wp2_with fail
    refine (jtDec_same _ (og) _ _ (ol) (os) (S4.box (w2.heap.size, (og), .slice a2 (ol).length c2, (ol), (os)) (by simp)).2.2.2.1 (S4.box (w3.heap.size, (og), .slice a3 (ol).length c3, (ol), (os)) (by simp)).2.2.2.1).mono ?_
    rintro e w5 ⟨rfl, k5⟩
    have S5 := S4.later k5
    clear cX0 cX1 cX2 zX
    clear cY0 cY1 cY2 zY
    clear k5 S4
    go_wp2
    go_ret
    exact ⟨rfl, S5.below⟩
  subst h0
  by_cases h5 : 5 ≤ mode
  case pos =>
    have h6 : decide (5 ≤ mode) = true := by simpa using h5
    clear h5 HO
    obtain ⟨cX0, cX1, cX2, -, zX⟩ := S4.box (w2.heap.size, (og), .slice a2 (ol).length c2, (ol), (os)) (by simp)
    obtain ⟨cY0, cY1, cY2, -, zY⟩ := S4.box (w3.heap.size, (og), .slice a3 (ol).length c3, (ol), (os)) (by simp)
    go_wp2_with fail
    refine (jtDec_same _ (og) _ _ (ol) (os) (S4.box (w2.heap.size, (og), .slice a2 (ol).length c2, (ol), (os)) (by simp)).2.2.2.1 (S4.box (w3.heap.size, (og), .slice a3 (ol).length c3, (ol), (os)) (by simp)).2.2.2.1).mono ?_
    rintro e w5 ⟨rfl, k5⟩
    have S5 := S4.later k5
    clear cX0 cX1 cX2 zX
    clear cY0 cY1 cY2 zY
    clear k5 S4
    go_wp2
    go_ret
    exact ⟨rfl, S5.below⟩
  have h6 : decide (5 ≤ mode) = false := by simpa using h5
  obtain ⟨ht0, ht1, hall⟩ := unhide HO rfl (by omega)
  obtain ⟨yg, yl, ys, yc, e1, e2⟩ := hall ((N1 : Int) % (t + 1)) (Int.emod_nonneg _ (by omega)) (by have := Int.emod_lt_of_pos (N1 : Int) (show 0 < t + 1 by omega); omega)
  have hw1 : IntKind.i64.wrap (t + 1) = t + 1 := by rw [IntKind.wrap_i64]; omega
  have hw2 : (t + 1 == 0) = false := by rw [beq_eq_false_iff_ne]; omega
  have hm0 : (0 : Int) ≤ (N1 : Int) % (t + 1) := Int.emod_nonneg _ (by omega)
  have hm1 : (N1 : Int) % (t + 1) < t + 1 := Int.emod_lt_of_pos _ (by omega)
  have hw3 : IntKind.i64.wrap ((N1 : Int) % (t + 1)) = (N1 : Int) % (t + 1) := by rw [IntKind.wrap_i64]; omega
  have htm : (N1 : Int).tmod (t + 1) = (N1 : Int) % (t + 1) := Int.tmod_eq_emod_of_nonneg (Int.natCast_nonneg _)
  have C1 := hide (fun W v (hr : Reads W v ol) (k : Below w.heap.size w W) => implDecRound_any W og v ol os ((N1 : Int) % (t + 1)) mode hr (tt.later k) (hd.later k))
  rw [e1] at C1
  have C2 := hide (fun W v (hr : Reads W v l) (k : Below w.heap.size w W) => implDecRound_any W p v l sc ((N1 : Int) % (t + 1)) mode hr (tt.later k) (hd.later k))
  rw [e2] at C2
  have hyy : (yc == yc) = true := by simp
  clear HO hall e1 e2 h5
  obtain ⟨cX0, cX1, cX2, -, zX⟩ := S4.box (w2.heap.size, (og), .slice a2 (ol).length c2, (ol), (os)) (by simp)
  go_wp2_with fail
  refine (unhide C1 _ _ (S4.box (w2.heap.size, (og), .slice a2 (ol).length c2, (ol), (os)) (by simp)).2.2.2.1 S4.below).mono ?_
  rintro e w5 ⟨a5, c5, rfl, o5, k5⟩
  simp only at o5 ⊢
  have R5 := S4.later k5
  have S5 := R5.add (yg) (.slice a5 (yl).length c5) (yl) (ys) o5.reads
  simp only [List.nil_append, List.cons_append, World.size_alloc] at S5
  clear cX0 cX1 cX2 zX
  clear k5 o5 S4
  obtain ⟨cA0, cA1, cA2, -, zA⟩ := R5.box (w1.heap.size, p, .slice aa l.length ca, l, sc) (by simp)
  go_wp2_with fail
  refine (unhide C2 _ _ (S5.box (w1.heap.size, p, .slice aa l.length ca, l, sc) (by simp)).2.2.2.1 S5.below).mono ?_
  rintro e w6 ⟨a6, c6, rfl, o6, k6⟩
  simp only at o6 ⊢
  have R6 := S5.later k6
  have S6 := R6.add (yg) (.slice a6 (yl).length c6) (yl) (ys) o6.reads
  simp only [List.nil_append, List.cons_append, World.size_alloc] at S6
  clear cA0 cA1 cA2 zA
  clear k6 o6 S5 R5
  obtain ⟨cU0, cU1, cU2, -, zU⟩ := R6.box (w5.heap.size, (yg), .slice a5 (yl).length c5, (yl), (ys)) (by simp)
  go_wp2_with fail
  refine (jtDec_same _ (yg) _ _ (yl) (ys) (S6.box (w5.heap.size, (yg), .slice a5 (yl).length c5, (yl), (ys)) (by simp)).2.2.2.1 (S6.box (w6.heap.size, (yg), .slice a6 (yl).length c6, (yl), (ys)) (by simp)).2.2.2.1).mono ?_
  rintro e w7 ⟨rfl, k7⟩
  have S7 := S6.later k7
  clear cU0 cU1 cU2 zU
  clear k7 S6 R6
  go_wp2
  go_ret
  exact ⟨rfl, S7.below⟩

end Go.Proofs.YthnkmjkgcnhlfaaGreatDoor
