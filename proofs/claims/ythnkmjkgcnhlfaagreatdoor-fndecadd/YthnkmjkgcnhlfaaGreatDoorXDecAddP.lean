/- The law FnDecAdd: its walk. -/
import Derived.Test.YthnkmjkgcnhlfaaGreatDoorNumG
import Derived.Test.YthnkmjkgcnhlfaaGreatDoorDrDa
import Derived.Test.YthnkmjkgcnhlfaaGreatDoorH08
import Derived.Test.YthnkmjkgcnhlfaaGreatDoorByt1
import Derived.Test.YthnkmjkgcnhlfaaGreatDoorDSt
namespace Go.Proofs.YthnkmjkgcnhlfaaGreatDoor
open Go.RowKit
set_option linter.unusedSimpArgs false
set_option maxRecDepth 100000

theorem add_law {p q og : Bool} {l m ol : List Int} {s t os : Int} (h : daddR p l s q m t = (og, ol, os, 0)) :
    decB og ol os = true ∧ daddR q m t p l s = (og, ol, os, 0) ∧ ∃ yg yl ys k, dsubR og ol os q m t = (yg, yl, ys, k) ∧ (k = 0 ∧ dcmpR yg yl ys p l s = 0 ∨ k = 3) := by
  by_cases hok : decB p l s = true ∧ decB q m t = true
  · obtain ⟨h1, h2⟩ := hok
    obtain ⟨z, rfl, rfl, -⟩ := dec_fit h1
    obtain ⟨x, rfl, rfl, -⟩ := dec_fit h2
    rw [dadd_z h1 h2] at h
    by_cases hf : Fit (z * ((10 ^ (max s t - s).toNat : Nat) : Int) + x * ((10 ^ (max s t - t).toNat : Nat) : Int))
    · obtain ⟨m1, m2, m3⟩ := add_back h1 h2 rfl hf
      rw [dmake_fit _ hf] at h
      simp only [Prod.mk.injEq] at h
      obtain ⟨rfl, rfl, rfl, -⟩ := h
      refine ⟨m1, m2, ?_⟩
      rcases m3 with m3 | ⟨y, m3, m4⟩
      · exact ⟨_, _, _, _, m3, .inr rfl⟩
      · exact ⟨_, _, _, _, m3, .inl ⟨rfl, m4⟩⟩
    · rw [dmake_not _ hf] at h
      simp at h
  · rw [dadd_bad hok] at h
    simp at h

set_option maxHeartbeats 4000000 in
theorem xDecAddP_walk (w : World) (u : Value) (hu : Byt w u) (tt : Tab w) (hd : Hd w) :
    Calls Tryz.prog 3 #[u] w fun e w' => e = .returned (.bool true) ∧ Below w.heap.size w w' := by
  have C0 := hide (drawDecAdd_any w u hu)
  obtain ⟨ao, N, cap, rfl, hn⟩ := byt_len hu
  clear hu
  by_cases hl : (1048576 : Int) < N
  · have t0 : decide ((1048576 : Int) < N) = true := by simpa using hl
    go_enter Tryz.func3, Tryz.ntmps3
    go_wp2
    go_ret
    exact ⟨rfl, Below.refl _ _⟩
  have t0 : decide ((1048576 : Int) < N) = false := by simpa using hl
  go_enter Tryz.func3, Tryz.ntmps3
  go_wp2_with fail
  refine (unhide C0).mono ?_
  rintro e w1 ⟨p, q, l, m, s, t, aa, ca, ab, cb, rfl, oa, ob, b1⟩
  have S1 := ((DS.start b1).add p (.slice aa l.length ca) l s oa.reads).add q (.slice ab m.length cb) m t (ob.reads.alloc _)
  simp only [List.nil_append, List.cons_append, World.size_alloc] at S1
  clear C0 b1 oa ob
  obtain ⟨og, ol, os, on, hO⟩ : ∃ og ol os on, daddR p l s q m t = (og, ol, os, on) := ⟨_, _, _, _, rfl⟩
  have CI := hide (fun W u v (hu : Reads W u l) (hv : Reads W v m) (k : Below w.heap.size w W) => implDecAdd_any W p q u v l m s t hu hv (tt.later k) (hd.later k))
  have CS := hide (fun W u v (hu : Reads W u l) (hv : Reads W v m) => specDecAdd_any W p q u v l m s t hu hv)
  rw [hO] at CI CS
  have HO := hide (show on = 0 → _ from fun h0 => add_law (h0 ▸ hO))
  clear hO
  go_wp2_with fail
  refine (unhide CI _ _ _ (S1.box (w1.heap.size, p, .slice aa l.length ca, l, s) (by simp)).2.2.2.1 (S1.box (w1.heap.size + 1, q, .slice ab m.length cb, m, t) (by simp)).2.2.2.1 S1.below).mono ?_
  rintro e w2 ⟨a2, c2, rfl, o2, k2⟩
  simp only at o2 ⊢
  have R2 := S1.later k2
  have S2 := R2.add (og) (.slice a2 (ol).length c2) (ol) (os) o2.reads
  simp only [List.nil_append, List.cons_append, World.size_alloc] at S2
  clear k2 o2 S1
  obtain ⟨cA0, cA1, cA2, -, zA⟩ := R2.box (w1.heap.size, p, .slice aa l.length ca, l, s) (by simp)
  obtain ⟨cB0, cB1, cB2, -, zB⟩ := R2.box (w1.heap.size + 1, q, .slice ab m.length cb, m, t) (by simp)
  go_wp2_with fail
  refine (unhide CS _ _ _ (S2.box (w1.heap.size, p, .slice aa l.length ca, l, s) (by simp)).2.2.2.1 (S2.box (w1.heap.size + 1, q, .slice ab m.length cb, m, t) (by simp)).2.2.2.1).mono ?_
  rintro e w3 ⟨a3, c3, rfl, o3, k3⟩
  simp only at o3 ⊢
  have R3 := S2.later k3
  have S3 := R3.add (og) (.slice a3 (ol).length c3) (ol) (os) o3.reads
  simp only [List.nil_append, List.cons_append, World.size_alloc] at S3
  clear cA0 cA1 cA2 zA
  clear cB0 cB1 cB2 zB
  clear k3 o3 S2 R2
  have hnn : (on != on) = false := by simp
  have hnn2 : (on == on) = true := by simp
  clear CI CS
  obtain ⟨cX0, cX1, cX2, -, zX⟩ := R3.box (w2.heap.size, (og), .slice a2 (ol).length c2, (ol), (os)) (by simp)
  go_wp2_with fail
  refine (jtDec_same _ (og) _ _ (ol) (os) (S3.box (w2.heap.size, (og), .slice a2 (ol).length c2, (ol), (os)) (by simp)).2.2.2.1 (S3.box (w3.heap.size, (og), .slice a3 (ol).length c3, (ol), (os)) (by simp)).2.2.2.1).mono ?_
  rintro e w4 ⟨rfl, k4⟩
  have S4 := S3.later k4
  clear cX0 cX1 cX2 zX
  clear k4 S3 R3
  by_cases h0 : on = 0
  case neg =>
    have hn0 : (on != 0) = true := by simpa using h0
    clear h0 HO
    obtain ⟨cX0, cX1, cX2, -, zX⟩ := S4.box (w2.heap.size, (og), .slice a2 (ol).length c2, (ol), (os)) (by simp)
    obtain ⟨cY0, cY1, cY2, -, zY⟩ := S4.box (w3.heap.size, (og), .slice a3 (ol).length c3, (ol), (os)) (by simp)
    go_wp2_with fail
    refine (jtDec_same _ (og) _ _ (ol) (os) (S4.box (w2.heap.size, (og), .slice a2 (ol).length c2, (ol), (os)) (by simp)).2.2.2.1 (S4.box (w3.heap.size, (og), .slice a3 (ol).length c3, (ol), (os)) (by simp)).2.2.2.1).mono ?_
    rintro e w5 ⟨rfl, k5⟩
    have S5 := S4.later k5
    clear cX0 cX1 cX2 zX
    clear cY0 cY1 cY2 zY
    clear k5 S4
    go_wp2
    go_ret
    exact ⟨rfl, S5.below⟩
  subst h0
  obtain ⟨hok, hba, yg, yl, ys, yk, hsu, hfin⟩ := unhide HO rfl
  have C1 := hide (fun W u v (hu : Reads W u ol) (hv : Reads W v m) (k : Below w.heap.size w W) => implDecSub_any W og q u v ol m os t hu hv (tt.later k) (hd.later k))
  rw [hsu] at C1
  have C2 := hide (fun W u v (hu : Reads W u m) (hv : Reads W v l) (k : Below w.heap.size w W) => implDecAdd_any W q p u v m l t s hu hv (tt.later k) (hd.later k))
  rw [hba] at C2
  have C4 := hide (fun W u (hu : Reads W u ol) (k : Below w.heap.size w W) => implDecOk_any W og u ol os hu (tt.later k))
  rw [hok] at C4
  clear HO hba hsu hok
  obtain ⟨cX0, cX1, cX2, -, zX⟩ := S4.box (w2.heap.size, (og), .slice a2 (ol).length c2, (ol), (os)) (by simp)
  obtain ⟨cB0, cB1, cB2, -, zB⟩ := S4.box (w1.heap.size + 1, q, .slice ab m.length cb, m, t) (by simp)
  go_wp2_with fail
  refine (unhide C1 _ _ _ (S4.box (w2.heap.size, (og), .slice a2 (ol).length c2, (ol), (os)) (by simp)).2.2.2.1 (S4.box (w1.heap.size + 1, q, .slice ab m.length cb, m, t) (by simp)).2.2.2.1 S4.below).mono ?_
  rintro e w5 ⟨a5, c5, rfl, o5, k5⟩
  simp only at o5 ⊢
  have R5 := S4.later k5
  have S5 := R5.add (yg) (.slice a5 (yl).length c5) (yl) (ys) o5.reads
  simp only [List.nil_append, List.cons_append, World.size_alloc] at S5
  clear cX0 cX1 cX2 zX
  clear cB0 cB1 cB2 zB
  clear k5 o5 S4
  obtain ⟨cB0, cB1, cB2, -, zB⟩ := R5.box (w1.heap.size + 1, q, .slice ab m.length cb, m, t) (by simp)
  obtain ⟨cA0, cA1, cA2, -, zA⟩ := R5.box (w1.heap.size, p, .slice aa l.length ca, l, s) (by simp)
  go_wp2_with fail
  refine (unhide C2 _ _ _ (S5.box (w1.heap.size + 1, q, .slice ab m.length cb, m, t) (by simp)).2.2.2.1 (S5.box (w1.heap.size, p, .slice aa l.length ca, l, s) (by simp)).2.2.2.1 S5.below).mono ?_
  rintro e w6 ⟨a6, c6, rfl, o6, k6⟩
  simp only at o6 ⊢
  have R6 := S5.later k6
  have S6 := R6.add (og) (.slice a6 (ol).length c6) (ol) (os) o6.reads
  simp only [List.nil_append, List.cons_append, World.size_alloc] at S6
  clear cB0 cB1 cB2 zB
  clear cA0 cA1 cA2 zA
  clear k6 o6 S5 R5
  rcases hfin with ⟨rfl, hc⟩ | rfl
  case inl =>
    have C3 := hide (fun W u v (hu : Reads W u yl) (hv : Reads W v l) (k : Below w.heap.size w W) => implDecCmp_any W yg p u v yl l ys s hu hv (tt.later k))
    rw [hc] at C3
    clear hc
    obtain ⟨cX0, cX1, cX2, -, zX⟩ := R6.box (w2.heap.size, (og), .slice a2 (ol).length c2, (ol), (os)) (by simp)
    go_wp2_with fail
    refine (jtDec_same _ (og) _ _ (ol) (os) (S6.box (w6.heap.size, (og), .slice a6 (ol).length c6, (ol), (os)) (by simp)).2.2.2.1 (S6.box (w2.heap.size, (og), .slice a2 (ol).length c2, (ol), (os)) (by simp)).2.2.2.1).mono ?_
    rintro e w7 ⟨rfl, k7⟩
    have S7 := S6.later k7
    clear cX0 cX1 cX2 zX
    clear k7 S6 R6
    obtain ⟨cU0, cU1, cU2, -, zU⟩ := S7.box (w5.heap.size, (yg), .slice a5 (yl).length c5, (yl), (ys)) (by simp)
    obtain ⟨cA0, cA1, cA2, -, zA⟩ := S7.box (w1.heap.size, p, .slice aa l.length ca, l, s) (by simp)
    go_wp2_with fail
    refine (unhide C3 _ _ _ (S7.box (w5.heap.size, (yg), .slice a5 (yl).length c5, (yl), (ys)) (by simp)).2.2.2.1 (S7.box (w1.heap.size, p, .slice aa l.length ca, l, s) (by simp)).2.2.2.1 S7.below).mono ?_
    rintro e w8 ⟨rfl, k8⟩
    have S8 := S7.later k8
    clear cU0 cU1 cU2 zU
    clear cA0 cA1 cA2 zA
    clear k8 S7
    obtain ⟨cX0, cX1, cX2, -, zX⟩ := S8.box (w2.heap.size, (og), .slice a2 (ol).length c2, (ol), (os)) (by simp)
    go_wp2_with fail
    refine (unhide C4 _ _ (S8.box (w2.heap.size, (og), .slice a2 (ol).length c2, (ol), (os)) (by simp)).2.2.2.1 S8.below).mono ?_
    rintro e w9 ⟨rfl, k9⟩
    have S9 := S8.later k9
    clear cX0 cX1 cX2 zX
    clear k9 S8
    go_wp2
    go_ret
    exact ⟨rfl, S9.below⟩
  case inr =>
    obtain ⟨cX0, cX1, cX2, -, zX⟩ := R6.box (w2.heap.size, (og), .slice a2 (ol).length c2, (ol), (os)) (by simp)
    go_wp2_with fail
    refine (jtDec_same _ (og) _ _ (ol) (os) (S6.box (w6.heap.size, (og), .slice a6 (ol).length c6, (ol), (os)) (by simp)).2.2.2.1 (S6.box (w2.heap.size, (og), .slice a2 (ol).length c2, (ol), (os)) (by simp)).2.2.2.1).mono ?_
    rintro e w7 ⟨rfl, k7⟩
    have S7 := S6.later k7
    clear cX0 cX1 cX2 zX
    clear k7 S6 R6
    obtain ⟨cX0, cX1, cX2, -, zX⟩ := S7.box (w2.heap.size, (og), .slice a2 (ol).length c2, (ol), (os)) (by simp)
    go_wp2_with fail
    refine (unhide C4 _ _ (S7.box (w2.heap.size, (og), .slice a2 (ol).length c2, (ol), (os)) (by simp)).2.2.2.1 S7.below).mono ?_
    rintro e w8 ⟨rfl, k8⟩
    have S8 := S7.later k8
    clear cX0 cX1 cX2 zX
    clear k8 S7
    go_wp2
    go_ret
    exact ⟨rfl, S8.below⟩

end Go.Proofs.YthnkmjkgcnhlfaaGreatDoor
