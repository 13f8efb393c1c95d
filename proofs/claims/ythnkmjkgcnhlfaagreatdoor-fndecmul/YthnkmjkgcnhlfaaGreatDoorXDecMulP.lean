/- The law FnDecMul: its walk. -/
import Derived.Test.YthnkmjkgcnhlfaaGreatDoorK03
import Derived.Test.YthnkmjkgcnhlfaaGreatDoorDrMu
import Derived.Test.YthnkmjkgcnhlfaaGreatDoorH08
import Derived.Test.YthnkmjkgcnhlfaaGreatDoorByt1
import Derived.Test.YthnkmjkgcnhlfaaGreatDoorK02
import Derived.Test.YthnkmjkgcnhlfaaGreatDoorOf
import Derived.Deep.DeepCutAuto
import Derived.Deep.RegionHeld3
namespace Go.Proofs.YthnkmjkgcnhlfaaGreatDoor
open Go.RowKit
set_option linter.unusedSimpArgs false
set_option maxRecDepth 100000


set_option maxHeartbeats 4000000 in
theorem xDecMulP_walk (w : World) (u : Value) (hu : Byt w u) (tt : Tab w) (hd : Hd w) :
    Calls Tryz.prog 5 #[u] w fun e w' => e = .returned (.bool true) ∧ Below w.heap.size w w' := by
  have C0 := hide (drawDecMul_any w u hu)
  obtain ⟨ao, N, cap, rfl, hn⟩ := byt_len hu
  clear hu
  by_cases hl : (1048576 : Int) < N
  · have t0 : decide ((1048576 : Int) < N) = true := by simpa using hl
    go_enter Tryz.func5, Tryz.ntmps5
    go_wp2
    go_ret
    exact ⟨rfl, Below.refl _ _⟩
  have t0 : decide ((1048576 : Int) < N) = false := by simpa using hl
  go_enter Tryz.func5, Tryz.ntmps5
  go_wp2_with fail
  refine (unhide C0).mono ?_
  rintro e w1 ⟨p, q, l, m, s, t, aa, ca, ab, cb, rfl, oa, ob, b1⟩
  have S1 := ((DS.start b1).add p (.slice aa l.length ca) l s oa.reads).add q (.slice ab m.length cb) m t (ob.reads.alloc _)
  simp only [List.nil_append, List.cons_append, World.size_alloc] at S1
  clear C0 b1 oa ob
  obtain ⟨og, ol, os, on, hO⟩ : ∃ og ol os on, dmulR p l s q m t = (og, ol, os, on) := ⟨_, _, _, _, rfl⟩
  have CI := hide (fun W u v (hu : Reads W u l) (hv : Reads W v m) (k : Below w.heap.size w W) => implDecMul_any W p q u v l m s t hu hv (tt.later k) (hd.later k))
  have CS := hide (fun W u v (hu : Reads W u l) (hv : Reads W v m) => specDecMul_any W p q u v l m s t hu hv)
  rw [hO] at CI CS
  have HO := hide (show on ≠ 1 → _ from fun h => mul_law hO h)
  clear hO
  go_wp2_with fail
  refine (unhide CI _ _ _ (S1.box (w1.heap.size, p, .slice aa l.length ca, l, s) (by simp)).2.2.2.1 (S1.box (w1.heap.size + 1, q, .slice ab m.length cb, m, t) (by simp)).2.2.2.1 S1.below).mono ?_
  rintro e w2 ⟨a2, c2, rfl, o2, k2⟩
  simp only at o2 ⊢
  have R2 := S1.later k2
  have S2 := R2.add (og) (.slice a2 (ol).length c2) (ol) (os) o2.reads
  simp only [List.nil_append, List.cons_append, World.size_alloc] at S2
  clear k2 o2 S1
  obtain ⟨cA0, cA1, cA2, -, zA⟩ := R2.box (w1.heap.size, p, .slice aa l.length ca, l, s) (by simp)
  obtain ⟨cB0, cB1, cB2, -, zB⟩ := R2.box (w1.heap.size + 1, q, .slice ab m.length cb, m, t) (by simp)
  go_wp2_with fail
  refine (unhide CS _ _ _ (S2.box (w1.heap.size, p, .slice aa l.length ca, l, s) (by simp)).2.2.2.1 (S2.box (w1.heap.size + 1, q, .slice ab m.length cb, m, t) (by simp)).2.2.2.1).mono ?_
  rintro e w3 ⟨a3, c3, rfl, o3, k3⟩
  simp only at o3 ⊢
  have R3 := S2.later k3
  have S3 := R3.add (og) (.slice a3 (ol).length c3) (ol) (os) o3.reads
  simp only [List.nil_append, List.cons_append, World.size_alloc] at S3
  clear cA0 cA1 cA2 zA
  clear cB0 cB1 cB2 zB
  clear k3 o3 S2 R2
  have hnn : (on != on) = false := by simp
  have hnn2 : (on == on) = true := by simp
  clear CI CS
  obtain ⟨cX0, cX1, cX2, -, zX⟩ := R3.box (w2.heap.size, (og), .slice a2 (ol).length c2, (ol), (os)) (by simp)
  go_wp2_with fail
  refine (jtDec_same _ (og) _ _ (ol) (os) (S3.box (w2.heap.size, (og), .slice a2 (ol).length c2, (ol), (os)) (by simp)).2.2.2.1 (S3.box (w3.heap.size, (og), .slice a3 (ol).length c3, (ol), (os)) (by simp)).2.2.2.1).mono ?_
  rintro e w4 ⟨rfl, k4⟩
  have S4 := S3.later k4
  clear cX0 cX1 cX2 zX
  clear k4 S3 R3
  by_cases h0 : on = 1
  case pos =>
    have hn0 : (on == 1) = true := by simpa using h0
    clear h0 HO
    obtain ⟨cX0, cX1, cX2, -, zX⟩ := S4.box (w2.heap.size, (og), .slice a2 (ol).length c2, (ol), (os)) (by simp)
    obtain ⟨cY0, cY1, cY2, -, zY⟩ := S4.box (w3.heap.size, (og), .slice a3 (ol).length c3, (ol), (os)) (by simp)
    go_wp2_with fail
    refine (jtDec_same _ (og) _ _ (ol) (os) (S4.box (w2.heap.size, (og), .slice a2 (ol).length c2, (ol), (os)) (by simp)).2.2.2.1 (S4.box (w3.heap.size, (og), .slice a3 (ol).length c3, (ol), (os)) (by simp)).2.2.2.1).mono ?_
    rintro e w5 ⟨rfl, k5⟩
    have S5 := S4.later k5
    clear cX0 cX1 cX2 zX
    clear cY0 cY1 cY2 zY
    clear k5 S4
    go_wp2
    go_ret
    exact ⟨rfl, S5.below⟩
  have hn0 : (on == 1) = false := by simpa using h0
  obtain ⟨hon, hrev, hone, hnil, hsc, hs0, ht0⟩ := unhide HO h0
  have C1 := hide (fun W u v (hu : Reads W u m) (hv : Reads W v l) (k : Below w.heap.size w W) => implDecMul_any W q p u v m l t s hu hv (tt.later k) (hd.later k))
  rw [hrev] at C1
  have C2 := hide (fun W u v (hu : Reads W u l) (hv : Reads W v [1]) (k : Below w.heap.size w W) => implDecMul_any W p false u v l [1] s 0 hu hv (tt.later k) (hd.later k))
  rw [hone] at C2
  have C3 := hide (fun W u v (hu : Reads W u l) (hv : Reads W v []) (k : Below w.heap.size w W) => implDecMul_any W p false u v l [] s 0 hu hv (tt.later k) (hd.later k))
  rw [hnil] at C3
  have CB := hide (fun W => (implBigOf_any W 1 (by omega) (by omega) : Calls Tryz.prog 27 #[.int .i64 1] W (GivesBig W (ofR 1).1 (ofR 1).2)))
  rw [show ofR 1 = (false, [1]) from Prod.ext rfl L1] at CB
  dsimp only at CB
  have hw : IntKind.i64.wrap (s + t) = s + t := by rw [IntKind.wrap_i64]; omega
  have HSC := hide hsc
  clear HO hrev hone hnil h0 hsc
  obtain ⟨cB0, cB1, cB2, -, zB⟩ := S4.box (w1.heap.size + 1, q, .slice ab m.length cb, m, t) (by simp)
  obtain ⟨cA0, cA1, cA2, -, zA⟩ := S4.box (w1.heap.size, p, .slice aa l.length ca, l, s) (by simp)
  go_wp2_with fail
  refine (unhide C1 _ _ _ (S4.box (w1.heap.size + 1, q, .slice ab m.length cb, m, t) (by simp)).2.2.2.1 (S4.box (w1.heap.size, p, .slice aa l.length ca, l, s) (by simp)).2.2.2.1 S4.below).mono ?_
  rintro e w5 ⟨a5, c5, rfl, o5, k5⟩
  simp only at o5 ⊢
  have R5 := S4.later k5
  have S5 := R5.add (og) (.slice a5 (ol).length c5) (ol) (os) o5.reads
  simp only [List.nil_append, List.cons_append, World.size_alloc] at S5
  clear cB0 cB1 cB2 zB
  clear cA0 cA1 cA2 zA
  clear k5 o5 S4
  clear C1
  obtain ⟨cA0, cA1, cA2, -, zA⟩ := R5.box (w1.heap.size, p, .slice aa l.length ca, l, s) (by simp)
  go_wp2_with fail
  generalize hW6 : w5.alloc (.cells #[.bool _, _, .int .i64 _] 27) = H6 at *
  clear hW6
  clear cA0 cA1 cA2 zA
  have stab : ∀ w' : World, Below H6.heap.size H6 w' → ((w'.cell? ⟨w1.heap.size, 0, none⟩ = some (.bool p) ∧ w'.cell? ⟨w1.heap.size, 1, none⟩ = some (.slice aa l.length ca) ∧ w'.cell? ⟨w1.heap.size, 2, none⟩ = some (.int .i64 s)) ∧ Below H6.heap.size H6 w') := fun w' h => ⟨⟨((S5.later h).box (w1.heap.size, p, .slice aa l.length ca, l, s) (by simp)).1, ((S5.later h).box (w1.heap.size, p, .slice aa l.length ca, l, s) (by simp)).2.1, ((S5.later h).box (w1.heap.size, p, .slice aa l.length ca, l, s) (by simp)).2.2.1⟩, h⟩
  have hB : ∀ w' : World, ((w'.cell? ⟨w1.heap.size, 0, none⟩ = some (.bool p) ∧ w'.cell? ⟨w1.heap.size, 1, none⟩ = some (.slice aa l.length ca) ∧ w'.cell? ⟨w1.heap.size, 2, none⟩ = some (.int .i64 s)) ∧ Below H6.heap.size H6 w') → Below H6.heap.size H6 w' := fun w' h => h.2
  have Stab := hide stab
  have HB := hide hB
  clear stab hB
  go_cut [11, 12] (fun sp sm wk => ∃ (nZ : Nat) (aZ : Option Addr) (cZ : Nat), sp = .pointer (some ⟨nZ, 0, none⟩) ∧ sm = .int .i64 0 ∧ DS w wk ([(w1.heap.size, p, .slice aa l.length ca, l, s), (w1.heap.size + 1, q, .slice ab m.length cb, m, t), (w2.heap.size, (og), .slice a2 (ol).length c2, (ol), (os)), (w3.heap.size, (og), .slice a3 (ol).length c3, (ol), (os)), (w5.heap.size, (og), .slice a5 (ol).length c5, (ol), (os))] ++ [(nZ, (p), .slice aZ (l).length cZ, (l), (s))]))
  case first =>
    go_region_held3 (fun w' => (w'.cell? ⟨w1.heap.size, 0, none⟩ = some (.bool p) ∧ w'.cell? ⟨w1.heap.size, 1, none⟩ = some (.slice aa l.length ca) ∧ w'.cell? ⟨w1.heap.size, 2, none⟩ = some (.int .i64 s)) ∧ Below H6.heap.size H6 w')
      ((first | exact unhide Stab _ (Below.refl _ _).drew | exact unhide Stab _ ((Below.refl _ _).alloc (Nat.le_refl _) _).drew | (with_reducible refine unhide Stab _ ?_; with_reducible assumption) | exact unhide Stab _ (BW0.alloc BW0.size _) | exact unhide Stab _ (BW1.alloc BW1.size _) | exact unhide Stab _ (((BW1.setCell (Nat.le_refl _) _).setCell (Nat.le_refl _) _).setCell (Nat.le_refl _) _) | exact unhide Stab _ (((BW1.setCell BW0.size _).setCell BW0.size _).setCell BW0.size _)))
      (first
        | (go_at_call 27; refine (unhide CB _).mono ?_; rintro e wx0 ⟨ab0, cb0, rfl, oo0, bb0⟩; have oo0 := (show Own _ _ (.slice ab0 1 cb0) ([1] : List Int) from oo0); have BW0 : Below H6.heap.size H6 wx0 := (unhide HB _ (by assumption)).trans (bb0.mono (unhide HB _ (by assumption)).size); (try (have E0_0 := EDb.drew bb0)))
        | (go_at_call 25; refine (unhide C2 _ _ _ ?_ ?_ ?_).mono ?_; exact ((S5.later (unhide HB _ (by assumption))).box (w1.heap.size, p, .slice aa l.length ca, l, s) (by simp)).2.2.2.1; (first | exact oo0.reads | exact oo0.reads.alloc _); exact (S5.later (unhide HB _ (by assumption))).below; rintro e wx1 ⟨ab1, cb1, rfl, oo1, bb1⟩; have BW1 : Below H6.heap.size H6 wx1 := (unhide HB _ (by assumption)).trans (bb1.mono (unhide HB _ (by assumption)).size); (try (have E1_0 := E0_0.later bb1; obtain ⟨e0, e1, e2, e3, e4, e5, e6⟩ := id E1_0)); (try (have E1_1 := EDb.alloc bb1; obtain ⟨e0, e1, e2, e3, e4, e5, e6⟩ := id E1_1))))
    all_goals
      go_wp2
      go_meet
      case rel => first
        | exact ⟨_, _, _, rfl, rfl, (S5.later BW1).add (p) _ (l) (s) oo1.reads⟩
        | exact ⟨_, _, _, rfl, rfl, S5.fill BW1 E1_0 (Nat.le_refl _) oo1 E0_0.lt _ _⟩
        | exact ⟨_, _, _, rfl, rfl, S5.fill BW1 E1_1 BW0.size oo1 (by simp) _ _⟩
  case rest =>
  obtain ⟨nOne, aOne, cOne, rfl, rfl, S6⟩ := hcut
  simp only [List.nil_append, List.cons_append] at S6
  generalize hwc : wc = w6 at *
  clear hwc S5 R5 Stab HB
  clear C2 CB
  obtain ⟨cA0, cA1, cA2, -, zA⟩ := S6.box (w1.heap.size, p, .slice aa l.length ca, l, s) (by simp)
  go_wp2_with fail
  refine (unhide C3 _ _ _ (S6.box (w1.heap.size, p, .slice aa l.length ca, l, s) (by simp)).2.2.2.1 (Own.nil 0 _).reads S6.below).mono ?_
  rintro e w7 ⟨a7, c7, rfl, o7, k7⟩
  simp only at o7 ⊢
  have R7 := S6.later k7
  have o7 := (show Own _ _ (.slice a7 0 c7) ([] : List Int) from o7)
  have S7 := R7.add (false) (.slice a7 0 c7) (([] : List Int)) (s) o7.reads
  simp only [List.nil_append, List.cons_append, World.size_alloc] at S7
  clear cA0 cA1 cA2 zA
  clear k7 o7 S6
  clear C3
  obtain ⟨cA0, cA1, cA2, -, zA⟩ := R7.box (w1.heap.size, p, .slice aa l.length ca, l, s) (by simp)
  obtain ⟨cB0, cB1, cB2, -, zB⟩ := R7.box (w1.heap.size + 1, q, .slice ab m.length cb, m, t) (by simp)
  by_cases h12 : 12 < s + t
  case pos =>
    have hd12 : decide (12 < s + t) = true := by simpa using h12
    rcases hon with rfl | rfl
    case inl =>
      have hos : (os == 12) = true := by rw [unhide HSC rfl, beq_iff_eq]; omega
      clear HSC
      obtain ⟨cU0, cU1, cU2, -, zU⟩ := R7.box (w5.heap.size, (og), .slice a5 (ol).length c5, (ol), (os)) (by simp)
      obtain ⟨cX0, cX1, cX2, -, zX⟩ := R7.box (w2.heap.size, (og), .slice a2 (ol).length c2, (ol), (os)) (by simp)
      go_wp2_with fail
      refine (jtDec_same _ (og) _ _ (ol) (os) (S7.box (w5.heap.size, (og), .slice a5 (ol).length c5, (ol), (os)) (by simp)).2.2.2.1 (S7.box (w2.heap.size, (og), .slice a2 (ol).length c2, (ol), (os)) (by simp)).2.2.2.1).mono ?_
      rintro e w8 ⟨rfl, k8⟩
      have S8 := S7.later k8
      clear cA0 cA1 cA2 zA
      clear cB0 cB1 cB2 zB
      clear cU0 cU1 cU2 zU
      clear cX0 cX1 cX2 zX
      clear k8 S7 R7
      obtain ⟨cOne0, cOne1, cOne2, -, zOne⟩ := S8.box (nOne, (p), .slice aOne (l).length cOne, (l), (s)) (by simp)
      obtain ⟨cA0, cA1, cA2, -, zA⟩ := S8.box (w1.heap.size, p, .slice aa l.length ca, l, s) (by simp)
      go_wp2_with fail
      refine (jtDec_same _ (p) _ _ (l) (s) (S8.box (nOne, (p), .slice aOne (l).length cOne, (l), (s)) (by simp)).2.2.2.1 (S8.box (w1.heap.size, p, .slice aa l.length ca, l, s) (by simp)).2.2.2.1).mono ?_
      rintro e w9 ⟨rfl, k9⟩
      have S9 := S8.later k9
      clear cOne0 cOne1 cOne2 zOne
      clear cA0 cA1 cA2 zA
      clear k9 S8
      obtain ⟨cNon0, cNon1, cNon2, -, zNon⟩ := S9.box (w7.heap.size, (false), .slice a7 0 c7, (([] : List Int)), (s)) (by simp)
      obtain ⟨cA0, cA1, cA2, -, zA⟩ := S9.box (w1.heap.size, p, .slice aa l.length ca, l, s) (by simp)
      go_wp2_with fail
      refine (jtDec_same _ false _ _ [] s (S9.box (w7.heap.size, (false), .slice a7 0 c7, (([] : List Int)), (s)) (by simp)).2.2.2.1 (Own.nil 0 _).reads).mono ?_
      rintro e w10 ⟨rfl, k10⟩
      have S10 := S9.later k10
      clear cNon0 cNon1 cNon2 zNon
      clear cA0 cA1 cA2 zA
      clear k10 S9
      obtain ⟨cX0, cX1, cX2, -, zX⟩ := S10.box (w2.heap.size, (og), .slice a2 (ol).length c2, (ol), (os)) (by simp)
      go_wp2
      go_ret
      exact ⟨rfl, S10.below⟩
    case inr =>
      clear HSC
      obtain ⟨cU0, cU1, cU2, -, zU⟩ := R7.box (w5.heap.size, (og), .slice a5 (ol).length c5, (ol), (os)) (by simp)
      obtain ⟨cX0, cX1, cX2, -, zX⟩ := R7.box (w2.heap.size, (og), .slice a2 (ol).length c2, (ol), (os)) (by simp)
      go_wp2_with fail
      refine (jtDec_same _ (og) _ _ (ol) (os) (S7.box (w5.heap.size, (og), .slice a5 (ol).length c5, (ol), (os)) (by simp)).2.2.2.1 (S7.box (w2.heap.size, (og), .slice a2 (ol).length c2, (ol), (os)) (by simp)).2.2.2.1).mono ?_
      rintro e w8 ⟨rfl, k8⟩
      have S8 := S7.later k8
      clear cA0 cA1 cA2 zA
      clear cB0 cB1 cB2 zB
      clear cU0 cU1 cU2 zU
      clear cX0 cX1 cX2 zX
      clear k8 S7 R7
      obtain ⟨cOne0, cOne1, cOne2, -, zOne⟩ := S8.box (nOne, (p), .slice aOne (l).length cOne, (l), (s)) (by simp)
      obtain ⟨cA0, cA1, cA2, -, zA⟩ := S8.box (w1.heap.size, p, .slice aa l.length ca, l, s) (by simp)
      go_wp2_with fail
      refine (jtDec_same _ (p) _ _ (l) (s) (S8.box (nOne, (p), .slice aOne (l).length cOne, (l), (s)) (by simp)).2.2.2.1 (S8.box (w1.heap.size, p, .slice aa l.length ca, l, s) (by simp)).2.2.2.1).mono ?_
      rintro e w9 ⟨rfl, k9⟩
      have S9 := S8.later k9
      clear cOne0 cOne1 cOne2 zOne
      clear cA0 cA1 cA2 zA
      clear k9 S8
      obtain ⟨cNon0, cNon1, cNon2, -, zNon⟩ := S9.box (w7.heap.size, (false), .slice a7 0 c7, (([] : List Int)), (s)) (by simp)
      obtain ⟨cA0, cA1, cA2, -, zA⟩ := S9.box (w1.heap.size, p, .slice aa l.length ca, l, s) (by simp)
      go_wp2_with fail
      refine (jtDec_same _ false _ _ [] s (S9.box (w7.heap.size, (false), .slice a7 0 c7, (([] : List Int)), (s)) (by simp)).2.2.2.1 (Own.nil 0 _).reads).mono ?_
      rintro e w10 ⟨rfl, k10⟩
      have S10 := S9.later k10
      clear cNon0 cNon1 cNon2 zNon
      clear cA0 cA1 cA2 zA
      clear k10 S9
      obtain ⟨cX0, cX1, cX2, -, zX⟩ := S10.box (w2.heap.size, (og), .slice a2 (ol).length c2, (ol), (os)) (by simp)
      go_wp2
      go_ret
      exact ⟨rfl, S10.below⟩
  case neg =>
    have hd12 : decide (12 < s + t) = false := by simpa using h12
    rcases hon with rfl | rfl
    case inl =>
      have hos : (os == s + t) = true := by rw [unhide HSC rfl, beq_iff_eq]; omega
      clear HSC
      obtain ⟨cU0, cU1, cU2, -, zU⟩ := R7.box (w5.heap.size, (og), .slice a5 (ol).length c5, (ol), (os)) (by simp)
      obtain ⟨cX0, cX1, cX2, -, zX⟩ := R7.box (w2.heap.size, (og), .slice a2 (ol).length c2, (ol), (os)) (by simp)
      go_wp2_with fail
      refine (jtDec_same _ (og) _ _ (ol) (os) (S7.box (w5.heap.size, (og), .slice a5 (ol).length c5, (ol), (os)) (by simp)).2.2.2.1 (S7.box (w2.heap.size, (og), .slice a2 (ol).length c2, (ol), (os)) (by simp)).2.2.2.1).mono ?_
      rintro e w8 ⟨rfl, k8⟩
      have S8 := S7.later k8
      clear cA0 cA1 cA2 zA
      clear cB0 cB1 cB2 zB
      clear cU0 cU1 cU2 zU
      clear cX0 cX1 cX2 zX
      clear k8 S7 R7
      obtain ⟨cOne0, cOne1, cOne2, -, zOne⟩ := S8.box (nOne, (p), .slice aOne (l).length cOne, (l), (s)) (by simp)
      obtain ⟨cA0, cA1, cA2, -, zA⟩ := S8.box (w1.heap.size, p, .slice aa l.length ca, l, s) (by simp)
      go_wp2_with fail
      refine (jtDec_same _ (p) _ _ (l) (s) (S8.box (nOne, (p), .slice aOne (l).length cOne, (l), (s)) (by simp)).2.2.2.1 (S8.box (w1.heap.size, p, .slice aa l.length ca, l, s) (by simp)).2.2.2.1).mono ?_
      rintro e w9 ⟨rfl, k9⟩
      have S9 := S8.later k9
      clear cOne0 cOne1 cOne2 zOne
      clear cA0 cA1 cA2 zA
      clear k9 S8
      obtain ⟨cNon0, cNon1, cNon2, -, zNon⟩ := S9.box (w7.heap.size, (false), .slice a7 0 c7, (([] : List Int)), (s)) (by simp)
      obtain ⟨cA0, cA1, cA2, -, zA⟩ := S9.box (w1.heap.size, p, .slice aa l.length ca, l, s) (by simp)
      go_wp2_with fail
      refine (jtDec_same _ false _ _ [] s (S9.box (w7.heap.size, (false), .slice a7 0 c7, (([] : List Int)), (s)) (by simp)).2.2.2.1 (Own.nil 0 _).reads).mono ?_
      rintro e w10 ⟨rfl, k10⟩
      have S10 := S9.later k10
      clear cNon0 cNon1 cNon2 zNon
      clear cA0 cA1 cA2 zA
      clear k10 S9
      obtain ⟨cX0, cX1, cX2, -, zX⟩ := S10.box (w2.heap.size, (og), .slice a2 (ol).length c2, (ol), (os)) (by simp)
      go_wp2
      go_ret
      exact ⟨rfl, S10.below⟩
    case inr =>
      clear HSC
      obtain ⟨cU0, cU1, cU2, -, zU⟩ := R7.box (w5.heap.size, (og), .slice a5 (ol).length c5, (ol), (os)) (by simp)
      obtain ⟨cX0, cX1, cX2, -, zX⟩ := R7.box (w2.heap.size, (og), .slice a2 (ol).length c2, (ol), (os)) (by simp)
      go_wp2_with fail
      refine (jtDec_same _ (og) _ _ (ol) (os) (S7.box (w5.heap.size, (og), .slice a5 (ol).length c5, (ol), (os)) (by simp)).2.2.2.1 (S7.box (w2.heap.size, (og), .slice a2 (ol).length c2, (ol), (os)) (by simp)).2.2.2.1).mono ?_
      rintro e w8 ⟨rfl, k8⟩
      have S8 := S7.later k8
      clear cA0 cA1 cA2 zA
      clear cB0 cB1 cB2 zB
      clear cU0 cU1 cU2 zU
      clear cX0 cX1 cX2 zX
      clear k8 S7 R7
      obtain ⟨cOne0, cOne1, cOne2, -, zOne⟩ := S8.box (nOne, (p), .slice aOne (l).length cOne, (l), (s)) (by simp)
      obtain ⟨cA0, cA1, cA2, -, zA⟩ := S8.box (w1.heap.size, p, .slice aa l.length ca, l, s) (by simp)
      go_wp2_with fail
      refine (jtDec_same _ (p) _ _ (l) (s) (S8.box (nOne, (p), .slice aOne (l).length cOne, (l), (s)) (by simp)).2.2.2.1 (S8.box (w1.heap.size, p, .slice aa l.length ca, l, s) (by simp)).2.2.2.1).mono ?_
      rintro e w9 ⟨rfl, k9⟩
      have S9 := S8.later k9
      clear cOne0 cOne1 cOne2 zOne
      clear cA0 cA1 cA2 zA
      clear k9 S8
      obtain ⟨cNon0, cNon1, cNon2, -, zNon⟩ := S9.box (w7.heap.size, (false), .slice a7 0 c7, (([] : List Int)), (s)) (by simp)
      obtain ⟨cA0, cA1, cA2, -, zA⟩ := S9.box (w1.heap.size, p, .slice aa l.length ca, l, s) (by simp)
      go_wp2_with fail
      refine (jtDec_same _ false _ _ [] s (S9.box (w7.heap.size, (false), .slice a7 0 c7, (([] : List Int)), (s)) (by simp)).2.2.2.1 (Own.nil 0 _).reads).mono ?_
      rintro e w10 ⟨rfl, k10⟩
      have S10 := S9.later k10
      clear cNon0 cNon1 cNon2 zNon
      clear cA0 cA1 cA2 zA
      clear k10 S9
      obtain ⟨cX0, cX1, cX2, -, zX⟩ := S10.box (w2.heap.size, (og), .slice a2 (ol).length c2, (ol), (os)) (by simp)
      go_wp2
      go_ret
      exact ⟨rfl, S10.below⟩

end Go.Proofs.YthnkmjkgcnhlfaaGreatDoor
