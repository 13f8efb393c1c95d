/- The law FnDecSub: its walk. -/
import Derived.Test.YthnkmjkgcnhlfaaGreatDoorNumJ
import Derived.Test.YthnkmjkgcnhlfaaGreatDoorDrDs
import Derived.Test.YthnkmjkgcnhlfaaGreatDoorH08
import Derived.Test.YthnkmjkgcnhlfaaGreatDoorJtT
import Derived.Test.YthnkmjkgcnhlfaaGreatDoorByt1
import Derived.Test.YthnkmjkgcnhlfaaGreatDoorK02
import Derived.Deep.RegionHeld3
namespace Go.Proofs.YthnkmjkgcnhlfaaGreatDoor
open Go.RowKit
set_option linter.unusedSimpArgs false
set_option maxRecDepth 100000


set_option maxHeartbeats 4000000 in
theorem xDecSubP_walk (w : World) (u : Value) (hu : Byt w u) (tt : Tab w) (hd : Hd w) :
    Calls Tryz.prog 4 #[u] w fun e w' => e = .returned (.bool true) ∧ Below w.heap.size w w' := by
  have C0 := hide (drawDecSub_any w u hu)
  obtain ⟨ao, N, cap, rfl, hn⟩ := byt_len hu
  clear hu
  by_cases hl : (1048576 : Int) < N
  · have t0 : decide ((1048576 : Int) < N) = true := by simpa using hl
    go_enter Tryz.func4, Tryz.ntmps4
    go_wp2
    go_ret
    exact ⟨rfl, Below.refl _ _⟩
  have t0 : decide ((1048576 : Int) < N) = false := by simpa using hl
  go_enter Tryz.func4, Tryz.ntmps4
  go_wp2_with fail
  refine (unhide C0).mono ?_
  rintro e w1 ⟨p, q, l, m, s, t, aa, ca, ab, cb, rfl, oa, ob, b1⟩
  have S1 := ((DS.start b1).add p (.slice aa l.length ca) l s oa.reads).add q (.slice ab m.length cb) m t (ob.reads.alloc _)
  simp only [List.nil_append, List.cons_append, World.size_alloc] at S1
  clear C0 b1 oa ob
  obtain ⟨og, ol, os, on, hO⟩ : ∃ og ol os on, dsubR p l s q m t = (og, ol, os, on) := ⟨_, _, _, _, rfl⟩
  have CI := hide (fun W u v (hu : Reads W u l) (hv : Reads W v m) (k : Below w.heap.size w W) => implDecSub_any W p q u v l m s t hu hv (tt.later k) (hd.later k))
  have CS := hide (fun W u v (hu : Reads W u l) (hv : Reads W v m) => specDecSub_any W p q u v l m s t hu hv)
  rw [hO] at CI CS
  have HO := hide (show on ≠ 1 → _ from fun h => sub_law hO h)
  clear hO
  go_wp2_with fail
  refine (unhide CI _ _ _ (S1.box (w1.heap.size, p, .slice aa l.length ca, l, s) (by simp)).2.2.2.1 (S1.box (w1.heap.size + 1, q, .slice ab m.length cb, m, t) (by simp)).2.2.2.1 S1.below).mono ?_
  rintro e w2 ⟨a2, c2, rfl, o2, k2⟩
  simp only at o2 ⊢
  have R2 := S1.later k2
  have S2 := R2.add (og) (.slice a2 (ol).length c2) (ol) (os) o2.reads
  simp only [List.nil_append, List.cons_append, World.size_alloc] at S2
  clear k2 o2 S1
  obtain ⟨cA0, cA1, cA2, -, zA⟩ := R2.box (w1.heap.size, p, .slice aa l.length ca, l, s) (by simp)
  obtain ⟨cB0, cB1, cB2, -, zB⟩ := R2.box (w1.heap.size + 1, q, .slice ab m.length cb, m, t) (by simp)
  go_wp2_with fail
  refine (unhide CS _ _ _ (S2.box (w1.heap.size, p, .slice aa l.length ca, l, s) (by simp)).2.2.2.1 (S2.box (w1.heap.size + 1, q, .slice ab m.length cb, m, t) (by simp)).2.2.2.1).mono ?_
  rintro e w3 ⟨a3, c3, rfl, o3, k3⟩
  simp only at o3 ⊢
  have R3 := S2.later k3
  have S3 := R3.add (og) (.slice a3 (ol).length c3) (ol) (os) o3.reads
  simp only [List.nil_append, List.cons_append, World.size_alloc] at S3
  clear cA0 cA1 cA2 zA
  clear cB0 cB1 cB2 zB
  clear k3 o3 S2 R2
  have hnn : (on != on) = false := by simp
  have hnn2 : (on == on) = true := by simp
  clear CI CS
  obtain ⟨cX0, cX1, cX2, -, zX⟩ := R3.box (w2.heap.size, (og), .slice a2 (ol).length c2, (ol), (os)) (by simp)
  go_wp2_with fail
  refine (jtDec_same _ (og) _ _ (ol) (os) (S3.box (w2.heap.size, (og), .slice a2 (ol).length c2, (ol), (os)) (by simp)).2.2.2.1 (S3.box (w3.heap.size, (og), .slice a3 (ol).length c3, (ol), (os)) (by simp)).2.2.2.1).mono ?_
  rintro e w4 ⟨rfl, k4⟩
  have S4 := S3.later k4
  clear cX0 cX1 cX2 zX
  clear k4 S3 R3
  by_cases h0 : on = 1
  case pos =>
    have hn0 : (on == 1) = true := by simpa using h0
    clear h0 HO
    obtain ⟨cX0, cX1, cX2, -, zX⟩ := S4.box (w2.heap.size, (og), .slice a2 (ol).length c2, (ol), (os)) (by simp)
    obtain ⟨cY0, cY1, cY2, -, zY⟩ := S4.box (w3.heap.size, (og), .slice a3 (ol).length c3, (ol), (os)) (by simp)
    go_wp2_with fail
    refine (jtDec_same _ (og) _ _ (ol) (os) (S4.box (w2.heap.size, (og), .slice a2 (ol).length c2, (ol), (os)) (by simp)).2.2.2.1 (S4.box (w3.heap.size, (og), .slice a3 (ol).length c3, (ol), (os)) (by simp)).2.2.2.1).mono ?_
    rintro e w5 ⟨rfl, k5⟩
    have S5 := S4.later k5
    clear cX0 cX1 cX2 zX
    clear cY0 cY1 cY2 zY
    clear k5 S4
    go_wp2
    go_ret
    exact ⟨rfl, S5.below⟩
  have hn0 : (on == 1) = false := by simpa using h0
  obtain ⟨hon, hself, yg, yl, ys, hrev, hy⟩ := unhide HO h0
  have C1 := hide (fun W u v (hu : Reads W u m) (hv : Reads W v l) (k : Below w.heap.size w W) => implDecSub_any W q p u v m l t s hu hv (tt.later k) (hd.later k))
  rw [hrev] at C1
  have C2 := hide (fun W u v (hu : Reads W u l) (hv : Reads W v l) (k : Below w.heap.size w W) => implDecSub_any W p p u v l l s s hu hv (tt.later k) (hd.later k))
  rw [hself] at C2
  have CT := hide (fun W u (hu : Reads W u ol) => jtTurn_any W og u ol os hu)
  clear HO hself hrev h0
  obtain ⟨cB0, cB1, cB2, -, zB⟩ := S4.box (w1.heap.size + 1, q, .slice ab m.length cb, m, t) (by simp)
  obtain ⟨cA0, cA1, cA2, -, zA⟩ := S4.box (w1.heap.size, p, .slice aa l.length ca, l, s) (by simp)
  go_wp2_with fail
  refine (unhide C1 _ _ _ (S4.box (w1.heap.size + 1, q, .slice ab m.length cb, m, t) (by simp)).2.2.2.1 (S4.box (w1.heap.size, p, .slice aa l.length ca, l, s) (by simp)).2.2.2.1 S4.below).mono ?_
  rintro e w5 ⟨a5, c5, rfl, o5, k5⟩
  simp only at o5 ⊢
  have R5 := S4.later k5
  have S5 := R5.add (yg) (.slice a5 (yl).length c5) (yl) (ys) o5.reads
  simp only [List.nil_append, List.cons_append, World.size_alloc] at S5
  clear cB0 cB1 cB2 zB
  clear cA0 cA1 cA2 zA
  clear k5 o5 S4
  obtain ⟨cA0, cA1, cA2, -, zA⟩ := R5.box (w1.heap.size, p, .slice aa l.length ca, l, s) (by simp)
  go_wp2_with fail
  refine (unhide C2 _ _ _ (S5.box (w1.heap.size, p, .slice aa l.length ca, l, s) (by simp)).2.2.2.1 (S5.box (w1.heap.size, p, .slice aa l.length ca, l, s) (by simp)).2.2.2.1 S5.below).mono ?_
  rintro e w6 ⟨a6, c6, rfl, o6, k6⟩
  simp only at o6 ⊢
  have R6 := S5.later k6
  have o6 := (show Own _ _ (.slice a6 0 c6) ([] : List Int) from o6)
  have S6 := R6.add (false) (.slice a6 0 c6) (([] : List Int)) (s) o6.reads
  simp only [List.nil_append, List.cons_append, World.size_alloc] at S6
  clear cA0 cA1 cA2 zA
  clear k6 o6 S5 R5
  rcases hon with rfl | h3
  case inl =>
    obtain ⟨rfl, e2, e3⟩ := hy rfl
    obtain rfl := e2.symm
    obtain rfl := e3.symm
    clear hy e2 e3
    generalize hG : (!og && decide (0 < ol.length)) = ng at *
    clear hG
    obtain ⟨cA0, cA1, cA2, -, zA⟩ := R6.box (w1.heap.size, p, .slice aa l.length ca, l, s) (by simp)
    obtain ⟨cX0, cX1, cX2, -, zX⟩ := R6.box (w2.heap.size, (og), .slice a2 (ol).length c2, (ol), (os)) (by simp)
    obtain ⟨cU0, cU1, cU2, -, zU⟩ := R6.box (w5.heap.size, ng, .slice a5 (ol).length c5, (ol), (os)) (by simp)
    go_wp2_with fail
    generalize hW7 : w6.alloc (.cells #[.bool _, _, .int .i64 _] 27) = H7 at *
    clear hW7
    clear cA0 cA1 cA2 zA
    clear cX0 cX1 cX2 zX
    clear cU0 cU1 cU2 zU
    have stab7 : ∀ w' : World, Below H7.heap.size H7 w' → (w'.cell? ⟨w1.heap.size, 0, none⟩ = some (.bool p) ∧ w'.cell? ⟨w1.heap.size, 1, none⟩ = some (.slice aa l.length ca) ∧ w'.cell? ⟨w1.heap.size, 2, none⟩ = some (.int .i64 s) ∧ w'.cell? ⟨w2.heap.size, 0, none⟩ = some (.bool (og)) ∧ w'.cell? ⟨w2.heap.size, 1, none⟩ = some (.slice a2 (ol).length c2) ∧ w'.cell? ⟨w2.heap.size, 2, none⟩ = some (.int .i64 (os)) ∧ w'.cell? ⟨w5.heap.size, 0, none⟩ = some (.bool ng) ∧ w'.cell? ⟨w5.heap.size, 1, none⟩ = some (.slice a5 (ol).length c5) ∧ w'.cell? ⟨w5.heap.size, 2, none⟩ = some (.int .i64 (os)) ∧ w'.cell? ⟨w6.heap.size, 0, none⟩ = some (.bool (false)) ∧ w'.cell? ⟨w6.heap.size, 1, none⟩ = some (.slice a6 0 c6) ∧ w'.cell? ⟨w6.heap.size, 2, none⟩ = some (.int .i64 (s))) := fun w' h => ⟨((S6.later h).box (w1.heap.size, p, .slice aa l.length ca, l, s) (by simp)).1, ((S6.later h).box (w1.heap.size, p, .slice aa l.length ca, l, s) (by simp)).2.1, ((S6.later h).box (w1.heap.size, p, .slice aa l.length ca, l, s) (by simp)).2.2.1, ((S6.later h).box (w2.heap.size, (og), .slice a2 (ol).length c2, (ol), (os)) (by simp)).1, ((S6.later h).box (w2.heap.size, (og), .slice a2 (ol).length c2, (ol), (os)) (by simp)).2.1, ((S6.later h).box (w2.heap.size, (og), .slice a2 (ol).length c2, (ol), (os)) (by simp)).2.2.1, ((S6.later h).box (w5.heap.size, ng, .slice a5 (ol).length c5, (ol), (os)) (by simp)).1, ((S6.later h).box (w5.heap.size, ng, .slice a5 (ol).length c5, (ol), (os)) (by simp)).2.1, ((S6.later h).box (w5.heap.size, ng, .slice a5 (ol).length c5, (ol), (os)) (by simp)).2.2.1, ((S6.later h).box (w6.heap.size, (false), .slice a6 0 c6, (([] : List Int)), (s)) (by simp)).1, ((S6.later h).box (w6.heap.size, (false), .slice a6 0 c6, (([] : List Int)), (s)) (by simp)).2.1, ((S6.later h).box (w6.heap.size, (false), .slice a6 0 c6, (([] : List Int)), (s)) (by simp)).2.2.1⟩
    have Stab7 := hide stab7
    have HS7 := hide S6
    clear stab7
    first
      | (go_region_held3 (fun w' => w'.cell? ⟨w1.heap.size, 0, none⟩ = some (.bool p) ∧ w'.cell? ⟨w1.heap.size, 1, none⟩ = some (.slice aa l.length ca) ∧ w'.cell? ⟨w1.heap.size, 2, none⟩ = some (.int .i64 s) ∧ w'.cell? ⟨w2.heap.size, 0, none⟩ = some (.bool (og)) ∧ w'.cell? ⟨w2.heap.size, 1, none⟩ = some (.slice a2 (ol).length c2) ∧ w'.cell? ⟨w2.heap.size, 2, none⟩ = some (.int .i64 (os)) ∧ w'.cell? ⟨w5.heap.size, 0, none⟩ = some (.bool ng) ∧ w'.cell? ⟨w5.heap.size, 1, none⟩ = some (.slice a5 (ol).length c5) ∧ w'.cell? ⟨w5.heap.size, 2, none⟩ = some (.int .i64 (os)) ∧ w'.cell? ⟨w6.heap.size, 0, none⟩ = some (.bool (false)) ∧ w'.cell? ⟨w6.heap.size, 1, none⟩ = some (.slice a6 0 c6) ∧ w'.cell? ⟨w6.heap.size, 2, none⟩ = some (.int .i64 (s)))
      ((with_reducible refine unhide Stab7 _ ?_; (first | with_reducible assumption | with_reducible exact (Below.refl H7.heap.size H7).drew)))
      (first
        | (go_at_call 23; refine (unhide CT _ _ ?_).mono ?_; exact (((unhide HS7).later (Below.refl H7.heap.size H7).drew).box (w2.heap.size, (og), .slice a2 (ol).length c2, (ol), (os)) (by simp)).2.2.2.1; rintro e wx7_0 ⟨rfl, bb7_0⟩; have BX7_0 := ((Below.refl H7.heap.size H7).drew).trans (bb7_0.mono ((Below.refl H7.heap.size H7).drew).size))
        | (go_at_call 17; with_reducible refine (jtDec_same _ ng _ _ ol os ?_ ?_).mono ?_; exact (((unhide HS7).later BX7_0).box (w5.heap.size, ng, .slice a5 (ol).length c5, (ol), (os)) (by simp)).2.2.2.1; exact (((unhide HS7).later BX7_0).box (w2.heap.size, (og), .slice a2 (ol).length c2, (ol), (os)) (by simp)).2.2.2.1; rintro e wx7_1 ⟨rfl, bb7_1⟩; have BX7_1 := (BX7_0).trans (bb7_1.mono (BX7_0).size))
        | (go_at_call 17; with_reducible refine (jtDec_same _ false _ _ [] s ?_ ?_).mono ?_; exact (((unhide HS7).later BX7_1).box (w6.heap.size, (false), .slice a6 0 c6, (([] : List Int)), (s)) (by simp)).2.2.2.1; exact (Own.nil 0 _).reads; rintro e wx7_2 ⟨rfl, bb7_2⟩; have BX7_2 := (BX7_1).trans (bb7_2.mono (BX7_1).size))))
      | fail "held"
    have S7 := (unhide HS7).later BX7_2
    go_wp2
    go_ret
    exact ⟨rfl, S7.below⟩
  case inr =>
    have h30 : (on != 0) = true := by rw [h3]; rfl
    have h31 : (on == 0) = false := by rw [h3]; rfl
    clear hy h3
    obtain ⟨cA0, cA1, cA2, -, zA⟩ := R6.box (w1.heap.size, p, .slice aa l.length ca, l, s) (by simp)
    go_wp2_with fail
    generalize hW7 : w6.alloc (.cells #[.bool _, _, .int .i64 _] 27) = H7 at *
    clear hW7
    clear cA0 cA1 cA2 zA
    have stab : ∀ w' : World, Below H7.heap.size H7 w' → (w'.cell? ⟨w6.heap.size, 0, none⟩ = some (.bool (false)) ∧ w'.cell? ⟨w6.heap.size, 1, none⟩ = some (.slice a6 0 c6) ∧ w'.cell? ⟨w6.heap.size, 2, none⟩ = some (.int .i64 (s)) ∧ w'.cell? ⟨w1.heap.size, 0, none⟩ = some (.bool p) ∧ w'.cell? ⟨w1.heap.size, 1, none⟩ = some (.slice aa l.length ca) ∧ w'.cell? ⟨w1.heap.size, 2, none⟩ = some (.int .i64 s)) := fun w' h => ⟨((S6.later h).box (w6.heap.size, (false), .slice a6 0 c6, (([] : List Int)), (s)) (by simp)).1, ((S6.later h).box (w6.heap.size, (false), .slice a6 0 c6, (([] : List Int)), (s)) (by simp)).2.1, ((S6.later h).box (w6.heap.size, (false), .slice a6 0 c6, (([] : List Int)), (s)) (by simp)).2.2.1, ((S6.later h).box (w1.heap.size, p, .slice aa l.length ca, l, s) (by simp)).1, ((S6.later h).box (w1.heap.size, p, .slice aa l.length ca, l, s) (by simp)).2.1, ((S6.later h).box (w1.heap.size, p, .slice aa l.length ca, l, s) (by simp)).2.2.1⟩
    have Stab := hide stab
    clear stab
    have BX0 : Below H7.heap.size H7 H7.drew := (Below.refl _ _).drew
    refine wp_region_held_drew (S := fun w' => (w'.cell? ⟨w6.heap.size, 0, none⟩ = some (.bool (false)) ∧ w'.cell? ⟨w6.heap.size, 1, none⟩ = some (.slice a6 0 c6) ∧ w'.cell? ⟨w6.heap.size, 2, none⟩ = some (.int .i64 (s)) ∧ w'.cell? ⟨w1.heap.size, 0, none⟩ = some (.bool p) ∧ w'.cell? ⟨w1.heap.size, 1, none⟩ = some (.slice aa l.length ca) ∧ w'.cell? ⟨w1.heap.size, 2, none⟩ = some (.int .i64 s))) (by kernel_rfl) (unhide Stab _ BX0) (fun hHeld => ?_)
    refine wpAnyH_take (i := 0) (oi := { dst := some 66, op := Op.move (Operand.tmp 10), type := 3, pos := "laws.go:260", after := #[], guard := none }) (v := ?v0) rfl (by kernel_rfl) (by kernel_rfl) (by kernel_rfl) (fun _ _ _ h => h) (Or.inl ⟨by rfl, ?hy0⟩) hHeld ?rest0
    case hy0 => (intro wq hSw; (try dsimp only at hSw); go_simp; first | done | with_reducible rfl)
    try simp only [Act.put, List.setIfInBounds_toArray, List.set_cons_zero, List.set_cons_succ]
    refine wpAnyH_take (i := 1) (oi := { dst := some 67, op := Op.move (Operand.tmp 6), type := 3, pos := "laws.go:260", after := #[], guard := none }) (v := ?v1) rfl (by kernel_rfl) (by kernel_rfl) (by kernel_rfl) (fun _ _ _ h => h) (Or.inl ⟨by rfl, ?hy1⟩) hHeld ?rest1
    case hy1 => (intro wq hSw; (try dsimp only at hSw); go_simp; first | done | with_reducible rfl)
    try simp only [Act.put, List.setIfInBounds_toArray, List.set_cons_zero, List.set_cons_succ]
    refine wpAnyH_take (i := 2) (oi := { dst := some 68, op := Op.binOp BinOp.eql 3 (Operand.tmp 66) (Operand.tmp 67) 3, type := 4, pos := "laws.go:260", after := #[{ on := 0, ground := Ground.data }, { on := 1, ground := Ground.data }], guard := none }) (v := ?v2) rfl (by kernel_rfl) (by kernel_rfl) (by kernel_rfl) (fun _ _ _ h => h) (Or.inl ⟨by rfl, ?hy2⟩) hHeld ?rest2
    case hy2 => (intro wq hSw; (try dsimp only at hSw); go_simp; first | done | with_reducible rfl)
    try simp only [Act.put, List.setIfInBounds_toArray, List.set_cons_zero, List.set_cons_succ]
    refine wpAnyH_take (i := 3) (oi := { dst := some 69, op := Op.move (Operand.tmp 68), type := 4, pos := "laws.go:260", after := #[{ on := 2, ground := Ground.data }], guard := none }) (v := ?v3) rfl (by kernel_rfl) (by kernel_rfl) (by kernel_rfl) (fun _ _ _ h => h) (Or.inl ⟨by rfl, ?hy3⟩) hHeld ?rest3
    case hy3 => (intro wq hSw; (try dsimp only at hSw); go_simp; first | done | with_reducible rfl)
    try simp only [Act.put, List.setIfInBounds_toArray, List.set_cons_zero, List.set_cons_succ]
    refine wpAnyH_take (i := 4) (oi := { dst := some 70, op := Op.move (Operand.tmp 6), type := 3, pos := "laws.go:260", after := #[{ on := 3, ground := Ground.guard }], guard := some (3, true) }) (v := ?v4) rfl (by kernel_rfl) (by kernel_rfl) (by kernel_rfl) (fun _ _ _ h => h) (Or.inl ⟨by rfl, ?hy4⟩) hHeld ?rest4
    case hy4 => (intro wq hSw; (try dsimp only at hSw); go_simp; first | done | with_reducible rfl)
    try simp only [Act.put, List.setIfInBounds_toArray, List.set_cons_zero, List.set_cons_succ]
    refine wpAnyH_take (i := 5) (oi := { dst := some 71, op := Op.binOp BinOp.neq 3 (Operand.tmp 70) (Operand.const (Value.int IntKind.i64 0)) 3, type := 4, pos := "laws.go:260", after := #[{ on := 4, ground := Ground.data }, { on := 3, ground := Ground.guard }], guard := some (3, true) }) (v := ?v5) rfl (by kernel_rfl) (by kernel_rfl) (by kernel_rfl) (fun _ _ _ h => h) (Or.inl ⟨by rfl, ?hy5⟩) hHeld ?rest5
    case hy5 => (intro wq hSw; (try dsimp only at hSw); go_simp; first | done | with_reducible rfl)
    try simp only [Act.put, List.setIfInBounds_toArray, List.set_cons_zero, List.set_cons_succ]
    refine wpAnyH_take (i := 6) (oi := { dst := some 72, op := Op.move (Operand.tmp 71), type := 4, pos := "laws.go:260", after := #[{ on := 5, ground := Ground.data }, { on := 3, ground := Ground.chain }, { on := 3, ground := Ground.guard }], guard := some (3, true) }) (v := ?v6) rfl (by kernel_rfl) (by kernel_rfl) (by kernel_rfl) (fun _ _ _ h => h) (Or.inl ⟨by rfl, ?hy6⟩) hHeld ?rest6
    case hy6 => (intro wq hSw; (try dsimp only at hSw); go_simp; first | done | with_reducible rfl)
    try simp only [Act.put, List.setIfInBounds_toArray, List.set_cons_zero, List.set_cons_succ]
    refine wpAnyH_take (i := 7) (oi := { dst := some 73, op := Op.load 27 (Operand.tmp 9), type := 27, pos := "laws.go:260", after := #[{ on := 6, ground := Ground.guard }], guard := some (6, false) }) (v := undef) rfl (by kernel_rfl) (by kernel_rfl) (by kernel_rfl) (fun _ _ _ h => h) (Or.inr ⟨by rfl, rfl⟩) hHeld ?rest7
    try simp only [Act.put, List.setIfInBounds_toArray, List.set_cons_zero, List.set_cons_succ]
    refine wpAnyH_take (i := 8) (oi := { dst := some 74, op := Op.load 27 (Operand.tmp 5), type := 27, pos := "laws.go:260", after := #[{ on := 6, ground := Ground.guard }], guard := some (6, false) }) (v := undef) rfl (by kernel_rfl) (by kernel_rfl) (by kernel_rfl) (fun _ _ _ h => h) (Or.inr ⟨by rfl, rfl⟩) hHeld ?rest8
    try simp only [Act.put, List.setIfInBounds_toArray, List.set_cons_zero, List.set_cons_succ]
    refine wpAnyH_take (i := 9) (oi := { dst := some 75, op := Op.call { callee := Callee.value (Operand.func 23), args := #[Operand.tmp 74], argTypes := #[27] }, type := 27, pos := "laws.go:260", after := #[{ on := 8, ground := Ground.data }, { on := 6, ground := Ground.chain }, { on := 6, ground := Ground.guard }], guard := some (6, false) }) (v := undef) rfl (by kernel_rfl) (by kernel_rfl) (by kernel_rfl) (fun _ _ _ h => h) (Or.inr ⟨by rfl, rfl⟩) hHeld ?rest9
    try simp only [Act.put, List.setIfInBounds_toArray, List.set_cons_zero, List.set_cons_succ]
    refine wpAnyH_take (i := 10) (oi := { dst := some 76, op := Op.call { callee := Callee.value (Operand.func 17), args := #[Operand.tmp 73, Operand.tmp 75], argTypes := #[27, 27] }, type := 4, pos := "laws.go:260", after := #[{ on := 7, ground := Ground.data }, { on := 9, ground := Ground.data }, { on := 9, ground := Ground.chain }, { on := 6, ground := Ground.guard }], guard := some (6, false) }) (v := undef) rfl (by kernel_rfl) (by kernel_rfl) (by kernel_rfl) (fun _ _ _ h => h) (Or.inr ⟨by rfl, rfl⟩) hHeld ?rest10
    try simp only [Act.put, List.setIfInBounds_toArray, List.set_cons_zero, List.set_cons_succ]
    refine wpAnyH_take (i := 11) (oi := { dst := some 77, op := Op.pick (Operand.tmp 72) (Operand.const (Value.bool true)) (Operand.tmp 76), type := 4, pos := "laws.go:260", after := #[{ on := 6, ground := Ground.data }, { on := 10, ground := Ground.data }, { on := 3, ground := Ground.guard }], guard := some (3, true) }) (v := ?v11) rfl (by kernel_rfl) (by kernel_rfl) (by kernel_rfl) (fun _ _ _ h => h) (Or.inl ⟨by rfl, ?hy11⟩) hHeld ?rest11
    case hy11 => (intro wq hSw; (try dsimp only at hSw); go_simp; first | done | with_reducible rfl)
    try simp only [Act.put, List.setIfInBounds_toArray, List.set_cons_zero, List.set_cons_succ]
    refine wpAnyH_take (i := 12) (oi := { dst := some 78, op := Op.pick (Operand.tmp 69) (Operand.tmp 77) (Operand.const (Value.bool false)), type := 4, pos := "laws.go:260", after := #[{ on := 3, ground := Ground.data }, { on := 11, ground := Ground.data }], guard := none }) (v := ?v12) rfl (by kernel_rfl) (by kernel_rfl) (by kernel_rfl) (fun _ _ _ h => h) (Or.inl ⟨by rfl, ?hy12⟩) hHeld ?rest12
    case hy12 => (intro wq hSw; (try dsimp only at hSw); go_simp; first | done | with_reducible rfl)
    try simp only [Act.put, List.setIfInBounds_toArray, List.set_cons_zero, List.set_cons_succ]
    refine wpAnyH_take (i := 13) (oi := { dst := some 79, op := Op.move (Operand.tmp 78), type := 4, pos := "laws.go:260", after := #[{ on := 12, ground := Ground.data }, { on := 10, ground := Ground.chain }], guard := none }) (v := ?v13) rfl (by kernel_rfl) (by kernel_rfl) (by kernel_rfl) (fun _ _ _ h => h) (Or.inl ⟨by rfl, ?hy13⟩) hHeld ?rest13
    case hy13 => (intro wq hSw; (try dsimp only at hSw); go_simp; first | done | with_reducible rfl)
    try simp only [Act.put, List.setIfInBounds_toArray, List.set_cons_zero, List.set_cons_succ]
    refine wpAnyH_take (i := 14) (oi := { dst := some 80, op := Op.move (Operand.tmp 12), type := 3, pos := "laws.go:260", after := #[{ on := 13, ground := Ground.guard }], guard := some (13, true) }) (v := ?v14) rfl (by kernel_rfl) (by kernel_rfl) (by kernel_rfl) (fun _ _ _ h => h) (Or.inl ⟨by rfl, ?hy14⟩) hHeld ?rest14
    case hy14 => (intro wq hSw; (try dsimp only at hSw); go_simp; first | done | with_reducible rfl)
    try simp only [Act.put, List.setIfInBounds_toArray, List.set_cons_zero, List.set_cons_succ]
    refine wpAnyH_take (i := 15) (oi := { dst := some 81, op := Op.binOp BinOp.eql 3 (Operand.tmp 80) (Operand.const (Value.int IntKind.i64 0)) 3, type := 4, pos := "laws.go:260", after := #[{ on := 14, ground := Ground.data }, { on := 13, ground := Ground.guard }], guard := some (13, true) }) (v := ?v15) rfl (by kernel_rfl) (by kernel_rfl) (by kernel_rfl) (fun _ _ _ h => h) (Or.inl ⟨by rfl, ?hy15⟩) hHeld ?rest15
    case hy15 => (intro wq hSw; (try dsimp only at hSw); go_simp; first | done | with_reducible rfl)
    try simp only [Act.put, List.setIfInBounds_toArray, List.set_cons_zero, List.set_cons_succ]
    refine wpAnyH_take (i := 16) (oi := { dst := some 82, op := Op.pick (Operand.tmp 79) (Operand.tmp 81) (Operand.const (Value.bool false)), type := 4, pos := "laws.go:260", after := #[{ on := 13, ground := Ground.data }, { on := 15, ground := Ground.data }], guard := none }) (v := ?v16) rfl (by kernel_rfl) (by kernel_rfl) (by kernel_rfl) (fun _ _ _ h => h) (Or.inl ⟨by rfl, ?hy16⟩) hHeld ?rest16
    case hy16 => (intro wq hSw; (try dsimp only at hSw); go_simp; first | done | with_reducible rfl)
    try simp only [Act.put, List.setIfInBounds_toArray, List.set_cons_zero, List.set_cons_succ]
    refine wpAnyH_take (i := 17) (oi := { dst := some 83, op := Op.move (Operand.tmp 82), type := 4, pos := "laws.go:260", after := #[{ on := 16, ground := Ground.data }, { on := 13, ground := Ground.chain }], guard := none }) (v := ?v17) rfl (by kernel_rfl) (by kernel_rfl) (by kernel_rfl) (fun _ _ _ h => h) (Or.inl ⟨by rfl, ?hy17⟩) hHeld ?rest17
    case hy17 => (intro wq hSw; (try dsimp only at hSw); go_simp; first | done | with_reducible rfl)
    try simp only [Act.put, List.setIfInBounds_toArray, List.set_cons_zero, List.set_cons_succ]
    refine wpAnyH_take (i := 18) (oi := { dst := some 84, op := Op.load 27 (Operand.tmp 11), type := 27, pos := "laws.go:260", after := #[{ on := 17, ground := Ground.guard }], guard := some (17, true) }) (v := ?v18) rfl (by kernel_rfl) (by kernel_rfl) (by kernel_rfl) (fun _ _ _ h => h) (Or.inl ⟨by rfl, ?hy18⟩) hHeld ?rest18
    case hy18 => (intro wq hSw; (try dsimp only at hSw); go_simp; first | done | with_reducible rfl)
    try simp only [Act.put, List.setIfInBounds_toArray, List.set_cons_zero, List.set_cons_succ]
    refine wpAnyH_take (i := 19) (oi := { dst := some 85, op := Op.fieldAddr 27 (Operand.tmp 3) 1, type := 0, pos := "laws.go:260", after := #[{ on := 17, ground := Ground.guard }], guard := some (17, true) }) (v := ?v19) rfl (by kernel_rfl) (by kernel_rfl) (by kernel_rfl) (fun _ _ _ h => h) (Or.inl ⟨by rfl, ?hy19⟩) hHeld ?rest19
    case hy19 => (intro wq hSw; (try dsimp only at hSw); go_simp; first | done | with_reducible rfl)
    try simp only [Act.put, List.setIfInBounds_toArray, List.set_cons_zero, List.set_cons_succ]
    refine wpAnyH_take (i := 20) (oi := { dst := some 86, op := Op.load 3 (Operand.tmp 85), type := 3, pos := "laws.go:260", after := #[{ on := 19, ground := Ground.data }, { on := 17, ground := Ground.guard }], guard := some (17, true) }) (v := ?v20) rfl (by kernel_rfl) (by kernel_rfl) (by kernel_rfl) (fun _ _ _ h => h) (Or.inl ⟨by rfl, ?hy20⟩) hHeld ?rest20
    case hy20 => (intro wq hSw; (try dsimp only at hSw); go_simp; first | done | with_reducible rfl)
    try simp only [Act.put, List.setIfInBounds_toArray, List.set_cons_zero, List.set_cons_succ]
    refine wpAnyH_take (i := 21) (oi := { dst := some 87, op := Op.build 27 #[(1, Operand.tmp 86)], type := 27, pos := "laws.go:260", after := #[{ on := 20, ground := Ground.data }, { on := 17, ground := Ground.guard }], guard := some (17, true) }) (v := ?v21) rfl (by kernel_rfl) (by kernel_rfl) (by kernel_rfl) (fun _ _ _ h => h) (Or.inl ⟨by rfl, ?hy21⟩) hHeld ?rest21
    case hy21 => (intro wq hSw; (try dsimp only at hSw); go_simp; first | done | with_reducible rfl)
    try simp only [Act.put, List.setIfInBounds_toArray, List.set_cons_zero, List.set_cons_succ]
    refine wpAnyH_ready (rs := [22]) (by kernel_rfl) (by simp) ?_
    refine AllReadyH.cons (o := { dst := some 88, op := Op.call { callee := Callee.value (Operand.func 17), args := #[Operand.tmp 84, Operand.tmp 87], argTypes := #[27, 27] }, type := 4, pos := "laws.go:260", after := #[{ on := 18, ground := Ground.data }, { on := 21, ground := Ground.data }, { on := 17, ground := Ground.chain }, { on := 17, ground := Ground.guard }], guard := some (17, true) }) rfl (fun K hK => ?_) AllReadyH.nil
    go_simp
    refine (jtDec_same _ false _ _ [] s ?_ ?_).mono ?_
    · exact ((S6.later BX0).box (w6.heap.size, (false), .slice a6 0 c6, (([] : List Int)), (s)) (by simp)).2.2.2.1
    · exact (Own.nil 0 _).reads
    rintro e wy1 ⟨rfl, by1⟩
    have BX1 := BX0.trans (by1.mono BX0.size)
    go_wp2_with fail
    refine hK.out _ _ (unhide Stab _ BX1) (fun hHeld => ?_)
    clear hK K
    try simp only [Act.put, List.setIfInBounds_toArray, List.set_cons_zero, List.set_cons_succ]
    refine wpAnyH_take (i := 23) (oi := { dst := some 89, op := Op.pick (Operand.tmp 83) (Operand.tmp 88) (Operand.const (Value.bool false)), type := 4, pos := "laws.go:260", after := #[{ on := 17, ground := Ground.data }, { on := 22, ground := Ground.data }], guard := none }) (v := ?v23) rfl (by kernel_rfl) (by kernel_rfl) (by kernel_rfl) (fun _ _ _ h => h) (Or.inl ⟨by rfl, ?hy23⟩) hHeld ?rest23
    case hy23 => (intro wq hSw; (try dsimp only at hSw); go_simp; first | done | with_reducible rfl)
    try simp only [Act.put, List.setIfInBounds_toArray, List.set_cons_zero, List.set_cons_succ]
    refine wpAnyH_take (i := 24) (oi := { dst := some 2, op := Op.assign (Operand.tmp 89), type := 4, pos := "laws.go:260", after := #[{ on := 23, ground := Ground.data }, { on := 22, ground := Ground.chain }, { on := 0, ground := Ground.phase }, { on := 1, ground := Ground.phase }, { on := 2, ground := Ground.phase }, { on := 3, ground := Ground.phase }, { on := 4, ground := Ground.phase }, { on := 5, ground := Ground.phase }, { on := 6, ground := Ground.phase }, { on := 7, ground := Ground.phase }, { on := 8, ground := Ground.phase }, { on := 9, ground := Ground.phase }, { on := 10, ground := Ground.phase }, { on := 11, ground := Ground.phase }, { on := 12, ground := Ground.phase }, { on := 13, ground := Ground.phase }, { on := 14, ground := Ground.phase }, { on := 15, ground := Ground.phase }, { on := 16, ground := Ground.phase }, { on := 17, ground := Ground.phase }, { on := 18, ground := Ground.phase }, { on := 19, ground := Ground.phase }, { on := 20, ground := Ground.phase }, { on := 21, ground := Ground.phase }, { on := 22, ground := Ground.phase }, { on := 23, ground := Ground.phase }], guard := none }) (v := ?v24) rfl (by kernel_rfl) (by kernel_rfl) (by kernel_rfl) (fun _ _ _ h => h) (Or.inl ⟨by rfl, ?hy24⟩) hHeld ?rest24
    case hy24 => (intro wq hSw; (try dsimp only at hSw); go_simp; first | done | with_reducible rfl)
    try simp only [Act.put, List.setIfInBounds_toArray, List.set_cons_zero, List.set_cons_succ]
    refine wpAnyH_done (by kernel_rfl) ?_ _
    have S7 := S6.later BX1
    go_wp2
    go_ret
    exact ⟨rfl, S7.below⟩

end Go.Proofs.YthnkmjkgcnhlfaaGreatDoor
