/- The law FnDecCmp: its walk. -/
import Derived.Test.YthnkmjkgcnhlfaaGreatDoorK00
import Derived.Test.YthnkmjkgcnhlfaaGreatDoorDrDc2
import Derived.Test.YthnkmjkgcnhlfaaGreatDoorH08
import Derived.Test.YthnkmjkgcnhlfaaGreatDoorByt1
import Derived.Test.YthnkmjkgcnhlfaaGreatDoorDSt
namespace Go.Proofs.YthnkmjkgcnhlfaaGreatDoor
open Go.RowKit
set_option linter.unusedSimpArgs false
set_option maxRecDepth 100000


set_option maxHeartbeats 4000000 in
theorem xDecCmpP_walk (w : World) (u : Value) (hu : Byt w u) (tt : Tab w) (hd : Hd w) :
    Calls Tryz.prog 12 #[u] w fun e w' => e = .returned (.bool true) ∧ Below w.heap.size w w' := by
  have C0 := hide (drawDecCmp_any w u hu)
  obtain ⟨ao, N, cap, rfl, hn⟩ := byt_len hu
  clear hu
  by_cases hl : (1048576 : Int) < N
  · have t0 : decide ((1048576 : Int) < N) = true := by simpa using hl
    go_enter Tryz.func12, Tryz.ntmps12
    go_wp2
    go_ret
    exact ⟨rfl, Below.refl _ _⟩
  have t0 : decide ((1048576 : Int) < N) = false := by simpa using hl
  go_enter Tryz.func12, Tryz.ntmps12
  go_wp2_with fail
  refine (unhide C0).mono ?_
  rintro e w1 ⟨p, q, l, m, s, t, aa, ca, ab, cb, rfl, oa, ob, b1⟩
  have S1 := ((DS.start b1).add p (.slice aa l.length ca) l s oa.reads).add q (.slice ab m.length cb) m t (ob.reads.alloc _)
  simp only [List.nil_append, List.cons_append, World.size_alloc] at S1
  clear C0 b1 oa ob
  obtain ⟨n, hO⟩ : ∃ n, dcmpR p l s q m t = n := ⟨_, rfl⟩
  have CI := hide (fun W u v (hu : Reads W u l) (hv : Reads W v m) (k : Below w.heap.size w W) => implDecCmp_any W p q u v l m s t hu hv (tt.later k))
  have CS := hide (fun W u v (hu : Reads W u l) (hv : Reads W v m) => specDecCmp_any W p q u v l m s t hu hv)
  rw [hO] at CI CS
  have HO := hide (show n ≠ 2 → _ from fun hn => cmp_law hO hn)
  clear hO
  go_wp2_with fail
  refine (unhide CI _ _ _ (S1.box (w1.heap.size, p, .slice aa l.length ca, l, s) (by simp)).2.2.2.1 (S1.box (w1.heap.size + 1, q, .slice ab m.length cb, m, t) (by simp)).2.2.2.1 S1.below).mono ?_
  rintro e w2 ⟨rfl, k2⟩
  have S2 := S1.later k2
  clear k2 S1
  obtain ⟨cA0, cA1, cA2, -, zA⟩ := S2.box (w1.heap.size, p, .slice aa l.length ca, l, s) (by simp)
  obtain ⟨cB0, cB1, cB2, -, zB⟩ := S2.box (w1.heap.size + 1, q, .slice ab m.length cb, m, t) (by simp)
  go_wp2_with fail
  refine (unhide CS _ _ _ (S2.box (w1.heap.size, p, .slice aa l.length ca, l, s) (by simp)).2.2.2.1 (S2.box (w1.heap.size + 1, q, .slice ab m.length cb, m, t) (by simp)).2.2.2.1).mono ?_
  rintro e w3 ⟨rfl, k3⟩
  have S3 := S2.later k3
  clear cA0 cA1 cA2 zA
  clear cB0 cB1 cB2 zB
  clear k3 S2
  have hnn : (n != n) = false := by simp
  have hnn2 : (n == n) = true := by simp
  obtain ⟨cA0, cA1, cA2, -, zA⟩ := S3.box (w1.heap.size, p, .slice aa l.length ca, l, s) (by simp)
  obtain ⟨cB0, cB1, cB2, -, zB⟩ := S3.box (w1.heap.size + 1, q, .slice ab m.length cb, m, t) (by simp)
  by_cases h0 : n = 2
  case pos =>
    have hn0 : (n == 2) = true := by simpa using h0
    clear h0 HO
    go_wp2_with fail
    refine (unhide CS _ _ _ (S3.box (w1.heap.size, p, .slice aa l.length ca, l, s) (by simp)).2.2.2.1 (S3.box (w1.heap.size + 1, q, .slice ab m.length cb, m, t) (by simp)).2.2.2.1).mono ?_
    rintro e w4 ⟨rfl, k4⟩
    have S4 := S3.later k4
    clear cA0 cA1 cA2 zA
    clear cB0 cB1 cB2 zB
    clear k4 S3
    go_wp2
    go_ret
    exact ⟨rfl, S4.below⟩
  have hn0 : (n == 2) = false := by simpa using h0
  obtain ⟨n1, n2, hba, ⟨xg, xl, xs, xk, hsu, hx⟩, tp, tl, ts, htr, htc⟩ := unhide HO h0
  have C1 := hide (fun W u v (hu : Reads W u l) (hv : Reads W v m) (k : Below w.heap.size w W) => implDecSub_any W p q u v l m s t hu hv (tt.later k) (hd.later k))
  rw [hsu] at C1
  have C2 := hide (fun W u v (hu : Reads W u m) (hv : Reads W v l) (k : Below w.heap.size w W) => implDecCmp_any W q p u v m l t s hu hv (tt.later k))
  rw [hba] at C2
  have C3 := hide (fun W u (hu : Reads W u l) (k : Below w.heap.size w W) => implDecTrim_any W p u l s hu (tt.later k))
  rw [htr] at C3
  dsimp only at C3
  have C4 := hide (fun W u v (hu : Reads W u l) (hv : Reads W v tl) (k : Below w.heap.size w W) => implDecCmp_any W p tp u v l tl s ts hu hv (tt.later k))
  rw [htc] at C4
  have hneg : IntKind.i64.wrap (-n) = -n := by rw [IntKind.wrap_i64]; omega
  have hnn3 : (-n == -n) = true := by simp
  clear HO hba hsu htr htc CI CS h0 n1 n2
  go_wp2_with fail
  refine (unhide C1 _ _ _ (S3.box (w1.heap.size, p, .slice aa l.length ca, l, s) (by simp)).2.2.2.1 (S3.box (w1.heap.size + 1, q, .slice ab m.length cb, m, t) (by simp)).2.2.2.1 S3.below).mono ?_
  rintro e w4 ⟨a4, c4, rfl, o4, k4⟩
  simp only at o4 ⊢
  have R4 := S3.later k4
  have S4 := R4.add (xg) (.slice a4 (xl).length c4) (xl) (xs) o4.reads
  simp only [List.nil_append, List.cons_append, World.size_alloc] at S4
  clear cA0 cA1 cA2 zA
  clear cB0 cB1 cB2 zB
  clear k4 o4 S3
  by_cases k0 : xk = 0
  case neg =>
    have k1 : (xk == 0) = false := by simpa using k0
    clear hx k0
    obtain ⟨cA0, cA1, cA2, -, zA⟩ := R4.box (w1.heap.size, p, .slice aa l.length ca, l, s) (by simp)
    obtain ⟨cB0, cB1, cB2, -, zB⟩ := R4.box (w1.heap.size + 1, q, .slice ab m.length cb, m, t) (by simp)
    go_wp2_with fail
    generalize hW5 : w4.alloc (.cells #[.bool _, _, .int .i64 _] 27) = H5 at *
    clear hW5
    clear cA0 cA1 cA2 zA
    clear cB0 cB1 cB2 zB
    have stab5 : ∀ w' : World, Below H5.heap.size H5 w' → (w'.cell? ⟨w1.heap.size, 0, none⟩ = some (.bool p) ∧ w'.cell? ⟨w1.heap.size, 1, none⟩ = some (.slice aa l.length ca) ∧ w'.cell? ⟨w1.heap.size, 2, none⟩ = some (.int .i64 s) ∧ w'.cell? ⟨w1.heap.size + 1, 0, none⟩ = some (.bool q) ∧ w'.cell? ⟨w1.heap.size + 1, 1, none⟩ = some (.slice ab m.length cb) ∧ w'.cell? ⟨w1.heap.size + 1, 2, none⟩ = some (.int .i64 t)) := fun w' h => ⟨((S4.later h).box (w1.heap.size, p, .slice aa l.length ca, l, s) (by simp)).1, ((S4.later h).box (w1.heap.size, p, .slice aa l.length ca, l, s) (by simp)).2.1, ((S4.later h).box (w1.heap.size, p, .slice aa l.length ca, l, s) (by simp)).2.2.1, ((S4.later h).box (w1.heap.size + 1, q, .slice ab m.length cb, m, t) (by simp)).1, ((S4.later h).box (w1.heap.size + 1, q, .slice ab m.length cb, m, t) (by simp)).2.1, ((S4.later h).box (w1.heap.size + 1, q, .slice ab m.length cb, m, t) (by simp)).2.2.1⟩
    have Stab5 := hide stab5
    have HS5 := hide S4
    clear stab5
    go_region_held3 (fun w' => w'.cell? ⟨w1.heap.size, 0, none⟩ = some (.bool p) ∧ w'.cell? ⟨w1.heap.size, 1, none⟩ = some (.slice aa l.length ca) ∧ w'.cell? ⟨w1.heap.size, 2, none⟩ = some (.int .i64 s) ∧ w'.cell? ⟨w1.heap.size + 1, 0, none⟩ = some (.bool q) ∧ w'.cell? ⟨w1.heap.size + 1, 1, none⟩ = some (.slice ab m.length cb) ∧ w'.cell? ⟨w1.heap.size + 1, 2, none⟩ = some (.int .i64 t))
      ((with_reducible refine unhide Stab5 _ ?_; (first | with_reducible assumption | with_reducible exact (Below.refl H5.heap.size H5).drew)))
      (first
        | (go_at_call 19; with_reducible refine (unhide C2 _ _ _ ?_ ?_ ?_).mono ?_; exact (((unhide HS5).later (Below.refl H5.heap.size H5).drew).box (w1.heap.size + 1, q, .slice ab m.length cb, m, t) (by simp)).2.2.2.1; exact (((unhide HS5).later (Below.refl H5.heap.size H5).drew).box (w1.heap.size, p, .slice aa l.length ca, l, s) (by simp)).2.2.2.1; exact ((unhide HS5).later (Below.refl H5.heap.size H5).drew).below; rintro e wx5_0 ⟨rfl, bb5_0⟩; have BX5_0 := ((Below.refl H5.heap.size H5).drew).trans (bb5_0.mono ((Below.refl H5.heap.size H5).drew).size))
        | (go_at_call 41; refine (unhide C3 _ _ ?_ ?_).mono ?_; exact (((unhide HS5).later BX5_0).box (w1.heap.size, p, .slice aa l.length ca, l, s) (by simp)).2.2.2.1; exact ((unhide HS5).later BX5_0).below; rintro e wx5_1 ⟨at5_1, ct5_1, rfl, oo5_1_1, bb5_1⟩; have BX5_1 := (BX5_0).trans (bb5_1.mono (BX5_0).size))
        | (go_at_call 19; with_reducible refine (unhide C4 _ _ _ ?_ ?_ ?_).mono ?_; exact (((unhide HS5).later BX5_1).box (w1.heap.size, p, .slice aa l.length ca, l, s) (by simp)).2.2.2.1; exact oo5_1_1.reads; exact ((unhide HS5).later BX5_1).below; rintro e wx5_2 ⟨rfl, bb5_2⟩; have BX5_2 := (BX5_1).trans (bb5_2.mono (BX5_1).size); have oo5_1_2 := oo5_1_1.later bb5_2))
    have S5 := (unhide HS5).later BX5_2
    go_wp2
    go_ret
    exact ⟨rfl, S5.below⟩
  obtain ⟨e1, e2⟩ := hx k0
  subst k0
  have e3 : (xg != xg) = false := by simp
  have e4 : ((n == 0) != (n == 0)) = false := by simp
  clear hx
  obtain ⟨cA0, cA1, cA2, -, zA⟩ := R4.box (w1.heap.size, p, .slice aa l.length ca, l, s) (by simp)
  obtain ⟨cB0, cB1, cB2, -, zB⟩ := R4.box (w1.heap.size + 1, q, .slice ab m.length cb, m, t) (by simp)
  go_wp2_with fail
  generalize hW5 : w4.alloc (.cells #[.bool _, _, .int .i64 _] 27) = H5 at *
  clear hW5
  clear cA0 cA1 cA2 zA
  clear cB0 cB1 cB2 zB
  have stab5 : ∀ w' : World, Below H5.heap.size H5 w' → (w'.cell? ⟨w1.heap.size, 0, none⟩ = some (.bool p) ∧ w'.cell? ⟨w1.heap.size, 1, none⟩ = some (.slice aa l.length ca) ∧ w'.cell? ⟨w1.heap.size, 2, none⟩ = some (.int .i64 s) ∧ w'.cell? ⟨w1.heap.size + 1, 0, none⟩ = some (.bool q) ∧ w'.cell? ⟨w1.heap.size + 1, 1, none⟩ = some (.slice ab m.length cb) ∧ w'.cell? ⟨w1.heap.size + 1, 2, none⟩ = some (.int .i64 t)) := fun w' h => ⟨((S4.later h).box (w1.heap.size, p, .slice aa l.length ca, l, s) (by simp)).1, ((S4.later h).box (w1.heap.size, p, .slice aa l.length ca, l, s) (by simp)).2.1, ((S4.later h).box (w1.heap.size, p, .slice aa l.length ca, l, s) (by simp)).2.2.1, ((S4.later h).box (w1.heap.size + 1, q, .slice ab m.length cb, m, t) (by simp)).1, ((S4.later h).box (w1.heap.size + 1, q, .slice ab m.length cb, m, t) (by simp)).2.1, ((S4.later h).box (w1.heap.size + 1, q, .slice ab m.length cb, m, t) (by simp)).2.2.1⟩
  have Stab5 := hide stab5
  have HS5 := hide S4
  clear stab5
  go_region_held3 (fun w' => w'.cell? ⟨w1.heap.size, 0, none⟩ = some (.bool p) ∧ w'.cell? ⟨w1.heap.size, 1, none⟩ = some (.slice aa l.length ca) ∧ w'.cell? ⟨w1.heap.size, 2, none⟩ = some (.int .i64 s) ∧ w'.cell? ⟨w1.heap.size + 1, 0, none⟩ = some (.bool q) ∧ w'.cell? ⟨w1.heap.size + 1, 1, none⟩ = some (.slice ab m.length cb) ∧ w'.cell? ⟨w1.heap.size + 1, 2, none⟩ = some (.int .i64 t))
    ((with_reducible refine unhide Stab5 _ ?_; (first | with_reducible assumption | with_reducible exact (Below.refl H5.heap.size H5).drew)))
    (first
      | (go_at_call 19; with_reducible refine (unhide C2 _ _ _ ?_ ?_ ?_).mono ?_; exact (((unhide HS5).later (Below.refl H5.heap.size H5).drew).box (w1.heap.size + 1, q, .slice ab m.length cb, m, t) (by simp)).2.2.2.1; exact (((unhide HS5).later (Below.refl H5.heap.size H5).drew).box (w1.heap.size, p, .slice aa l.length ca, l, s) (by simp)).2.2.2.1; exact ((unhide HS5).later (Below.refl H5.heap.size H5).drew).below; rintro e wx5_0 ⟨rfl, bb5_0⟩; have BX5_0 := ((Below.refl H5.heap.size H5).drew).trans (bb5_0.mono ((Below.refl H5.heap.size H5).drew).size))
      | (go_at_call 41; refine (unhide C3 _ _ ?_ ?_).mono ?_; exact (((unhide HS5).later BX5_0).box (w1.heap.size, p, .slice aa l.length ca, l, s) (by simp)).2.2.2.1; exact ((unhide HS5).later BX5_0).below; rintro e wx5_1 ⟨at5_1, ct5_1, rfl, oo5_1_1, bb5_1⟩; have BX5_1 := (BX5_0).trans (bb5_1.mono (BX5_0).size))
      | (go_at_call 19; with_reducible refine (unhide C4 _ _ _ ?_ ?_ ?_).mono ?_; exact (((unhide HS5).later BX5_1).box (w1.heap.size, p, .slice aa l.length ca, l, s) (by simp)).2.2.2.1; exact oo5_1_1.reads; exact ((unhide HS5).later BX5_1).below; rintro e wx5_2 ⟨rfl, bb5_2⟩; have BX5_2 := (BX5_1).trans (bb5_2.mono (BX5_1).size); have oo5_1_2 := oo5_1_1.later bb5_2))
  have S5 := (unhide HS5).later BX5_2
  go_wp2
  go_ret
  exact ⟨rfl, S5.below⟩

end Go.Proofs.YthnkmjkgcnhlfaaGreatDoor
