/- The law FnDecTrim: its walk. -/
import Derived.Test.YthnkmjkgcnhlfaaGreatDoorK00
import Derived.Test.YthnkmjkgcnhlfaaGreatDoorDrTm
import Derived.Test.YthnkmjkgcnhlfaaGreatDoorDcS
import Derived.Test.YthnkmjkgcnhlfaaGreatDoorH08
import Derived.Test.YthnkmjkgcnhlfaaGreatDoorByt1
import Derived.Test.YthnkmjkgcnhlfaaGreatDoorDSt
namespace Go.Proofs.YthnkmjkgcnhlfaaGreatDoor
open Go.RowKit
set_option linter.unusedSimpArgs false
set_option maxRecDepth 100000


set_option maxHeartbeats 4000000 in
theorem xDecTrimP_walk (w : World) (u : Value) (hu : Byt w u) (tt : Tab w) (hd : Hd w) :
    Calls Tryz.prog 13 #[u] w fun e w' => e = .returned (.bool true) ∧ Below w.heap.size w w' := by
  have C0 := hide (drawDecTrim_any w u hu)
  obtain ⟨ao, N, cap, rfl, hn⟩ := byt_len hu
  clear hu
  by_cases hl : (1048576 : Int) < N
  · have t0 : decide ((1048576 : Int) < N) = true := by simpa using hl
    go_enter Tryz.func13, Tryz.ntmps13
    go_wp2
    go_ret
    exact ⟨rfl, Below.refl _ _⟩
  have t0 : decide ((1048576 : Int) < N) = false := by simpa using hl
  go_enter Tryz.func13, Tryz.ntmps13
  go_wp2_with fail
  refine (unhide C0).mono ?_
  rintro e w1 ⟨p, l, sc, aa, ca, rfl, oa, b1⟩
  have S1 := (DS.start b1).add p (.slice aa l.length ca) l sc oa.reads
  simp only [List.nil_append] at S1
  clear C0 b1 oa
  obtain ⟨tp, tl, ts, hO⟩ : ∃ tp tl ts, dtrimR p l sc = (tp, tl, ts) := ⟨_, _, _, rfl⟩
  obtain ⟨ok, hok⟩ : ∃ ok, decB p l sc = ok := ⟨_, rfl⟩
  have CI := hide (fun W v (hr : Reads W v l) (k : Below w.heap.size w W) => implDecTrim_any W p v l sc hr (tt.later k))
  have CS := hide (fun W v (hr : Reads W v l) => specDecTrim_any W p v l sc hr)
  have CP := hide (fun W v (hr : Reads W v l) (k : Below w.heap.size w W) => implDecOk_any W p v l sc hr (tt.later k))
  have CQ := hide (fun W v (hr : Reads W v l) => specDecOk_any W p v l sc hr)
  rw [hO] at CI CS
  rw [hok] at CP CQ
  dsimp only at CI CS
  have HO := hide (show ok = true → _ from fun h => trim_law (hok.trans h))
  clear hok
  go_wp2_with fail
  refine (unhide CI _ _ (S1.box (w1.heap.size, p, .slice aa l.length ca, l, sc) (by simp)).2.2.2.1 S1.below).mono ?_
  rintro e w2 ⟨a2, c2, rfl, o2, k2⟩
  have R2 := S1.later k2
  have S2 := R2.add (tp) (.slice a2 (tl).length c2) (tl) (ts) o2.reads
  simp only [List.nil_append, List.cons_append, World.size_alloc] at S2
  clear k2 o2 S1
  have hbb : (ok != ok) = false := by simp
  have hbb2 : (ok == ok) = true := by simp
  cases hok : ok
  case false =>
    subst hok
    clear HO
    obtain ⟨cA0, cA1, cA2, -, zA⟩ := R2.box (w1.heap.size, p, .slice aa l.length ca, l, sc) (by simp)
    go_wp2_with fail
    generalize hW3 : w2.alloc (.cells #[.bool _, _, .int .i64 _] 27) = H3 at *
    clear hW3
    clear cA0 cA1 cA2 zA
    have stab3 : ∀ w' : World, Below H3.heap.size H3 w' → (w'.cell? ⟨w1.heap.size, 0, none⟩ = some (.bool p) ∧ w'.cell? ⟨w1.heap.size, 1, none⟩ = some (.slice aa l.length ca) ∧ w'.cell? ⟨w1.heap.size, 2, none⟩ = some (.int .i64 sc) ∧ w'.cell? ⟨w2.heap.size, 0, none⟩ = some (.bool (tp)) ∧ w'.cell? ⟨w2.heap.size, 1, none⟩ = some (.slice a2 (tl).length c2) ∧ w'.cell? ⟨w2.heap.size, 2, none⟩ = some (.int .i64 (ts))) := fun w' h => ⟨((S2.later h).box (w1.heap.size, p, .slice aa l.length ca, l, sc) (by simp)).1, ((S2.later h).box (w1.heap.size, p, .slice aa l.length ca, l, sc) (by simp)).2.1, ((S2.later h).box (w1.heap.size, p, .slice aa l.length ca, l, sc) (by simp)).2.2.1, ((S2.later h).box (w2.heap.size, (tp), .slice a2 (tl).length c2, (tl), (ts)) (by simp)).1, ((S2.later h).box (w2.heap.size, (tp), .slice a2 (tl).length c2, (tl), (ts)) (by simp)).2.1, ((S2.later h).box (w2.heap.size, (tp), .slice a2 (tl).length c2, (tl), (ts)) (by simp)).2.2.1⟩
    have Stab3 := hide stab3
    have HS3 := hide S2
    clear stab3
    go_region_held3 (fun w' => w'.cell? ⟨w1.heap.size, 0, none⟩ = some (.bool p) ∧ w'.cell? ⟨w1.heap.size, 1, none⟩ = some (.slice aa l.length ca) ∧ w'.cell? ⟨w1.heap.size, 2, none⟩ = some (.int .i64 sc) ∧ w'.cell? ⟨w2.heap.size, 0, none⟩ = some (.bool (tp)) ∧ w'.cell? ⟨w2.heap.size, 1, none⟩ = some (.slice a2 (tl).length c2) ∧ w'.cell? ⟨w2.heap.size, 2, none⟩ = some (.int .i64 (ts)))
      ((with_reducible refine unhide Stab3 _ ?_; (first | with_reducible assumption | with_reducible exact (Below.refl H3.heap.size H3).drew)))
      (first
        | (go_at_call 43; refine (unhide CS _ _ ?_).mono ?_; exact (((unhide HS3).later (Below.refl H3.heap.size H3).drew).box (w1.heap.size, p, .slice aa l.length ca, l, sc) (by simp)).2.2.2.1; rintro e wx3_0 ⟨at3_0, ct3_0, rfl, oo3_0_0, bb3_0⟩; have BX3_0 := ((Below.refl H3.heap.size H3).drew).trans (bb3_0.mono ((Below.refl H3.heap.size H3).drew).size))
        | (go_at_call 17; refine (jtDec_same _ tp _ _ tl ts ?_ ?_).mono ?_; exact (((unhide HS3).later BX3_0).box (w2.heap.size, (tp), .slice a2 (tl).length c2, (tl), (ts)) (by simp)).2.2.2.1; exact oo3_0_0.reads; rintro e wx3_1 ⟨rfl, bb3_1⟩; have BX3_1 := (BX3_0).trans (bb3_1.mono (BX3_0).size); have oo3_0_1 := oo3_0_0.later bb3_1)
        | (go_at_call 20; refine (unhide CP _ _ ?_ ?_).mono ?_; exact (((unhide HS3).later BX3_1).box (w1.heap.size, p, .slice aa l.length ca, l, sc) (by simp)).2.2.2.1; exact ((unhide HS3).later BX3_1).below; rintro e wx3_2 ⟨rfl, bb3_2⟩; have BX3_2 := (BX3_1).trans (bb3_2.mono (BX3_1).size); have oo3_0_2 := oo3_0_1.later bb3_2)
        | (go_at_call 44; with_reducible refine (unhide CQ _ _ ?_).mono ?_; exact (((unhide HS3).later BX3_2).box (w1.heap.size, p, .slice aa l.length ca, l, sc) (by simp)).2.2.2.1; rintro e wx3_3 ⟨rfl, bb3_3⟩; have BX3_3 := (BX3_2).trans (bb3_3.mono (BX3_2).size); have oo3_0_3 := oo3_0_2.later bb3_3)
        | (go_at_call 44; with_reducible refine (unhide CQ _ _ ?_).mono ?_; exact (((unhide HS3).later BX3_3).box (w1.heap.size, p, .slice aa l.length ca, l, sc) (by simp)).2.2.2.1; rintro e wx3_4 ⟨rfl, bb3_4⟩; have BX3_4 := (BX3_3).trans (bb3_4.mono (BX3_3).size); have oo3_0_4 := oo3_0_3.later bb3_4))
    have S3 := (unhide HS3).later BX3_4
    obtain ⟨cA0, cA1, cA2, -, zA⟩ := S3.box (w1.heap.size, p, .slice aa l.length ca, l, sc) (by simp)
    obtain ⟨cX0, cX1, cX2, -, zX⟩ := S3.box (w2.heap.size, (tp), .slice a2 (tl).length c2, (tl), (ts)) (by simp)
    go_wp2_with fail
    clear cA0 cA1 cA2 zA
    clear cX0 cX1 cX2 zX
    have stab4 : ∀ w' : World, Below wx3_4.heap.size wx3_4 w' → (w'.cell? ⟨w1.heap.size, 0, none⟩ = some (.bool p) ∧ w'.cell? ⟨w1.heap.size, 1, none⟩ = some (.slice aa l.length ca) ∧ w'.cell? ⟨w1.heap.size, 2, none⟩ = some (.int .i64 sc) ∧ w'.cell? ⟨w2.heap.size, 0, none⟩ = some (.bool (tp)) ∧ w'.cell? ⟨w2.heap.size, 1, none⟩ = some (.slice a2 (tl).length c2) ∧ w'.cell? ⟨w2.heap.size, 2, none⟩ = some (.int .i64 (ts))) := fun w' h => ⟨((S3.later h).box (w1.heap.size, p, .slice aa l.length ca, l, sc) (by simp)).1, ((S3.later h).box (w1.heap.size, p, .slice aa l.length ca, l, sc) (by simp)).2.1, ((S3.later h).box (w1.heap.size, p, .slice aa l.length ca, l, sc) (by simp)).2.2.1, ((S3.later h).box (w2.heap.size, (tp), .slice a2 (tl).length c2, (tl), (ts)) (by simp)).1, ((S3.later h).box (w2.heap.size, (tp), .slice a2 (tl).length c2, (tl), (ts)) (by simp)).2.1, ((S3.later h).box (w2.heap.size, (tp), .slice a2 (tl).length c2, (tl), (ts)) (by simp)).2.2.1⟩
    have Stab4 := hide stab4
    have HS4 := hide S3
    clear stab4
    go_region_held3 (fun w' => w'.cell? ⟨w1.heap.size, 0, none⟩ = some (.bool p) ∧ w'.cell? ⟨w1.heap.size, 1, none⟩ = some (.slice aa l.length ca) ∧ w'.cell? ⟨w1.heap.size, 2, none⟩ = some (.int .i64 sc) ∧ w'.cell? ⟨w2.heap.size, 0, none⟩ = some (.bool (tp)) ∧ w'.cell? ⟨w2.heap.size, 1, none⟩ = some (.slice a2 (tl).length c2) ∧ w'.cell? ⟨w2.heap.size, 2, none⟩ = some (.int .i64 (ts)))
      ((with_reducible refine unhide Stab4 _ ?_; (first | with_reducible assumption | with_reducible exact (Below.refl wx3_4.heap.size wx3_4).drew)))
      (first
        | (go_at_call 43; refine (unhide CS _ _ ?_).mono ?_; exact (((unhide HS4).later (Below.refl wx3_4.heap.size wx3_4).drew).box (w1.heap.size, p, .slice aa l.length ca, l, sc) (by simp)).2.2.2.1; rintro e wx4_0 ⟨at4_0, ct4_0, rfl, oo4_0_0, bb4_0⟩; have BX4_0 := ((Below.refl wx3_4.heap.size wx3_4).drew).trans (bb4_0.mono ((Below.refl wx3_4.heap.size wx3_4).drew).size))
        | (go_at_call 17; refine (jtDec_same _ tp _ _ tl ts ?_ ?_).mono ?_; exact (((unhide HS4).later BX4_0).box (w2.heap.size, (tp), .slice a2 (tl).length c2, (tl), (ts)) (by simp)).2.2.2.1; exact oo4_0_0.reads; rintro e wx4_1 ⟨rfl, bb4_1⟩; have BX4_1 := (BX4_0).trans (bb4_1.mono (BX4_0).size); have oo4_0_1 := oo4_0_0.later bb4_1)
        | (go_at_call 20; refine (unhide CP _ _ ?_ ?_).mono ?_; exact (((unhide HS4).later BX4_1).box (w1.heap.size, p, .slice aa l.length ca, l, sc) (by simp)).2.2.2.1; exact ((unhide HS4).later BX4_1).below; rintro e wx4_2 ⟨rfl, bb4_2⟩; have BX4_2 := (BX4_1).trans (bb4_2.mono (BX4_1).size); have oo4_0_2 := oo4_0_1.later bb4_2)
        | (go_at_call 44; refine (unhide CQ _ _ ?_).mono ?_; exact (((unhide HS4).later BX4_2).box (w1.heap.size, p, .slice aa l.length ca, l, sc) (by simp)).2.2.2.1; rintro e wx4_3 ⟨rfl, bb4_3⟩; have BX4_3 := (BX4_2).trans (bb4_3.mono (BX4_2).size); have oo4_0_3 := oo4_0_2.later bb4_3))
    have S4 := (unhide HS4).later BX4_3
    go_wp2
    go_ret
    exact ⟨rfl, S4.below⟩
  subst hok
  have HT := unhide HO rfl
  rw [hO] at HT
  obtain ⟨t1, t2, t3, h1, h2, h3, h4, h5, h6, h7⟩ := HT
  simp only [Prod.mk.injEq] at h1
  obtain ⟨rfl, rfl, rfl⟩ := h1
  have C6 := hide (fun W v (hr : Reads W v tl) (k : Below w.heap.size w W) => implDecTrim_any W tp v tl ts hr (tt.later k))
  rw [h6] at C6
  dsimp only at C6
  have C2 := hide (fun W u v (hu : Reads W u tl) (hv : Reads W v l) (k : Below w.heap.size w W) => implDecCmp_any W tp p u v tl l ts sc hu hv (tt.later k))
  rw [h2] at C2
  have hle : decide (ts ≤ sc) = true := by simpa using h3
  have HW := hide (show IntKind.i64.wrap (ts - 1) = ts - 1 by rw [IntKind.wrap_i64]; omega)
  have H7 := hide h7
  clear HO h2 h3 h4 h5 h6 h7 hO hbb hbb2
  obtain ⟨cA0, cA1, cA2, -, zA⟩ := R2.box (w1.heap.size, p, .slice aa l.length ca, l, sc) (by simp)
  go_wp2_with fail
  generalize hW3 : w2.alloc (.cells #[.bool _, _, .int .i64 _] 27) = H3 at *
  clear hW3
  clear cA0 cA1 cA2 zA
  have stab3 : ∀ w' : World, Below H3.heap.size H3 w' → (w'.cell? ⟨w1.heap.size, 0, none⟩ = some (.bool p) ∧ w'.cell? ⟨w1.heap.size, 1, none⟩ = some (.slice aa l.length ca) ∧ w'.cell? ⟨w1.heap.size, 2, none⟩ = some (.int .i64 sc) ∧ w'.cell? ⟨w2.heap.size, 0, none⟩ = some (.bool (tp)) ∧ w'.cell? ⟨w2.heap.size, 1, none⟩ = some (.slice a2 (tl).length c2) ∧ w'.cell? ⟨w2.heap.size, 2, none⟩ = some (.int .i64 (ts))) := fun w' h => ⟨((S2.later h).box (w1.heap.size, p, .slice aa l.length ca, l, sc) (by simp)).1, ((S2.later h).box (w1.heap.size, p, .slice aa l.length ca, l, sc) (by simp)).2.1, ((S2.later h).box (w1.heap.size, p, .slice aa l.length ca, l, sc) (by simp)).2.2.1, ((S2.later h).box (w2.heap.size, (tp), .slice a2 (tl).length c2, (tl), (ts)) (by simp)).1, ((S2.later h).box (w2.heap.size, (tp), .slice a2 (tl).length c2, (tl), (ts)) (by simp)).2.1, ((S2.later h).box (w2.heap.size, (tp), .slice a2 (tl).length c2, (tl), (ts)) (by simp)).2.2.1⟩
  have Stab3 := hide stab3
  have HS3 := hide S2
  clear stab3
  go_region_held3 (fun w' => w'.cell? ⟨w1.heap.size, 0, none⟩ = some (.bool p) ∧ w'.cell? ⟨w1.heap.size, 1, none⟩ = some (.slice aa l.length ca) ∧ w'.cell? ⟨w1.heap.size, 2, none⟩ = some (.int .i64 sc) ∧ w'.cell? ⟨w2.heap.size, 0, none⟩ = some (.bool (tp)) ∧ w'.cell? ⟨w2.heap.size, 1, none⟩ = some (.slice a2 (tl).length c2) ∧ w'.cell? ⟨w2.heap.size, 2, none⟩ = some (.int .i64 (ts)))
    ((with_reducible refine unhide Stab3 _ ?_; (first | with_reducible assumption | with_reducible exact (Below.refl H3.heap.size H3).drew)))
    (first
      | (go_at_call 43; refine (unhide CS _ _ ?_).mono ?_; exact (((unhide HS3).later (Below.refl H3.heap.size H3).drew).box (w1.heap.size, p, .slice aa l.length ca, l, sc) (by simp)).2.2.2.1; rintro e wx3_0 ⟨at3_0, ct3_0, rfl, oo3_0_0, bb3_0⟩; have BX3_0 := ((Below.refl H3.heap.size H3).drew).trans (bb3_0.mono ((Below.refl H3.heap.size H3).drew).size))
      | (go_at_call 17; refine (jtDec_same _ tp _ _ tl ts ?_ ?_).mono ?_; exact (((unhide HS3).later BX3_0).box (w2.heap.size, (tp), .slice a2 (tl).length c2, (tl), (ts)) (by simp)).2.2.2.1; exact oo3_0_0.reads; rintro e wx3_1 ⟨rfl, bb3_1⟩; have BX3_1 := (BX3_0).trans (bb3_1.mono (BX3_0).size); have oo3_0_1 := oo3_0_0.later bb3_1)
      | (go_at_call 20; refine (unhide CP _ _ ?_ ?_).mono ?_; exact (((unhide HS3).later BX3_1).box (w1.heap.size, p, .slice aa l.length ca, l, sc) (by simp)).2.2.2.1; exact ((unhide HS3).later BX3_1).below; rintro e wx3_2 ⟨rfl, bb3_2⟩; have BX3_2 := (BX3_1).trans (bb3_2.mono (BX3_1).size); have oo3_0_2 := oo3_0_1.later bb3_2)
      | (go_at_call 44; with_reducible refine (unhide CQ _ _ ?_).mono ?_; exact (((unhide HS3).later BX3_2).box (w1.heap.size, p, .slice aa l.length ca, l, sc) (by simp)).2.2.2.1; rintro e wx3_3 ⟨rfl, bb3_3⟩; have BX3_3 := (BX3_2).trans (bb3_3.mono (BX3_2).size); have oo3_0_3 := oo3_0_2.later bb3_3)
      | (go_at_call 44; with_reducible refine (unhide CQ _ _ ?_).mono ?_; exact (((unhide HS3).later BX3_3).box (w1.heap.size, p, .slice aa l.length ca, l, sc) (by simp)).2.2.2.1; rintro e wx3_4 ⟨rfl, bb3_4⟩; have BX3_4 := (BX3_3).trans (bb3_4.mono (BX3_3).size); have oo3_0_4 := oo3_0_3.later bb3_4))
  have S3 := (unhide HS3).later BX3_4
  obtain ⟨cX0, cX1, cX2, -, zX⟩ := S3.box (w2.heap.size, (tp), .slice a2 (tl).length c2, (tl), (ts)) (by simp)
  by_cases hp : 0 < ts
  case neg =>
    have hp2 : decide (0 < ts) = false := by simpa using hp
    clear hp H7 HW
    obtain ⟨cA0, cA1, cA2, -, zA⟩ := S3.box (w1.heap.size, p, .slice aa l.length ca, l, sc) (by simp)
    go_wp2_with fail
    clear cX0 cX1 cX2 zX
    clear cA0 cA1 cA2 zA
    have stab4 : ∀ w' : World, Below wx3_4.heap.size wx3_4 w' → (w'.cell? ⟨w1.heap.size, 0, none⟩ = some (.bool p) ∧ w'.cell? ⟨w1.heap.size, 1, none⟩ = some (.slice aa l.length ca) ∧ w'.cell? ⟨w1.heap.size, 2, none⟩ = some (.int .i64 sc) ∧ w'.cell? ⟨w2.heap.size, 0, none⟩ = some (.bool (tp)) ∧ w'.cell? ⟨w2.heap.size, 1, none⟩ = some (.slice a2 (tl).length c2) ∧ w'.cell? ⟨w2.heap.size, 2, none⟩ = some (.int .i64 (ts))) := fun w' h => ⟨((S3.later h).box (w1.heap.size, p, .slice aa l.length ca, l, sc) (by simp)).1, ((S3.later h).box (w1.heap.size, p, .slice aa l.length ca, l, sc) (by simp)).2.1, ((S3.later h).box (w1.heap.size, p, .slice aa l.length ca, l, sc) (by simp)).2.2.1, ((S3.later h).box (w2.heap.size, (tp), .slice a2 (tl).length c2, (tl), (ts)) (by simp)).1, ((S3.later h).box (w2.heap.size, (tp), .slice a2 (tl).length c2, (tl), (ts)) (by simp)).2.1, ((S3.later h).box (w2.heap.size, (tp), .slice a2 (tl).length c2, (tl), (ts)) (by simp)).2.2.1⟩
    have Stab4 := hide stab4
    have HS4 := hide S3
    clear stab4
    go_region_held3 (fun w' => w'.cell? ⟨w1.heap.size, 0, none⟩ = some (.bool p) ∧ w'.cell? ⟨w1.heap.size, 1, none⟩ = some (.slice aa l.length ca) ∧ w'.cell? ⟨w1.heap.size, 2, none⟩ = some (.int .i64 sc) ∧ w'.cell? ⟨w2.heap.size, 0, none⟩ = some (.bool (tp)) ∧ w'.cell? ⟨w2.heap.size, 1, none⟩ = some (.slice a2 (tl).length c2) ∧ w'.cell? ⟨w2.heap.size, 2, none⟩ = some (.int .i64 (ts)))
      ((with_reducible refine unhide Stab4 _ ?_; (first | with_reducible assumption | with_reducible exact (Below.refl wx3_4.heap.size wx3_4).drew)))
      (first
        | (go_at_call 19; refine (unhide C2 _ _ _ ?_ ?_ ?_).mono ?_; exact (((unhide HS4).later (Below.refl wx3_4.heap.size wx3_4).drew).box (w2.heap.size, (tp), .slice a2 (tl).length c2, (tl), (ts)) (by simp)).2.2.2.1; exact (((unhide HS4).later (Below.refl wx3_4.heap.size wx3_4).drew).box (w1.heap.size, p, .slice aa l.length ca, l, sc) (by simp)).2.2.2.1; exact ((unhide HS4).later (Below.refl wx3_4.heap.size wx3_4).drew).below; rintro e wx4_0 ⟨rfl, bb4_0⟩; have BX4_0 := ((Below.refl wx3_4.heap.size wx3_4).drew).trans (bb4_0.mono ((Below.refl wx3_4.heap.size wx3_4).drew).size))
        | (go_at_call 41; refine (unhide C6 _ _ ?_ ?_).mono ?_; exact (((unhide HS4).later BX4_0).box (w2.heap.size, (tp), .slice a2 (tl).length c2, (tl), (ts)) (by simp)).2.2.2.1; exact ((unhide HS4).later BX4_0).below; rintro e wx4_1 ⟨at4_1, ct4_1, rfl, oo4_1_1, bb4_1⟩; have BX4_1 := (BX4_0).trans (bb4_1.mono (BX4_0).size))
        | (go_at_call 17; refine (jtDec_same _ tp _ _ tl ts ?_ ?_).mono ?_; exact oo4_1_1.reads; exact (((unhide HS4).later BX4_1).box (w2.heap.size, (tp), .slice a2 (tl).length c2, (tl), (ts)) (by simp)).2.2.2.1; rintro e wx4_2 ⟨rfl, bb4_2⟩; have BX4_2 := (BX4_1).trans (bb4_2.mono (BX4_1).size); have oo4_1_2 := oo4_1_1.later bb4_2))
    have S4 := (unhide HS4).later BX4_2
    go_wp2
    go_ret
    exact ⟨rfl, S4.below⟩
  have hp2 : decide (0 < ts) = true := by simpa using hp
  obtain ⟨yg, yl, c, h8, h9, h10⟩ := unhide H7 hp
  have C3 := hide (fun W v (hr : Reads W v tl) (k : Below w.heap.size w W) => implDecRound_any W tp v tl ts (ts - 1) 2 hr (tt.later k) (hd.later k))
  rw [h8] at C3
  have C4 := hide (fun W u v (hu : Reads W u yl) (hv : Reads W v tl) (k : Below w.heap.size w W) => implDecCmp_any W yg tp u v yl tl (ts - 1) ts hu hv (tt.later k))
  rw [h9] at C4
  have h11 : (c == 0) = false := by simpa using h10
  have hwr := unhide HW
  clear H7 h8 h9 h10 HW hp
  go_wp2_with fail
  refine (unhide C3 _ _ (S3.box (w2.heap.size, (tp), .slice a2 (tl).length c2, (tl), (ts)) (by simp)).2.2.2.1 S3.below).mono ?_
  rintro e w4 ⟨a4, c4, rfl, o4, k4⟩
  simp only at o4 ⊢
  have R4 := S3.later k4
  have S4 := R4.add (yg) (.slice a4 (yl).length c4) (yl) (ts - 1) o4.reads
  simp only [List.nil_append, List.cons_append, World.size_alloc] at S4
  clear cX0 cX1 cX2 zX
  clear k4 o4 S3
  obtain ⟨cX0, cX1, cX2, -, zX⟩ := R4.box (w2.heap.size, (tp), .slice a2 (tl).length c2, (tl), (ts)) (by simp)
  go_wp2_with fail
  refine (unhide C4 _ _ _ (S4.box (w4.heap.size, (yg), .slice a4 (yl).length c4, (yl), (ts - 1)) (by simp)).2.2.2.1 (S4.box (w2.heap.size, (tp), .slice a2 (tl).length c2, (tl), (ts)) (by simp)).2.2.2.1 S4.below).mono ?_
  rintro e w5 ⟨rfl, k5⟩
  have S5 := S4.later k5
  clear cX0 cX1 cX2 zX
  clear k5 S4 R4
  clear hwr
  obtain ⟨cA0, cA1, cA2, -, zA⟩ := S5.box (w1.heap.size, p, .slice aa l.length ca, l, sc) (by simp)
  obtain ⟨cX0, cX1, cX2, -, zX⟩ := S5.box (w2.heap.size, (tp), .slice a2 (tl).length c2, (tl), (ts)) (by simp)
  go_wp2_with fail
  clear cA0 cA1 cA2 zA
  clear cX0 cX1 cX2 zX
  have stab6 : ∀ w' : World, Below w5.heap.size w5 w' → (w'.cell? ⟨w1.heap.size, 0, none⟩ = some (.bool p) ∧ w'.cell? ⟨w1.heap.size, 1, none⟩ = some (.slice aa l.length ca) ∧ w'.cell? ⟨w1.heap.size, 2, none⟩ = some (.int .i64 sc) ∧ w'.cell? ⟨w2.heap.size, 0, none⟩ = some (.bool (tp)) ∧ w'.cell? ⟨w2.heap.size, 1, none⟩ = some (.slice a2 (tl).length c2) ∧ w'.cell? ⟨w2.heap.size, 2, none⟩ = some (.int .i64 (ts))) := fun w' h => ⟨((S5.later h).box (w1.heap.size, p, .slice aa l.length ca, l, sc) (by simp)).1, ((S5.later h).box (w1.heap.size, p, .slice aa l.length ca, l, sc) (by simp)).2.1, ((S5.later h).box (w1.heap.size, p, .slice aa l.length ca, l, sc) (by simp)).2.2.1, ((S5.later h).box (w2.heap.size, (tp), .slice a2 (tl).length c2, (tl), (ts)) (by simp)).1, ((S5.later h).box (w2.heap.size, (tp), .slice a2 (tl).length c2, (tl), (ts)) (by simp)).2.1, ((S5.later h).box (w2.heap.size, (tp), .slice a2 (tl).length c2, (tl), (ts)) (by simp)).2.2.1⟩
  have Stab6 := hide stab6
  have HS6 := hide S5
  clear stab6
  go_region_held3 (fun w' => w'.cell? ⟨w1.heap.size, 0, none⟩ = some (.bool p) ∧ w'.cell? ⟨w1.heap.size, 1, none⟩ = some (.slice aa l.length ca) ∧ w'.cell? ⟨w1.heap.size, 2, none⟩ = some (.int .i64 sc) ∧ w'.cell? ⟨w2.heap.size, 0, none⟩ = some (.bool (tp)) ∧ w'.cell? ⟨w2.heap.size, 1, none⟩ = some (.slice a2 (tl).length c2) ∧ w'.cell? ⟨w2.heap.size, 2, none⟩ = some (.int .i64 (ts)))
    ((with_reducible refine unhide Stab6 _ ?_; (first | with_reducible assumption | with_reducible exact (Below.refl w5.heap.size w5).drew)))
    (first
      | (go_at_call 19; refine (unhide C2 _ _ _ ?_ ?_ ?_).mono ?_; exact (((unhide HS6).later (Below.refl w5.heap.size w5).drew).box (w2.heap.size, (tp), .slice a2 (tl).length c2, (tl), (ts)) (by simp)).2.2.2.1; exact (((unhide HS6).later (Below.refl w5.heap.size w5).drew).box (w1.heap.size, p, .slice aa l.length ca, l, sc) (by simp)).2.2.2.1; exact ((unhide HS6).later (Below.refl w5.heap.size w5).drew).below; rintro e wx6_0 ⟨rfl, bb6_0⟩; have BX6_0 := ((Below.refl w5.heap.size w5).drew).trans (bb6_0.mono ((Below.refl w5.heap.size w5).drew).size))
      | (go_at_call 41; refine (unhide C6 _ _ ?_ ?_).mono ?_; exact (((unhide HS6).later BX6_0).box (w2.heap.size, (tp), .slice a2 (tl).length c2, (tl), (ts)) (by simp)).2.2.2.1; exact ((unhide HS6).later BX6_0).below; rintro e wx6_1 ⟨at6_1, ct6_1, rfl, oo6_1_1, bb6_1⟩; have BX6_1 := (BX6_0).trans (bb6_1.mono (BX6_0).size))
      | (go_at_call 17; refine (jtDec_same _ tp _ _ tl ts ?_ ?_).mono ?_; exact oo6_1_1.reads; exact (((unhide HS6).later BX6_1).box (w2.heap.size, (tp), .slice a2 (tl).length c2, (tl), (ts)) (by simp)).2.2.2.1; rintro e wx6_2 ⟨rfl, bb6_2⟩; have BX6_2 := (BX6_1).trans (bb6_2.mono (BX6_1).size); have oo6_1_2 := oo6_1_1.later bb6_2))
  have S6 := (unhide HS6).later BX6_2
  go_wp2
  go_ret
  exact ⟨rfl, S6.below⟩

end Go.Proofs.YthnkmjkgcnhlfaaGreatDoor
