/- The law FnDecRound: its walk. -/
import Derived.Test.YthnkmjkgcnhlfaaGreatDoorNumL
import Derived.Test.YthnkmjkgcnhlfaaGreatDoorH08
import Derived.Test.YthnkmjkgcnhlfaaGreatDoorJtE
import Derived.Test.YthnkmjkgcnhlfaaGreatDoorOf
import Derived.Test.YthnkmjkgcnhlfaaGreatDoorByt1
import Derived.Test.YthnkmjkgcnhlfaaGreatDoorDSt
namespace Go.Proofs.YthnkmjkgcnhlfaaGreatDoor
open Go.RowKit
set_option linter.unusedSimpArgs false
set_option maxRecDepth 100000


set_option maxHeartbeats 4000000 in
theorem xDecRoundP_walk (w : World) (u : Value) (hu : Byt w u) (tt : Tab w) (hd : Hd w) :
    Calls Tryz.prog 8 #[u] w fun e w' => e = .returned (.bool true) ∧ Below w.heap.size w w' := by
  have C0 := hide (drawDecRound_any w u hu)
  obtain ⟨ao, N, cap, rfl, hn⟩ := byt_len hu
  clear hu
  by_cases hl : (1048576 : Int) < N
  · have t0 : decide ((1048576 : Int) < N) = true := by simpa using hl
    go_enter Tryz.func8, Tryz.ntmps8
    go_wp2
    go_ret
    exact ⟨rfl, Below.refl _ _⟩
  have t0 : decide ((1048576 : Int) < N) = false := by simpa using hl
  go_enter Tryz.func8, Tryz.ntmps8
  go_wp2_with fail
  refine (unhide C0).mono ?_
  rintro e w1 ⟨p, l, sc, t, mode, aa, ca, rfl, hll, oa, b1⟩
  have S1 := (DS.start b1).add p (.slice aa l.length ca) l sc oa.reads
  simp only [List.nil_append] at S1
  clear C0 b1 oa
  obtain ⟨og, ol, os, on, hO⟩ : ∃ og ol os on, droundR p l sc t mode = (og, ol, os, on) := ⟨_, _, _, _, rfl⟩
  have CI := hide (fun W v (hr : Reads W v l) (k : Below w.heap.size w W) => implDecRound_any W p v l sc t mode hr (tt.later k) (hd.later k))
  have CS := hide (fun W v (hr : Reads W v l) => specDecRound_any W p v l sc t mode hr)
  rw [hO] at CI CS
  have HO := hide (show on ≠ 1 → _ from fun h => round_law hO h)
  clear hO
  go_wp2_with fail
  refine (unhide CI _ _ (S1.box (w1.heap.size, p, .slice aa l.length ca, l, sc) (by simp)).2.2.2.1 S1.below).mono ?_
  rintro e w2 ⟨a2, c2, rfl, o2, k2⟩
  simp only at o2 ⊢
  have R2 := S1.later k2
  have S2 := R2.add (og) (.slice a2 (ol).length c2) (ol) (os) o2.reads
  simp only [List.nil_append, List.cons_append, World.size_alloc] at S2
  clear k2 o2 S1
  obtain ⟨cA0, cA1, cA2, -, zA⟩ := R2.box (w1.heap.size, p, .slice aa l.length ca, l, sc) (by simp)
  go_wp2_with fail
  refine (unhide CS _ _ (S2.box (w1.heap.size, p, .slice aa l.length ca, l, sc) (by simp)).2.2.2.1).mono ?_
  rintro e w3 ⟨a3, c3, rfl, o3, k3⟩
  simp only at o3 ⊢
  have R3 := S2.later k3
  have S3 := R3.add (og) (.slice a3 (ol).length c3) (ol) (os) o3.reads
  simp only [List.nil_append, List.cons_append, World.size_alloc] at S3
  clear cA0 cA1 cA2 zA
  clear k3 o3 S2 R2
  have hnn : (on != on) = false := by simp
  have hnn2 : (on == on) = true := by simp
  clear CI CS
  obtain ⟨cX0, cX1, cX2, -, zX⟩ := R3.box (w2.heap.size, (og), .slice a2 (ol).length c2, (ol), (os)) (by simp)
  go_wp2_with fail
  refine (jtDec_same _ (og) _ _ (ol) (os) (S3.box (w2.heap.size, (og), .slice a2 (ol).length c2, (ol), (os)) (by simp)).2.2.2.1 (S3.box (w3.heap.size, (og), .slice a3 (ol).length c3, (ol), (os)) (by simp)).2.2.2.1).mono ?_
  rintro e w4 ⟨rfl, k4⟩
  have S4 := S3.later k4
  clear cX0 cX1 cX2 zX
  clear k4 S3 R3
  by_cases h0 : on = 1
  case pos =>
    have hn0 : (on == 1) = true := by simpa using h0
    clear h0 HO
    obtain ⟨cX0, cX1, cX2, -, zX⟩ := S4.box (w2.heap.size, (og), .slice a2 (ol).length c2, (ol), (os)) (by simp)
    obtain ⟨cY0, cY1, cY2, -, zY⟩ := S4.box (w3.heap.size, (og), .slice a3 (ol).length c3, (ol), (os)) (by simp)
    go_wp2_with fail
    refine (jtDec_same _ (og) _ _ (ol) (os) (S4.box (w2.heap.size, (og), .slice a2 (ol).length c2, (ol), (os)) (by simp)).2.2.2.1 (S4.box (w3.heap.size, (og), .slice a3 (ol).length c3, (ol), (os)) (by simp)).2.2.2.1).mono ?_
    rintro e w5 ⟨rfl, k5⟩
    have S5 := S4.later k5
    clear cX0 cX1 cX2 zX
    clear cY0 cY1 cY2 zY
    clear k5 S4
    go_wp2
    go_ret
    exact ⟨rfl, S5.below⟩
  have hn0 : (on == 1) = false := by simpa using h0
  obtain ⟨lg, ll, ls, lc, hg, hl, hs, hc, dg, dl, ds, dc, ug, ul, us, uc, e4, e3, e2, e1, c1, c2, c3, c4, hall⟩ := unhide HO h0
  clear HO h0
  have HALL := hide hall
  have HC := hide (And.intro c1 (And.intro c2 (And.intro c3 c4)))
  clear hall c1 c2 c3 c4
  have E3 := hide e3
  have E2 := hide e2
  have E1 := hide e1
  clear e3 e2 e1
  have C := hide (fun W v (hr : Reads W v l) (k : Below w.heap.size w W) => implDecRound_any W p v l sc t 4 hr (tt.later k) (hd.later k))
  rw [e4] at C
  clear e4
  obtain ⟨cA0, cA1, cA2, -, zA⟩ := S4.box (w1.heap.size, p, .slice aa l.length ca, l, sc) (by simp)
  go_wp2_with fail
  refine (unhide C _ _ (S4.box (w1.heap.size, p, .slice aa l.length ca, l, sc) (by simp)).2.2.2.1 S4.below).mono ?_
  rintro e w5 ⟨a5, c5, rfl, o5, k5⟩
  simp only at o5 ⊢
  have R5 := S4.later k5
  have S5 := R5.add (lg) (.slice a5 (ll).length c5) (ll) (ls) o5.reads
  simp only [List.nil_append, List.cons_append, World.size_alloc] at S5
  clear cA0 cA1 cA2 zA
  clear k5 o5 S4
  clear C
  have e3 := unhide E3
  clear E3
  have C := hide (fun W v (hr : Reads W v l) (k : Below w.heap.size w W) => implDecRound_any W p v l sc t 3 hr (tt.later k) (hd.later k))
  rw [e3] at C
  clear e3
  obtain ⟨cA0, cA1, cA2, -, zA⟩ := R5.box (w1.heap.size, p, .slice aa l.length ca, l, sc) (by simp)
  go_wp2_with fail
  refine (unhide C _ _ (S5.box (w1.heap.size, p, .slice aa l.length ca, l, sc) (by simp)).2.2.2.1 S5.below).mono ?_
  rintro e w6 ⟨a6, c6, rfl, o6, k6⟩
  simp only at o6 ⊢
  have R6 := S5.later k6
  have S6 := R6.add (hg) (.slice a6 (hl).length c6) (hl) (hs) o6.reads
  simp only [List.nil_append, List.cons_append, World.size_alloc] at S6
  clear cA0 cA1 cA2 zA
  clear k6 o6 S5 R5
  clear C
  have e2 := unhide E2
  clear E2
  have C := hide (fun W v (hr : Reads W v l) (k : Below w.heap.size w W) => implDecRound_any W p v l sc t 2 hr (tt.later k) (hd.later k))
  rw [e2] at C
  clear e2
  obtain ⟨cA0, cA1, cA2, -, zA⟩ := R6.box (w1.heap.size, p, .slice aa l.length ca, l, sc) (by simp)
  go_wp2_with fail
  refine (unhide C _ _ (S6.box (w1.heap.size, p, .slice aa l.length ca, l, sc) (by simp)).2.2.2.1 S6.below).mono ?_
  rintro e w7 ⟨a7, c7, rfl, o7, k7⟩
  simp only at o7 ⊢
  have R7 := S6.later k7
  have S7 := R7.add (dg) (.slice a7 (dl).length c7) (dl) (ds) o7.reads
  simp only [List.nil_append, List.cons_append, World.size_alloc] at S7
  clear cA0 cA1 cA2 zA
  clear k7 o7 S6 R6
  clear C
  have e1 := unhide E1
  clear E1
  have C := hide (fun W v (hr : Reads W v l) (k : Below w.heap.size w W) => implDecRound_any W p v l sc t 1 hr (tt.later k) (hd.later k))
  rw [e1] at C
  clear e1
  obtain ⟨cA0, cA1, cA2, -, zA⟩ := R7.box (w1.heap.size, p, .slice aa l.length ca, l, sc) (by simp)
  go_wp2_with fail
  refine (unhide C _ _ (S7.box (w1.heap.size, p, .slice aa l.length ca, l, sc) (by simp)).2.2.2.1 S7.below).mono ?_
  rintro e w8 ⟨a8, c8, rfl, o8, k8⟩
  simp only at o8 ⊢
  have R8 := S7.later k8
  have S8 := R8.add (ug) (.slice a8 (ul).length c8) (ul) (us) o8.reads
  simp only [List.nil_append, List.cons_append, World.size_alloc] at S8
  clear cA0 cA1 cA2 zA
  clear k8 o8 S7 R7
  clear C
  obtain ⟨c1, c2, c3, c4⟩ := unhide HC
  clear HC
  rcases c1 with rfl | rfl
  case inr =>
    clear HALL
    rcases c2 with rfl | rfl
    rcases c3 with rfl | rfl
    rcases c4 with rfl | rfl
    all_goals
      go_wp2
      go_ret
      exact ⟨rfl, S8.below⟩
  rcases c2 with rfl | rfl
  case inr =>
    clear HALL
    rcases c3 with rfl | rfl
    rcases c4 with rfl | rfl
    all_goals
      go_wp2
      go_ret
      exact ⟨rfl, S8.below⟩
  rcases c3 with rfl | rfl
  case inr =>
    clear HALL
    rcases c4 with rfl | rfl
    all_goals
      go_wp2
      go_ret
      exact ⟨rfl, S8.below⟩
  rcases c4 with rfl | rfl
  case inr =>
    clear HALL
    skip
    go_wp2
    go_ret
    exact ⟨rfl, S8.below⟩
  obtain ⟨h1, h2, h3, h4, h5, h6⟩ := unhide HALL rfl rfl rfl rfl
  clear HALL
  have CB := hide (fun W => (implBigOf_any W 1 (by omega) (by omega) : Calls Tryz.prog 27 #[.int .i64 1] W (GivesBig W (ofR 1).1 (ofR 1).2)))
  rw [show ofR 1 = (false, [1]) from Prod.ext rfl L1] at CB
  dsimp only at CB
  go_wp2_with fail
  refine (unhide CB _).mono ?_
  rintro e w9 ⟨a9, c9, rfl, o9, k9⟩
  have R9 := S8.later k9
  have o9 := (show Own _ _ (.slice a9 1 c9) ([1] : List Int) from o9)
  have S9 := R9.add (false) (.slice a9 1 c9) (([1] : List Int)) (t) o9.reads
  simp only [List.nil_append, List.cons_append, World.size_alloc] at S9
  clear k9 o9 S8 R8
  clear CB
  rcases h3 with E | NE
  case inl =>
    simp only [Prod.mk.injEq] at E
    obtain ⟨e1, e2, e3⟩ := E
    obtain rfl := e1.symm
    obtain rfl := e2.symm
    obtain rfl := e3.symm
    clear e1 e2 e3
    obtain ⟨ng, nl, ns, nc, nO⟩ : ∃ ng nl ns nc, daddR lg ll ls false [1] t = (ng, nl, ns, nc) := ⟨_, _, _, _, rfl⟩
    have CA := hide (fun W u v (hu : Reads W u ll) (hv : Reads W v [1]) (k : Below w.heap.size w W) => implDecAdd_any W lg false u v ll [1] ls t hu hv (tt.later k) (hd.later k))
    rw [nO] at CA
    obtain ⟨cLo0, cLo1, cLo2, -, zLo⟩ := R9.box (w5.heap.size, (lg), .slice a5 (ll).length c5, (ll), (ls)) (by simp)
    go_wp2_with fail
    refine (unhide CA _ _ _ (S9.box (w5.heap.size, (lg), .slice a5 (ll).length c5, (ll), (ls)) (by simp)).2.2.2.1 (S9.box (w9.heap.size, (false), .slice a9 1 c9, (([1] : List Int)), (t)) (by simp)).2.2.2.1 S9.below).mono ?_
    rintro e w10 ⟨a10, c10, rfl, o10, k10⟩
    simp only at o10 ⊢
    have R10 := S9.later k10
    have S10 := R10.add (ng) (.slice a10 (nl).length c10) (nl) (ns) o10.reads
    simp only [List.nil_append, List.cons_append, World.size_alloc] at S10
    clear cLo0 cLo1 cLo2 zLo
    clear k10 o10 S9 R9
    clear CA
    have D1 := hide (fun W u v (hu : Reads W u ll) (hv : Reads W v l) (k : Below w.heap.size w W) => implDecCmp_any W lg p u v ll l ls sc hu hv (tt.later k))
    have D2 := hide (fun W u v (hu : Reads W u ll) (hv : Reads W v l) (k : Below w.heap.size w W) => implDecCmp_any W lg p u v ll l ls sc hu hv (tt.later k))
    obtain ⟨cLo0, cLo1, cLo2, -, zLo⟩ := R10.box (w5.heap.size, (lg), .slice a5 (ll).length c5, (ll), (ls)) (by simp)
    obtain ⟨cA0, cA1, cA2, -, zA⟩ := R10.box (w1.heap.size, p, .slice aa l.length ca, l, sc) (by simp)
    go_wp2_with fail
    refine (unhide D1 _ _ _ (S10.box (w5.heap.size, (lg), .slice a5 (ll).length c5, (ll), (ls)) (by simp)).2.2.2.1 (S10.box (w1.heap.size, p, .slice aa l.length ca, l, sc) (by simp)).2.2.2.1 S10.below).mono ?_
    rintro e w11 ⟨rfl, k11⟩
    have S11 := S10.later k11
    clear cLo0 cLo1 cLo2 zLo
    clear cA0 cA1 cA2 zA
    clear k11 S10 R10
    obtain ⟨cHi0, cHi1, cHi2, -, zHi⟩ := S11.box (w6.heap.size, (lg), .slice a6 (ll).length c6, (ll), (ls)) (by simp)
    obtain ⟨cA0, cA1, cA2, -, zA⟩ := S11.box (w1.heap.size, p, .slice aa l.length ca, l, sc) (by simp)
    go_wp2_with fail
    refine (unhide D2 _ _ _ (S11.box (w6.heap.size, (lg), .slice a6 (ll).length c6, (ll), (ls)) (by simp)).2.2.2.1 (S11.box (w1.heap.size, p, .slice aa l.length ca, l, sc) (by simp)).2.2.2.1 S11.below).mono ?_
    rintro e w12 ⟨rfl, k12⟩
    have S12 := S11.later k12
    clear cHi0 cHi1 cHi2 zHi
    clear cA0 cA1 cA2 zA
    clear k12 S11
    clear D1 D2
    obtain ⟨cLo0, cLo1, cLo2, -, zLo⟩ := S12.box (w5.heap.size, (lg), .slice a5 (ll).length c5, (ll), (ls)) (by simp)
    obtain ⟨cHi0, cHi1, cHi2, -, zHi⟩ := S12.box (w6.heap.size, (lg), .slice a6 (ll).length c6, (ll), (ls)) (by simp)
    go_wp2_with fail
    refine (jtDec_same _ (lg) _ _ (ll) (ls) (S12.box (w5.heap.size, (lg), .slice a5 (ll).length c5, (ll), (ls)) (by simp)).2.2.2.1 (S12.box (w6.heap.size, (lg), .slice a6 (ll).length c6, (ll), (ls)) (by simp)).2.2.2.1).mono ?_
    rintro e w13 ⟨rfl, k13⟩
    have S13 := S12.later k13
    clear cLo0 cLo1 cLo2 zLo
    clear cHi0 cHi1 cHi2 zHi
    clear k13 S12
    obtain ⟨cA0, cA1, cA2, -, zA⟩ := S13.box (w1.heap.size, p, .slice aa l.length ca, l, sc) (by simp)
    cases hp : p
    case true =>
      obtain ⟨g1, g2⟩ := h4 hp
      subst hp
      simp only [Prod.mk.injEq] at g1
      obtain ⟨e1, e2, e3⟩ := g1
      obtain rfl := e1.symm
      obtain rfl := e2.symm
      obtain rfl := e3.symm
      clear e1 e2 e3
      simp only [Prod.mk.injEq] at g2
      obtain ⟨e1, e2, e3⟩ := g2
      obtain rfl := e1.symm
      obtain rfl := e2.symm
      obtain rfl := e3.symm
      clear e1 e2 e3
      obtain ⟨cDn0, cDn1, cDn2, -, zDn⟩ := S13.box (w7.heap.size, (lg), .slice a7 (ll).length c7, (ll), (ls)) (by simp)
      obtain ⟨cHi0, cHi1, cHi2, -, zHi⟩ := S13.box (w6.heap.size, (lg), .slice a6 (ll).length c6, (ll), (ls)) (by simp)
      go_wp2_with fail
      refine (jtDec_same _ (lg) _ _ (ll) (ls) (S13.box (w7.heap.size, (lg), .slice a7 (ll).length c7, (ll), (ls)) (by simp)).2.2.2.1 (S13.box (w6.heap.size, (lg), .slice a6 (ll).length c6, (ll), (ls)) (by simp)).2.2.2.1).mono ?_
      rintro e w14 ⟨rfl, k14⟩
      have S14 := S13.later k14
      clear cA0 cA1 cA2 zA
      clear cDn0 cDn1 cDn2 zDn
      clear cHi0 cHi1 cHi2 zHi
      clear k14 S13
      obtain ⟨cUp0, cUp1, cUp2, -, zUp⟩ := S14.box (w8.heap.size, (lg), .slice a8 (ll).length c8, (ll), (ls)) (by simp)
      obtain ⟨cLo0, cLo1, cLo2, -, zLo⟩ := S14.box (w5.heap.size, (lg), .slice a5 (ll).length c5, (ll), (ls)) (by simp)
      go_wp2_with fail
      refine (jtDec_same _ (lg) _ _ (ll) (ls) (S14.box (w8.heap.size, (lg), .slice a8 (ll).length c8, (ll), (ls)) (by simp)).2.2.2.1 (S14.box (w5.heap.size, (lg), .slice a5 (ll).length c5, (ll), (ls)) (by simp)).2.2.2.1).mono ?_
      rintro e w15 ⟨rfl, k15⟩
      have S15 := S14.later k15
      clear cUp0 cUp1 cUp2 zUp
      clear cLo0 cLo1 cLo2 zLo
      clear k15 S14
      rcases h6 with h6 | h6
      case inl =>
        simp only [Prod.mk.injEq] at h6
        obtain ⟨e1, e2, e3⟩ := h6
        obtain rfl := e1.symm
        obtain rfl := e2.symm
        obtain rfl := e3.symm
        clear e1 e2 e3
        obtain ⟨cX0, cX1, cX2, -, zX⟩ := S15.box (w2.heap.size, (lg), .slice a2 (ll).length c2, (ll), (ls)) (by simp)
        obtain ⟨cLo0, cLo1, cLo2, -, zLo⟩ := S15.box (w5.heap.size, (lg), .slice a5 (ll).length c5, (ll), (ls)) (by simp)
        go_wp2_with fail
        refine (jtDec_same _ (lg) _ _ (ll) (ls) (S15.box (w2.heap.size, (lg), .slice a2 (ll).length c2, (ll), (ls)) (by simp)).2.2.2.1 (S15.box (w5.heap.size, (lg), .slice a5 (ll).length c5, (ll), (ls)) (by simp)).2.2.2.1).mono ?_
        rintro e w16 ⟨rfl, k16⟩
        have S16 := S15.later k16
        clear cX0 cX1 cX2 zX
        clear cLo0 cLo1 cLo2 zLo
        clear k16 S15
        go_wp2
        go_ret
        exact ⟨rfl, S16.below⟩
      case inr =>
        simp only [Prod.mk.injEq] at h6
        obtain ⟨e1, e2, e3⟩ := h6
        obtain rfl := e1.symm
        obtain rfl := e2.symm
        obtain rfl := e3.symm
        clear e1 e2 e3
        obtain ⟨cX0, cX1, cX2, -, zX⟩ := S15.box (w2.heap.size, (lg), .slice a2 (ll).length c2, (ll), (ls)) (by simp)
        obtain ⟨cLo0, cLo1, cLo2, -, zLo⟩ := S15.box (w5.heap.size, (lg), .slice a5 (ll).length c5, (ll), (ls)) (by simp)
        go_wp2_with fail
        refine (jtDec_same _ (lg) _ _ (ll) (ls) (S15.box (w2.heap.size, (lg), .slice a2 (ll).length c2, (ll), (ls)) (by simp)).2.2.2.1 (S15.box (w5.heap.size, (lg), .slice a5 (ll).length c5, (ll), (ls)) (by simp)).2.2.2.1).mono ?_
        rintro e w16 ⟨rfl, k16⟩
        have S16 := S15.later k16
        clear cX0 cX1 cX2 zX
        clear cLo0 cLo1 cLo2 zLo
        clear k16 S15
        go_wp2
        go_ret
        exact ⟨rfl, S16.below⟩
    case false =>
      obtain ⟨g1, g2⟩ := h5 hp
      subst hp
      simp only [Prod.mk.injEq] at g1
      obtain ⟨e1, e2, e3⟩ := g1
      obtain rfl := e1.symm
      obtain rfl := e2.symm
      obtain rfl := e3.symm
      clear e1 e2 e3
      simp only [Prod.mk.injEq] at g2
      obtain ⟨e1, e2, e3⟩ := g2
      obtain rfl := e1.symm
      obtain rfl := e2.symm
      obtain rfl := e3.symm
      clear e1 e2 e3
      obtain ⟨cDn0, cDn1, cDn2, -, zDn⟩ := S13.box (w7.heap.size, (lg), .slice a7 (ll).length c7, (ll), (ls)) (by simp)
      obtain ⟨cLo0, cLo1, cLo2, -, zLo⟩ := S13.box (w5.heap.size, (lg), .slice a5 (ll).length c5, (ll), (ls)) (by simp)
      go_wp2_with fail
      refine (jtDec_same _ (lg) _ _ (ll) (ls) (S13.box (w7.heap.size, (lg), .slice a7 (ll).length c7, (ll), (ls)) (by simp)).2.2.2.1 (S13.box (w5.heap.size, (lg), .slice a5 (ll).length c5, (ll), (ls)) (by simp)).2.2.2.1).mono ?_
      rintro e w14 ⟨rfl, k14⟩
      have S14 := S13.later k14
      clear cA0 cA1 cA2 zA
      clear cDn0 cDn1 cDn2 zDn
      clear cLo0 cLo1 cLo2 zLo
      clear k14 S13
      obtain ⟨cUp0, cUp1, cUp2, -, zUp⟩ := S14.box (w8.heap.size, (lg), .slice a8 (ll).length c8, (ll), (ls)) (by simp)
      obtain ⟨cHi0, cHi1, cHi2, -, zHi⟩ := S14.box (w6.heap.size, (lg), .slice a6 (ll).length c6, (ll), (ls)) (by simp)
      go_wp2_with fail
      refine (jtDec_same _ (lg) _ _ (ll) (ls) (S14.box (w8.heap.size, (lg), .slice a8 (ll).length c8, (ll), (ls)) (by simp)).2.2.2.1 (S14.box (w6.heap.size, (lg), .slice a6 (ll).length c6, (ll), (ls)) (by simp)).2.2.2.1).mono ?_
      rintro e w15 ⟨rfl, k15⟩
      have S15 := S14.later k15
      clear cUp0 cUp1 cUp2 zUp
      clear cHi0 cHi1 cHi2 zHi
      clear k15 S14
      rcases h6 with h6 | h6
      case inl =>
        simp only [Prod.mk.injEq] at h6
        obtain ⟨e1, e2, e3⟩ := h6
        obtain rfl := e1.symm
        obtain rfl := e2.symm
        obtain rfl := e3.symm
        clear e1 e2 e3
        obtain ⟨cX0, cX1, cX2, -, zX⟩ := S15.box (w2.heap.size, (lg), .slice a2 (ll).length c2, (ll), (ls)) (by simp)
        obtain ⟨cLo0, cLo1, cLo2, -, zLo⟩ := S15.box (w5.heap.size, (lg), .slice a5 (ll).length c5, (ll), (ls)) (by simp)
        go_wp2_with fail
        refine (jtDec_same _ (lg) _ _ (ll) (ls) (S15.box (w2.heap.size, (lg), .slice a2 (ll).length c2, (ll), (ls)) (by simp)).2.2.2.1 (S15.box (w5.heap.size, (lg), .slice a5 (ll).length c5, (ll), (ls)) (by simp)).2.2.2.1).mono ?_
        rintro e w16 ⟨rfl, k16⟩
        have S16 := S15.later k16
        clear cX0 cX1 cX2 zX
        clear cLo0 cLo1 cLo2 zLo
        clear k16 S15
        go_wp2
        go_ret
        exact ⟨rfl, S16.below⟩
      case inr =>
        simp only [Prod.mk.injEq] at h6
        obtain ⟨e1, e2, e3⟩ := h6
        obtain rfl := e1.symm
        obtain rfl := e2.symm
        obtain rfl := e3.symm
        clear e1 e2 e3
        obtain ⟨cX0, cX1, cX2, -, zX⟩ := S15.box (w2.heap.size, (lg), .slice a2 (ll).length c2, (ll), (ls)) (by simp)
        obtain ⟨cLo0, cLo1, cLo2, -, zLo⟩ := S15.box (w5.heap.size, (lg), .slice a5 (ll).length c5, (ll), (ls)) (by simp)
        go_wp2_with fail
        refine (jtDec_same _ (lg) _ _ (ll) (ls) (S15.box (w2.heap.size, (lg), .slice a2 (ll).length c2, (ll), (ls)) (by simp)).2.2.2.1 (S15.box (w5.heap.size, (lg), .slice a5 (ll).length c5, (ll), (ls)) (by simp)).2.2.2.1).mono ?_
        rintro e w16 ⟨rfl, k16⟩
        have S16 := S15.later k16
        clear cX0 cX1 cX2 zX
        clear cLo0 cLo1 cLo2 zLo
        clear k16 S15
        go_wp2
        go_ret
        exact ⟨rfl, S16.below⟩
  case inr =>
    have CA := hide (fun W u v (hu : Reads W u ll) (hv : Reads W v [1]) (k : Below w.heap.size w W) => implDecAdd_any W lg false u v ll [1] ls t hu hv (tt.later k) (hd.later k))
    rw [NE] at CA
    obtain ⟨cLo0, cLo1, cLo2, -, zLo⟩ := R9.box (w5.heap.size, (lg), .slice a5 (ll).length c5, (ll), (ls)) (by simp)
    go_wp2_with fail
    refine (unhide CA _ _ _ (S9.box (w5.heap.size, (lg), .slice a5 (ll).length c5, (ll), (ls)) (by simp)).2.2.2.1 (S9.box (w9.heap.size, (false), .slice a9 1 c9, (([1] : List Int)), (t)) (by simp)).2.2.2.1 S9.below).mono ?_
    rintro e w10 ⟨a10, c10, rfl, o10, k10⟩
    simp only at o10 ⊢
    have R10 := S9.later k10
    have S10 := R10.add (hg) (.slice a10 (hl).length c10) (hl) (hs) o10.reads
    simp only [List.nil_append, List.cons_append, World.size_alloc] at S10
    clear cLo0 cLo1 cLo2 zLo
    clear k10 o10 S9 R9
    clear CA
    have D1 := hide (fun W u v (hu : Reads W u ll) (hv : Reads W v l) (k : Below w.heap.size w W) => implDecCmp_any W lg p u v ll l ls sc hu hv (tt.later k))
    have D2 := hide (fun W u v (hu : Reads W u hl) (hv : Reads W v l) (k : Below w.heap.size w W) => implDecCmp_any W hg p u v hl l hs sc hu hv (tt.later k))
    obtain ⟨cLo0, cLo1, cLo2, -, zLo⟩ := R10.box (w5.heap.size, (lg), .slice a5 (ll).length c5, (ll), (ls)) (by simp)
    obtain ⟨cA0, cA1, cA2, -, zA⟩ := R10.box (w1.heap.size, p, .slice aa l.length ca, l, sc) (by simp)
    go_wp2_with fail
    refine (unhide D1 _ _ _ (S10.box (w5.heap.size, (lg), .slice a5 (ll).length c5, (ll), (ls)) (by simp)).2.2.2.1 (S10.box (w1.heap.size, p, .slice aa l.length ca, l, sc) (by simp)).2.2.2.1 S10.below).mono ?_
    rintro e w11 ⟨rfl, k11⟩
    have S11 := S10.later k11
    clear cLo0 cLo1 cLo2 zLo
    clear cA0 cA1 cA2 zA
    clear k11 S10 R10
    obtain ⟨cHi0, cHi1, cHi2, -, zHi⟩ := S11.box (w6.heap.size, (hg), .slice a6 (hl).length c6, (hl), (hs)) (by simp)
    obtain ⟨cA0, cA1, cA2, -, zA⟩ := S11.box (w1.heap.size, p, .slice aa l.length ca, l, sc) (by simp)
    go_wp2_with fail
    refine (unhide D2 _ _ _ (S11.box (w6.heap.size, (hg), .slice a6 (hl).length c6, (hl), (hs)) (by simp)).2.2.2.1 (S11.box (w1.heap.size, p, .slice aa l.length ca, l, sc) (by simp)).2.2.2.1 S11.below).mono ?_
    rintro e w12 ⟨rfl, k12⟩
    have S12 := S11.later k12
    clear cHi0 cHi1 cHi2 zHi
    clear cA0 cA1 cA2 zA
    clear k12 S11
    clear D1 D2
    obtain ⟨cLo0, cLo1, cLo2, -, zLo⟩ := S12.box (w5.heap.size, (lg), .slice a5 (ll).length c5, (ll), (ls)) (by simp)
    obtain ⟨cHi0, cHi1, cHi2, -, zHi⟩ := S12.box (w6.heap.size, (hg), .slice a6 (hl).length c6, (hl), (hs)) (by simp)
    go_wp2_with fail
    refine (jtDec_any _ (lg) (hg) _ _ (ll) (hl) (ls) (hs) (S12.box (w5.heap.size, (lg), .slice a5 (ll).length c5, (ll), (ls)) (by simp)).2.2.2.1 (S12.box (w6.heap.size, (hg), .slice a6 (hl).length c6, (hl), (hs)) (by simp)).2.2.2.1).mono ?_
    rintro e w13 ⟨⟨b1, rfl⟩, k13⟩
    have S13 := S12.later k13
    clear cLo0 cLo1 cLo2 zLo
    clear cHi0 cHi1 cHi2 zHi
    clear k13 S12
    obtain ⟨cNx0, cNx1, cNx2, -, zNx⟩ := S13.box (w10.heap.size, (hg), .slice a10 (hl).length c10, (hl), (hs)) (by simp)
    obtain ⟨cHi0, cHi1, cHi2, -, zHi⟩ := S13.box (w6.heap.size, (hg), .slice a6 (hl).length c6, (hl), (hs)) (by simp)
    cases b1
    case true =>
      obtain ⟨cA0, cA1, cA2, -, zA⟩ := S13.box (w1.heap.size, p, .slice aa l.length ca, l, sc) (by simp)
      cases hp : p
      case true =>
        obtain ⟨g1, g2⟩ := h4 hp
        subst hp
        simp only [Prod.mk.injEq] at g1
        obtain ⟨e1, e2, e3⟩ := g1
        obtain rfl := e1.symm
        obtain rfl := e2.symm
        obtain rfl := e3.symm
        clear e1 e2 e3
        simp only [Prod.mk.injEq] at g2
        obtain ⟨e1, e2, e3⟩ := g2
        obtain rfl := e1.symm
        obtain rfl := e2.symm
        obtain rfl := e3.symm
        clear e1 e2 e3
        obtain ⟨cDn0, cDn1, cDn2, -, zDn⟩ := S13.box (w7.heap.size, (hg), .slice a7 (hl).length c7, (hl), (hs)) (by simp)
        go_wp2_with fail
        refine (jtDec_same _ (hg) _ _ (hl) (hs) (S13.box (w7.heap.size, (hg), .slice a7 (hl).length c7, (hl), (hs)) (by simp)).2.2.2.1 (S13.box (w6.heap.size, (hg), .slice a6 (hl).length c6, (hl), (hs)) (by simp)).2.2.2.1).mono ?_
        rintro e w14 ⟨rfl, k14⟩
        have S14 := S13.later k14
        clear cNx0 cNx1 cNx2 zNx
        clear cHi0 cHi1 cHi2 zHi
        clear cA0 cA1 cA2 zA
        clear cDn0 cDn1 cDn2 zDn
        clear k14 S13
        obtain ⟨cUp0, cUp1, cUp2, -, zUp⟩ := S14.box (w8.heap.size, (lg), .slice a8 (ll).length c8, (ll), (ls)) (by simp)
        obtain ⟨cLo0, cLo1, cLo2, -, zLo⟩ := S14.box (w5.heap.size, (lg), .slice a5 (ll).length c5, (ll), (ls)) (by simp)
        go_wp2_with fail
        refine (jtDec_same _ (lg) _ _ (ll) (ls) (S14.box (w8.heap.size, (lg), .slice a8 (ll).length c8, (ll), (ls)) (by simp)).2.2.2.1 (S14.box (w5.heap.size, (lg), .slice a5 (ll).length c5, (ll), (ls)) (by simp)).2.2.2.1).mono ?_
        rintro e w15 ⟨rfl, k15⟩
        have S15 := S14.later k15
        clear cUp0 cUp1 cUp2 zUp
        clear cLo0 cLo1 cLo2 zLo
        clear k15 S14
        rcases h6 with h6 | h6
        case inl =>
          simp only [Prod.mk.injEq] at h6
          obtain ⟨e1, e2, e3⟩ := h6
          obtain rfl := e1.symm
          obtain rfl := e2.symm
          obtain rfl := e3.symm
          clear e1 e2 e3
          obtain ⟨cX0, cX1, cX2, -, zX⟩ := S15.box (w2.heap.size, (lg), .slice a2 (ll).length c2, (ll), (ls)) (by simp)
          obtain ⟨cLo0, cLo1, cLo2, -, zLo⟩ := S15.box (w5.heap.size, (lg), .slice a5 (ll).length c5, (ll), (ls)) (by simp)
          go_wp2_with fail
          refine (jtDec_same _ (lg) _ _ (ll) (ls) (S15.box (w2.heap.size, (lg), .slice a2 (ll).length c2, (ll), (ls)) (by simp)).2.2.2.1 (S15.box (w5.heap.size, (lg), .slice a5 (ll).length c5, (ll), (ls)) (by simp)).2.2.2.1).mono ?_
          rintro e w16 ⟨rfl, k16⟩
          have S16 := S15.later k16
          clear cX0 cX1 cX2 zX
          clear cLo0 cLo1 cLo2 zLo
          clear k16 S15
          go_wp2
          go_ret
          exact ⟨rfl, S16.below⟩
        case inr =>
          simp only [Prod.mk.injEq] at h6
          obtain ⟨e1, e2, e3⟩ := h6
          obtain rfl := e1.symm
          obtain rfl := e2.symm
          obtain rfl := e3.symm
          clear e1 e2 e3
          obtain ⟨cX0, cX1, cX2, -, zX⟩ := S15.box (w2.heap.size, (hg), .slice a2 (hl).length c2, (hl), (hs)) (by simp)
          obtain ⟨cLo0, cLo1, cLo2, -, zLo⟩ := S15.box (w5.heap.size, (lg), .slice a5 (ll).length c5, (ll), (ls)) (by simp)
          go_wp2_with fail
          refine (jtDec_any _ (hg) (lg) _ _ (hl) (ll) (hs) (ls) (S15.box (w2.heap.size, (hg), .slice a2 (hl).length c2, (hl), (hs)) (by simp)).2.2.2.1 (S15.box (w5.heap.size, (lg), .slice a5 (ll).length c5, (ll), (ls)) (by simp)).2.2.2.1).mono ?_
          rintro e w16 ⟨⟨b, rfl⟩, k16⟩
          have S16 := S15.later k16
          clear cX0 cX1 cX2 zX
          clear cLo0 cLo1 cLo2 zLo
          clear k16 S15
          obtain ⟨cX0, cX1, cX2, -, zX⟩ := S16.box (w2.heap.size, (hg), .slice a2 (hl).length c2, (hl), (hs)) (by simp)
          obtain ⟨cHi0, cHi1, cHi2, -, zHi⟩ := S16.box (w6.heap.size, (hg), .slice a6 (hl).length c6, (hl), (hs)) (by simp)
          cases b
          case true =>
            go_wp2
            go_ret
            exact ⟨rfl, S16.below⟩
          case false =>
            go_wp2_with fail
            refine (jtDec_same _ (hg) _ _ (hl) (hs) (S16.box (w2.heap.size, (hg), .slice a2 (hl).length c2, (hl), (hs)) (by simp)).2.2.2.1 (S16.box (w6.heap.size, (hg), .slice a6 (hl).length c6, (hl), (hs)) (by simp)).2.2.2.1).mono ?_
            rintro e w17 ⟨rfl, k17⟩
            have S17 := S16.later k17
            clear cX0 cX1 cX2 zX
            clear cHi0 cHi1 cHi2 zHi
            clear k17 S16
            go_wp2
            go_ret
            exact ⟨rfl, S17.below⟩
      case false =>
        obtain ⟨g1, g2⟩ := h5 hp
        subst hp
        simp only [Prod.mk.injEq] at g1
        obtain ⟨e1, e2, e3⟩ := g1
        obtain rfl := e1.symm
        obtain rfl := e2.symm
        obtain rfl := e3.symm
        clear e1 e2 e3
        simp only [Prod.mk.injEq] at g2
        obtain ⟨e1, e2, e3⟩ := g2
        obtain rfl := e1.symm
        obtain rfl := e2.symm
        obtain rfl := e3.symm
        clear e1 e2 e3
        obtain ⟨cDn0, cDn1, cDn2, -, zDn⟩ := S13.box (w7.heap.size, (lg), .slice a7 (ll).length c7, (ll), (ls)) (by simp)
        obtain ⟨cLo0, cLo1, cLo2, -, zLo⟩ := S13.box (w5.heap.size, (lg), .slice a5 (ll).length c5, (ll), (ls)) (by simp)
        go_wp2_with fail
        refine (jtDec_same _ (lg) _ _ (ll) (ls) (S13.box (w7.heap.size, (lg), .slice a7 (ll).length c7, (ll), (ls)) (by simp)).2.2.2.1 (S13.box (w5.heap.size, (lg), .slice a5 (ll).length c5, (ll), (ls)) (by simp)).2.2.2.1).mono ?_
        rintro e w14 ⟨rfl, k14⟩
        have S14 := S13.later k14
        clear cNx0 cNx1 cNx2 zNx
        clear cHi0 cHi1 cHi2 zHi
        clear cA0 cA1 cA2 zA
        clear cDn0 cDn1 cDn2 zDn
        clear cLo0 cLo1 cLo2 zLo
        clear k14 S13
        obtain ⟨cUp0, cUp1, cUp2, -, zUp⟩ := S14.box (w8.heap.size, (hg), .slice a8 (hl).length c8, (hl), (hs)) (by simp)
        obtain ⟨cHi0, cHi1, cHi2, -, zHi⟩ := S14.box (w6.heap.size, (hg), .slice a6 (hl).length c6, (hl), (hs)) (by simp)
        go_wp2_with fail
        refine (jtDec_same _ (hg) _ _ (hl) (hs) (S14.box (w8.heap.size, (hg), .slice a8 (hl).length c8, (hl), (hs)) (by simp)).2.2.2.1 (S14.box (w6.heap.size, (hg), .slice a6 (hl).length c6, (hl), (hs)) (by simp)).2.2.2.1).mono ?_
        rintro e w15 ⟨rfl, k15⟩
        have S15 := S14.later k15
        clear cUp0 cUp1 cUp2 zUp
        clear cHi0 cHi1 cHi2 zHi
        clear k15 S14
        rcases h6 with h6 | h6
        case inl =>
          simp only [Prod.mk.injEq] at h6
          obtain ⟨e1, e2, e3⟩ := h6
          obtain rfl := e1.symm
          obtain rfl := e2.symm
          obtain rfl := e3.symm
          clear e1 e2 e3
          obtain ⟨cX0, cX1, cX2, -, zX⟩ := S15.box (w2.heap.size, (lg), .slice a2 (ll).length c2, (ll), (ls)) (by simp)
          obtain ⟨cLo0, cLo1, cLo2, -, zLo⟩ := S15.box (w5.heap.size, (lg), .slice a5 (ll).length c5, (ll), (ls)) (by simp)
          go_wp2_with fail
          refine (jtDec_same _ (lg) _ _ (ll) (ls) (S15.box (w2.heap.size, (lg), .slice a2 (ll).length c2, (ll), (ls)) (by simp)).2.2.2.1 (S15.box (w5.heap.size, (lg), .slice a5 (ll).length c5, (ll), (ls)) (by simp)).2.2.2.1).mono ?_
          rintro e w16 ⟨rfl, k16⟩
          have S16 := S15.later k16
          clear cX0 cX1 cX2 zX
          clear cLo0 cLo1 cLo2 zLo
          clear k16 S15
          go_wp2
          go_ret
          exact ⟨rfl, S16.below⟩
        case inr =>
          simp only [Prod.mk.injEq] at h6
          obtain ⟨e1, e2, e3⟩ := h6
          obtain rfl := e1.symm
          obtain rfl := e2.symm
          obtain rfl := e3.symm
          clear e1 e2 e3
          obtain ⟨cX0, cX1, cX2, -, zX⟩ := S15.box (w2.heap.size, (hg), .slice a2 (hl).length c2, (hl), (hs)) (by simp)
          obtain ⟨cLo0, cLo1, cLo2, -, zLo⟩ := S15.box (w5.heap.size, (lg), .slice a5 (ll).length c5, (ll), (ls)) (by simp)
          go_wp2_with fail
          refine (jtDec_any _ (hg) (lg) _ _ (hl) (ll) (hs) (ls) (S15.box (w2.heap.size, (hg), .slice a2 (hl).length c2, (hl), (hs)) (by simp)).2.2.2.1 (S15.box (w5.heap.size, (lg), .slice a5 (ll).length c5, (ll), (ls)) (by simp)).2.2.2.1).mono ?_
          rintro e w16 ⟨⟨b, rfl⟩, k16⟩
          have S16 := S15.later k16
          clear cX0 cX1 cX2 zX
          clear cLo0 cLo1 cLo2 zLo
          clear k16 S15
          obtain ⟨cX0, cX1, cX2, -, zX⟩ := S16.box (w2.heap.size, (hg), .slice a2 (hl).length c2, (hl), (hs)) (by simp)
          obtain ⟨cHi0, cHi1, cHi2, -, zHi⟩ := S16.box (w6.heap.size, (hg), .slice a6 (hl).length c6, (hl), (hs)) (by simp)
          cases b
          case true =>
            go_wp2
            go_ret
            exact ⟨rfl, S16.below⟩
          case false =>
            go_wp2_with fail
            refine (jtDec_same _ (hg) _ _ (hl) (hs) (S16.box (w2.heap.size, (hg), .slice a2 (hl).length c2, (hl), (hs)) (by simp)).2.2.2.1 (S16.box (w6.heap.size, (hg), .slice a6 (hl).length c6, (hl), (hs)) (by simp)).2.2.2.1).mono ?_
            rintro e w17 ⟨rfl, k17⟩
            have S17 := S16.later k17
            clear cX0 cX1 cX2 zX
            clear cHi0 cHi1 cHi2 zHi
            clear k17 S16
            go_wp2
            go_ret
            exact ⟨rfl, S17.below⟩
    case false =>
      go_wp2_with fail
      refine (jtDec_same _ (hg) _ _ (hl) (hs) (S13.box (w10.heap.size, (hg), .slice a10 (hl).length c10, (hl), (hs)) (by simp)).2.2.2.1 (S13.box (w6.heap.size, (hg), .slice a6 (hl).length c6, (hl), (hs)) (by simp)).2.2.2.1).mono ?_
      rintro e w14 ⟨rfl, k14⟩
      have S14 := S13.later k14
      clear cNx0 cNx1 cNx2 zNx
      clear cHi0 cHi1 cHi2 zHi
      clear k14 S13
      obtain ⟨cA0, cA1, cA2, -, zA⟩ := S14.box (w1.heap.size, p, .slice aa l.length ca, l, sc) (by simp)
      cases hp : p
      case true =>
        obtain ⟨g1, g2⟩ := h4 hp
        subst hp
        simp only [Prod.mk.injEq] at g1
        obtain ⟨e1, e2, e3⟩ := g1
        obtain rfl := e1.symm
        obtain rfl := e2.symm
        obtain rfl := e3.symm
        clear e1 e2 e3
        simp only [Prod.mk.injEq] at g2
        obtain ⟨e1, e2, e3⟩ := g2
        obtain rfl := e1.symm
        obtain rfl := e2.symm
        obtain rfl := e3.symm
        clear e1 e2 e3
        obtain ⟨cDn0, cDn1, cDn2, -, zDn⟩ := S14.box (w7.heap.size, (hg), .slice a7 (hl).length c7, (hl), (hs)) (by simp)
        obtain ⟨cHi0, cHi1, cHi2, -, zHi⟩ := S14.box (w6.heap.size, (hg), .slice a6 (hl).length c6, (hl), (hs)) (by simp)
        go_wp2_with fail
        refine (jtDec_same _ (hg) _ _ (hl) (hs) (S14.box (w7.heap.size, (hg), .slice a7 (hl).length c7, (hl), (hs)) (by simp)).2.2.2.1 (S14.box (w6.heap.size, (hg), .slice a6 (hl).length c6, (hl), (hs)) (by simp)).2.2.2.1).mono ?_
        rintro e w15 ⟨rfl, k15⟩
        have S15 := S14.later k15
        clear cA0 cA1 cA2 zA
        clear cDn0 cDn1 cDn2 zDn
        clear cHi0 cHi1 cHi2 zHi
        clear k15 S14
        obtain ⟨cUp0, cUp1, cUp2, -, zUp⟩ := S15.box (w8.heap.size, (lg), .slice a8 (ll).length c8, (ll), (ls)) (by simp)
        obtain ⟨cLo0, cLo1, cLo2, -, zLo⟩ := S15.box (w5.heap.size, (lg), .slice a5 (ll).length c5, (ll), (ls)) (by simp)
        go_wp2_with fail
        refine (jtDec_same _ (lg) _ _ (ll) (ls) (S15.box (w8.heap.size, (lg), .slice a8 (ll).length c8, (ll), (ls)) (by simp)).2.2.2.1 (S15.box (w5.heap.size, (lg), .slice a5 (ll).length c5, (ll), (ls)) (by simp)).2.2.2.1).mono ?_
        rintro e w16 ⟨rfl, k16⟩
        have S16 := S15.later k16
        clear cUp0 cUp1 cUp2 zUp
        clear cLo0 cLo1 cLo2 zLo
        clear k16 S15
        rcases h6 with h6 | h6
        case inl =>
          simp only [Prod.mk.injEq] at h6
          obtain ⟨e1, e2, e3⟩ := h6
          obtain rfl := e1.symm
          obtain rfl := e2.symm
          obtain rfl := e3.symm
          clear e1 e2 e3
          obtain ⟨cX0, cX1, cX2, -, zX⟩ := S16.box (w2.heap.size, (lg), .slice a2 (ll).length c2, (ll), (ls)) (by simp)
          obtain ⟨cLo0, cLo1, cLo2, -, zLo⟩ := S16.box (w5.heap.size, (lg), .slice a5 (ll).length c5, (ll), (ls)) (by simp)
          go_wp2_with fail
          refine (jtDec_same _ (lg) _ _ (ll) (ls) (S16.box (w2.heap.size, (lg), .slice a2 (ll).length c2, (ll), (ls)) (by simp)).2.2.2.1 (S16.box (w5.heap.size, (lg), .slice a5 (ll).length c5, (ll), (ls)) (by simp)).2.2.2.1).mono ?_
          rintro e w17 ⟨rfl, k17⟩
          have S17 := S16.later k17
          clear cX0 cX1 cX2 zX
          clear cLo0 cLo1 cLo2 zLo
          clear k17 S16
          go_wp2
          go_ret
          exact ⟨rfl, S17.below⟩
        case inr =>
          simp only [Prod.mk.injEq] at h6
          obtain ⟨e1, e2, e3⟩ := h6
          obtain rfl := e1.symm
          obtain rfl := e2.symm
          obtain rfl := e3.symm
          clear e1 e2 e3
          obtain ⟨cX0, cX1, cX2, -, zX⟩ := S16.box (w2.heap.size, (hg), .slice a2 (hl).length c2, (hl), (hs)) (by simp)
          obtain ⟨cLo0, cLo1, cLo2, -, zLo⟩ := S16.box (w5.heap.size, (lg), .slice a5 (ll).length c5, (ll), (ls)) (by simp)
          go_wp2_with fail
          refine (jtDec_any _ (hg) (lg) _ _ (hl) (ll) (hs) (ls) (S16.box (w2.heap.size, (hg), .slice a2 (hl).length c2, (hl), (hs)) (by simp)).2.2.2.1 (S16.box (w5.heap.size, (lg), .slice a5 (ll).length c5, (ll), (ls)) (by simp)).2.2.2.1).mono ?_
          rintro e w17 ⟨⟨b, rfl⟩, k17⟩
          have S17 := S16.later k17
          clear cX0 cX1 cX2 zX
          clear cLo0 cLo1 cLo2 zLo
          clear k17 S16
          obtain ⟨cX0, cX1, cX2, -, zX⟩ := S17.box (w2.heap.size, (hg), .slice a2 (hl).length c2, (hl), (hs)) (by simp)
          obtain ⟨cHi0, cHi1, cHi2, -, zHi⟩ := S17.box (w6.heap.size, (hg), .slice a6 (hl).length c6, (hl), (hs)) (by simp)
          cases b
          case true =>
            go_wp2
            go_ret
            exact ⟨rfl, S17.below⟩
          case false =>
            go_wp2_with fail
            refine (jtDec_same _ (hg) _ _ (hl) (hs) (S17.box (w2.heap.size, (hg), .slice a2 (hl).length c2, (hl), (hs)) (by simp)).2.2.2.1 (S17.box (w6.heap.size, (hg), .slice a6 (hl).length c6, (hl), (hs)) (by simp)).2.2.2.1).mono ?_
            rintro e w18 ⟨rfl, k18⟩
            have S18 := S17.later k18
            clear cX0 cX1 cX2 zX
            clear cHi0 cHi1 cHi2 zHi
            clear k18 S17
            go_wp2
            go_ret
            exact ⟨rfl, S18.below⟩
      case false =>
        obtain ⟨g1, g2⟩ := h5 hp
        subst hp
        simp only [Prod.mk.injEq] at g1
        obtain ⟨e1, e2, e3⟩ := g1
        obtain rfl := e1.symm
        obtain rfl := e2.symm
        obtain rfl := e3.symm
        clear e1 e2 e3
        simp only [Prod.mk.injEq] at g2
        obtain ⟨e1, e2, e3⟩ := g2
        obtain rfl := e1.symm
        obtain rfl := e2.symm
        obtain rfl := e3.symm
        clear e1 e2 e3
        obtain ⟨cDn0, cDn1, cDn2, -, zDn⟩ := S14.box (w7.heap.size, (lg), .slice a7 (ll).length c7, (ll), (ls)) (by simp)
        obtain ⟨cLo0, cLo1, cLo2, -, zLo⟩ := S14.box (w5.heap.size, (lg), .slice a5 (ll).length c5, (ll), (ls)) (by simp)
        go_wp2_with fail
        refine (jtDec_same _ (lg) _ _ (ll) (ls) (S14.box (w7.heap.size, (lg), .slice a7 (ll).length c7, (ll), (ls)) (by simp)).2.2.2.1 (S14.box (w5.heap.size, (lg), .slice a5 (ll).length c5, (ll), (ls)) (by simp)).2.2.2.1).mono ?_
        rintro e w15 ⟨rfl, k15⟩
        have S15 := S14.later k15
        clear cA0 cA1 cA2 zA
        clear cDn0 cDn1 cDn2 zDn
        clear cLo0 cLo1 cLo2 zLo
        clear k15 S14
        obtain ⟨cUp0, cUp1, cUp2, -, zUp⟩ := S15.box (w8.heap.size, (hg), .slice a8 (hl).length c8, (hl), (hs)) (by simp)
        obtain ⟨cHi0, cHi1, cHi2, -, zHi⟩ := S15.box (w6.heap.size, (hg), .slice a6 (hl).length c6, (hl), (hs)) (by simp)
        go_wp2_with fail
        refine (jtDec_same _ (hg) _ _ (hl) (hs) (S15.box (w8.heap.size, (hg), .slice a8 (hl).length c8, (hl), (hs)) (by simp)).2.2.2.1 (S15.box (w6.heap.size, (hg), .slice a6 (hl).length c6, (hl), (hs)) (by simp)).2.2.2.1).mono ?_
        rintro e w16 ⟨rfl, k16⟩
        have S16 := S15.later k16
        clear cUp0 cUp1 cUp2 zUp
        clear cHi0 cHi1 cHi2 zHi
        clear k16 S15
        rcases h6 with h6 | h6
        case inl =>
          simp only [Prod.mk.injEq] at h6
          obtain ⟨e1, e2, e3⟩ := h6
          obtain rfl := e1.symm
          obtain rfl := e2.symm
          obtain rfl := e3.symm
          clear e1 e2 e3
          obtain ⟨cX0, cX1, cX2, -, zX⟩ := S16.box (w2.heap.size, (lg), .slice a2 (ll).length c2, (ll), (ls)) (by simp)
          obtain ⟨cLo0, cLo1, cLo2, -, zLo⟩ := S16.box (w5.heap.size, (lg), .slice a5 (ll).length c5, (ll), (ls)) (by simp)
          go_wp2_with fail
          refine (jtDec_same _ (lg) _ _ (ll) (ls) (S16.box (w2.heap.size, (lg), .slice a2 (ll).length c2, (ll), (ls)) (by simp)).2.2.2.1 (S16.box (w5.heap.size, (lg), .slice a5 (ll).length c5, (ll), (ls)) (by simp)).2.2.2.1).mono ?_
          rintro e w17 ⟨rfl, k17⟩
          have S17 := S16.later k17
          clear cX0 cX1 cX2 zX
          clear cLo0 cLo1 cLo2 zLo
          clear k17 S16
          go_wp2
          go_ret
          exact ⟨rfl, S17.below⟩
        case inr =>
          simp only [Prod.mk.injEq] at h6
          obtain ⟨e1, e2, e3⟩ := h6
          obtain rfl := e1.symm
          obtain rfl := e2.symm
          obtain rfl := e3.symm
          clear e1 e2 e3
          obtain ⟨cX0, cX1, cX2, -, zX⟩ := S16.box (w2.heap.size, (hg), .slice a2 (hl).length c2, (hl), (hs)) (by simp)
          obtain ⟨cLo0, cLo1, cLo2, -, zLo⟩ := S16.box (w5.heap.size, (lg), .slice a5 (ll).length c5, (ll), (ls)) (by simp)
          go_wp2_with fail
          refine (jtDec_any _ (hg) (lg) _ _ (hl) (ll) (hs) (ls) (S16.box (w2.heap.size, (hg), .slice a2 (hl).length c2, (hl), (hs)) (by simp)).2.2.2.1 (S16.box (w5.heap.size, (lg), .slice a5 (ll).length c5, (ll), (ls)) (by simp)).2.2.2.1).mono ?_
          rintro e w17 ⟨⟨b, rfl⟩, k17⟩
          have S17 := S16.later k17
          clear cX0 cX1 cX2 zX
          clear cLo0 cLo1 cLo2 zLo
          clear k17 S16
          obtain ⟨cX0, cX1, cX2, -, zX⟩ := S17.box (w2.heap.size, (hg), .slice a2 (hl).length c2, (hl), (hs)) (by simp)
          obtain ⟨cHi0, cHi1, cHi2, -, zHi⟩ := S17.box (w6.heap.size, (hg), .slice a6 (hl).length c6, (hl), (hs)) (by simp)
          cases b
          case true =>
            go_wp2
            go_ret
            exact ⟨rfl, S17.below⟩
          case false =>
            go_wp2_with fail
            refine (jtDec_same _ (hg) _ _ (hl) (hs) (S17.box (w2.heap.size, (hg), .slice a2 (hl).length c2, (hl), (hs)) (by simp)).2.2.2.1 (S17.box (w6.heap.size, (hg), .slice a6 (hl).length c6, (hl), (hs)) (by simp)).2.2.2.1).mono ?_
            rintro e w18 ⟨rfl, k18⟩
            have S18 := S17.later k18
            clear cX0 cX1 cX2 zX
            clear cHi0 cHi1 cHi2 zHi
            clear k18 S17
            go_wp2
            go_ret
            exact ⟨rfl, S18.below⟩

end Go.Proofs.YthnkmjkgcnhlfaaGreatDoor
