/- A number as a big one: BigOf of the specification, by a contract. Drawn decimals: l14Dec by a contract. -/
import Derived.Test.YthnkmjkgcnhlfaaGreatDoorH04
import Derived.Test.YthnkmjkgcnhlfaaGreatDoorH01
import Derived.Test.YthnkmjkgcnhlfaaGreatDoorH05
import Derived.Test.YthnkmjkgcnhlfaaGreatDoorH02
namespace Go.Proofs.YthnkmjkgcnhlfaaGreatDoor
open Go.RowKit



theorem of_step {N : List Int} {rest : Int} {out : List Int} (h : N = out ++ L rest.natAbs) (h0 : rest ≠ 0) : N = (out ++ [((rest.natAbs % 10000 : Nat) : Int)]) ++ L (rest.natAbs / 10000) := by
  rw [h, L_pos (by omega)]
  simp

theorem tdiv_abs (rest : Int) : (rest.tdiv 10000).natAbs = rest.natAbs / 10000 := by
  rw [Int.natAbs_tdiv]
  rfl

theorem tmod_neg' {x : Int} (h : x < 0) : x.tmod 10000 = -((-x) % 10000) := by
  rw [show x.tmod 10000 = -((-x).tmod 10000) by rw [Int.neg_tmod]; simp, Int.tmod_eq_emod_of_nonneg (by omega)]

theorem tdiv_neg' {x : Int} (h : x < 0) : x.tdiv 10000 = -((-x) / 10000) := by
  rw [show x.tdiv 10000 = -((-x).tdiv 10000) by rw [Int.neg_tdiv]; simp, Int.tdiv_eq_ediv_of_nonneg (by omega)]

/-- What BigOf answers. -/
def ofR (n : Int) : Bool × List Int := (sg n, L n.natAbs)

set_option maxRecDepth 100000 in
theorem specBigOf_any (w : World) (n : Int) (hw1 : -9223372036854775808 ≤ n) (hw2 : n ≤ 9223372036854775807) :
    Calls Tryz.prog 67 #[.int .i64 n] w (GivesBig w (ofR n).1 (ofR n).2) := by
  have K0 : EBox' w (w.alloc (.cells #[.bool false, .slice none 0 0] 25)) := EBox'.start w
  have O0 := own_empty (B := w.heap.size + 1) (w.alloc (.cells #[.bool false, .slice none 0 0] 25)) (by simp)
  simp only [World.size_alloc] at O0
  show Calls Tryz.prog _ _ _ (GivesBig w (sg n) (L n.natAbs))
  have hN : n.natAbs < 10000 ^ 5 := by
    have : (10000 : Nat) ^ 5 = 100000000000000000000 := by rfl
    omega
  have hlen := L_len_le hN
  go_enter Tryz.func67, Tryz.ntmps67
  go_wp2
  go_loopw [3, 4, 5] (fun s rr _ wr => ∃ (rest : Int) (out : List Int), rr = .int .i64 rest ∧ -9223372036854775808 ≤ rest ∧ rest ≤ 9223372036854775807 ∧ L n.natAbs = out ++ L rest.natAbs ∧ Own (w.heap.size + 1) wr s out ∧ EBox' w wr ∧ w.heap.size + 1 ≤ wr.heap.size)
    (fun _ rr _ _ => (intOf rr).natAbs)
  case atStart => exact ⟨n, [], rfl, hw1, hw2, rfl, O0, K0.later1 ((Below.refl (w.heap.size + 1) _).alloc (by simp) _), by simp⟩
  case round =>
    obtain ⟨rest, out, rfl, hr1, hr2, hL, hown, hbox, hsz⟩ := hrel
    have HL := hide hL
    have hol : out.length ≤ 8000000 := by
      have := congrArg List.length hL
      rw [List.length_append] at this
      omega
    clear hL
    have HO := hide hown
    obtain ⟨ao, capo, rfl⟩ := hown.shape
    have shape := hown.split
    clear hown
    by_cases h0 : rest = 0
    · subst h0
      have e := unhide HL
      simp only [Int.natAbs_zero, L_zero, List.append_nil] at e
      rw [← e] at HO ⊢
      have hz : n = zof (decide (n < 0)) n.natAbs := by unfold zof; by_cases h : n < 0 <;> simp [h] <;> omega
      clear e HL shape hz O0
      obtain ⟨kb, kr0, kr1, kf0, kf1, kl⟩ := id hbox
      go_wp2
      refine bodyPost_ret (v := .agg #[.bool (sg n), .slice ao (L n.natAbs).length capo]) (by simp [results, Tryz.results67, go_sem, kr0, kr1, sg]) rfl ?_
      exact ⟨ao, capo, rfl, (((unhide HO).setBelow (by simp) _).setBelow (by simp) _).mono (by simp), (kb.setCell (by simp) _).setCell (by simp) _⟩
    · have h0' : (rest != 0) = true := by simpa using h0
      have hR := hide (of_step (unhide HL) h0)
      by_cases hp : 0 ≤ rest
      · rcases shape with ⟨e1, hz⟩ | ⟨g, capo', e1, hBg, hgs, hcapo, hmo⟩
        all_goals
          simp only [Value.slice.injEq] at e1
          obtain ⟨rfl, hz2, rfl⟩ := e1
          clear hz2
          (try (clear hz))
          go_wp2_with (at_builtin; refine wpList_push rfl _ _ 23 rfl Tryz.underlying23 (w.heap.size + 1) _ out _ (unhide HO) rfl rfl hol hsz ?_; intro g1 cap1 w1 hown1 hb1 hc1 hm1 hBg1 hgs1)
          go_roundw
          case rel => exact ⟨rest / 10000, _, rfl, by omega, by omega, by rw [show (rest / 10000).natAbs = rest.natAbs / 10000 by omega, unhide hR, show ((rest.natAbs % 10000 : Nat) : Int) = rest % 10000 by omega], hown1, hbox.later1 hb1, Nat.le_trans hsz hb1.size⟩
          case measure => simp only [intOf]; omega
      · have hneg : rest < 0 := by omega
        have et := tmod_neg' hneg
        have ed := tdiv_neg' hneg
        obtain ⟨r, hr⟩ : ∃ r, r = (-rest) % 10000 := ⟨_, rfl⟩
        obtain ⟨q, hq⟩ : ∃ q, q = (-rest) / 10000 := ⟨_, rfl⟩
        rw [← hr] at et
        rw [← hq] at ed
        have hr0 : 0 ≤ r := by omega
        have hr3 : r < 10000 := by omega
        have er : ((rest.natAbs % 10000 : Nat) : Int) = r := by omega
        have eq : (-q).natAbs = rest.natAbs / 10000 := by omega
        have hm : (-q).natAbs < rest.natAbs := by omega
        have hq1 : -9223372036854775808 ≤ -q := by omega
        have hq2 : -q ≤ 9223372036854775807 := by omega
        have ER := hide er
        have EQ := hide eq
        have HM := hide hm
        clear hr hq er eq hm
        rcases shape with ⟨e1, hz⟩ | ⟨g, capo', e1, hBg, hgs, hcapo, hmo⟩
        all_goals
          simp only [Value.slice.injEq] at e1
          obtain ⟨rfl, hz2, rfl⟩ := e1
          clear hz2
          (try (clear hz))
          go_wp2_with (at_builtin; refine wpList_push rfl _ _ 23 rfl Tryz.underlying23 (w.heap.size + 1) _ out _ (unhide HO) rfl rfl hol hsz ?_; intro g1 cap1 w1 hown1 hb1 hc1 hm1 hBg1 hgs1)
          all_goals
            have hown2 : Own (w.heap.size + 1) w1 (.slice (some ⟨g1, 0, none⟩) (out.length + 1) cap1) (out ++ [r]) := by
              first
                | exact hown1
                | have e : -r = r := by omega
                  rw [e] at hown1
                  exact hown1
            go_roundw
            case rel => exact ⟨-q, _, rfl, hq1, hq2, by rw [unhide EQ, unhide hR, unhide ER], hown2, hbox.later1 hb1, Nat.le_trans hsz hb1.size⟩
            case measure => exact unhide HM

end Go.Proofs.YthnkmjkgcnhlfaaGreatDoor

namespace Go.Proofs.YthnkmjkgcnhlfaaGreatDoor
open Go.RowKit
set_option maxRecDepth 100000

/-- The place for a decimal, made first, while the reader goes on. -/
structure EDR (w W : World) (R : Nat) : Prop where
  grown : w.grownBy W (some R)
  c0 : W.cell? ⟨w.heap.size, 0, none⟩ = some (.bool false)
  c1 : W.cell? ⟨w.heap.size, 1, none⟩ = some (.slice none 0 0)
  c2 : W.cell? ⟨w.heap.size, 2, none⟩ = some (.int .i64 0)
  f0 : W.frozen? ⟨w.heap.size, 0, none⟩ = false
  f1 : W.frozen? ⟨w.heap.size, 1, none⟩ = false
  f2 : W.frozen? ⟨w.heap.size, 2, none⟩ = false
  lt : w.heap.size < W.heap.size
  hR : R < w.heap.size

theorem EDR.start {w : World} {R : Nat} (h : R < w.heap.size) : EDR w (w.alloc (.cells #[.bool false, .slice none 0 0, .int .i64 0] 27)) R :=
  ⟨grown_alloc _ _ _, by go_simp, by go_simp, by go_simp, by go_simp, by go_simp, by go_simp, by simp, h⟩

theorem EDR.later {w0 w w' : World} {R : Nat} (h : EDR w0 w R) (g : w.grownBy w' (some R)) : EDR w0 w' R := by
  have hR := h.hR
  have hb := g.block w0.heap.size h.lt (by simp; omega)
  exact ⟨grown_trans h.grown g, (World.cell?_of_block (w := w) (a := ⟨w0.heap.size, 0, none⟩) hb).trans h.c0, (World.cell?_of_block (w := w) (a := ⟨w0.heap.size, 1, none⟩) hb).trans h.c1, (World.cell?_of_block (w := w) (a := ⟨w0.heap.size, 2, none⟩) hb).trans h.c2,
    (World.frozen?_of_block (w := w) (a := ⟨w0.heap.size, 0, none⟩) hb).trans h.f0, (World.frozen?_of_block (w := w) (a := ⟨w0.heap.size, 1, none⟩) hb).trans h.f1, (World.frozen?_of_block (w := w) (a := ⟨w0.heap.size, 2, none⟩) hb).trans h.f2, Nat.lt_of_lt_of_le h.lt g.size, hR⟩

/-- What a drawing call answers that hands out a decimal that is ok but for its figures. -/
def DrawsDec (w : World) (R p k : Nat) (e : Ending) (w' : World) : Prop :=
  ∃ (z : Int) (sc : Nat) (ao : Option Addr) (cap q : Nat), e = .returned (.agg #[.bool (sg z), .slice ao (L z.natAbs).length cap, .int .i64 sc]) ∧ (L z.natAbs).length ≤ 16 ∧ sc ≤ 12 ∧ Own w.heap.size w' (.slice ao (L z.natAbs).length cap) (L z.natAbs) ∧ RD w' R q ∧ q ≤ p + k ∧ w.grownBy w' (some R)

theorem EDR.gives {w W : World} {R p q k : Nat} {z : Int} {sc : Nat} {ao : Option Addr} {cap : Nat} (h : EDR w W R) (hz : (L z.natAbs).length ≤ 16) (hs : sc ≤ 12) (o : Own (w.heap.size + 1) W (.slice ao (L z.natAbs).length cap) (L z.natAbs)) (r : RD W R q) (hq : q ≤ p + k) :
    DrawsDec w R p k (.returned (.agg #[.bool (sg z), .slice ao (L z.natAbs).length cap, .int .i64 sc])) (((W.setCell ⟨w.heap.size, 0, none⟩ (.bool (sg z))).setCell ⟨w.heap.size, 1, none⟩ (.slice ao (L z.natAbs).length cap)).setCell ⟨w.heap.size, 2, none⟩ (.int .i64 sc)) := by
  have hR := h.hR
  exact ⟨z, sc, ao, cap, q, rfl, hz, hs, (((o.setBelow (by simp) _).setBelow (by simp) _).setBelow (by simp) _).mono (by omega), ((r.set (by exact hR) _).set (by exact hR) _).set (by exact hR) _, hq, grown_set (grown_set (grown_set h.grown (by exact Nat.le_refl _) _) (by exact Nat.le_refl _) _) (by exact Nat.le_refl _) _⟩

theorem of_small {n : Int} (h : -10000 ≤ n ∧ n ≤ 10000) : (L n.natAbs).length ≤ 16 := L_len_le (Nat.lt_of_lt_of_le (show n.natAbs < 10000 ^ 2 by omega) (Nat.pow_le_pow_right (by decide) (by decide)))

set_option maxHeartbeats 2000000 in
theorem l14Dec_any (w : World) (R p : Nat) (hr : RD w R p) (hp : p ≤ 80000) :
    Calls Tryz.prog 81 #[.pointer (some ⟨R, 0, none⟩)] w (DrawsDec w R p 210) := by
  have hR := hr.lt
  have K0 : EDR w _ R := EDR.start hR
  have r0 := hr.alloc (.cells #[.bool false, .slice none 0 0, .int .i64 0] 27)
  have C1 := hide (pick_any _ R p 13 r0 (by omega) (by omega) (by omega))
  clear r0 hr
  go_enter Tryz.func81, Tryz.ntmps81
  go_wp2_with fail
  refine (unhide C1).mono ?_
  rintro e w1 ⟨x, rfl, hx, r1, g1⟩
  have K1 := K0.later g1
  have C2 := hide (one_lit w1 R (p + 1) [0, 0, 1, 2, 2, 3, 6, 12, (x : Int)] _ rfl r1 (by omega) (by simp) (by simp))
  clear C1 K0 r1 g1
  go_wp2_with fail
  refine (unhide C2).mono ?_
  rintro e w2 ⟨sc0, rfl, hsc, r2, g2⟩
  have K2 := K1.later g2
  obtain ⟨sc, rfl, hs12⟩ : ∃ sc : Nat, sc0 = sc ∧ sc ≤ 12 := by
    simp only [List.mem_cons, List.not_mem_nil, or_false] at hsc
    exact ⟨sc0.toNat, by omega, by omega⟩
  have C3 := hide (pick_any _ R (p + 1 + 1) 5 r2 (by omega) (by omega) (by omega))
  clear C2 K1 r2 g2 hsc
  go_wp2_with fail
  refine (unhide C3).mono ?_
  rintro e w3 ⟨y, rfl, hy, r3, g3⟩
  have K3 := K2.later g3
  obtain ⟨-, kc0, kc1, kc2, kf0, kf1, kf2, kl, -⟩ := id K3
  clear C3 K2 g3
  by_cases y0 : y = 0
  · subst y0
    have C4 := hide (pick_any _ R (p + 1 + 1 + 1) 200 r3 (by omega) (by omega) (by omega))
    go_wp2_with fail
    refine (unhide C4).mono ?_
    rintro e w4 ⟨u, rfl, hu, r4, g4⟩
    have K4 := K3.later g4
    have C5 := hide (fun (n : Int) (hn : n = (u : Int) - 100) => (by subst hn; exact specBigOf_any w4 ((u : Int) - 100) (by omega) (by omega) : Calls Tryz.prog 67 #[.int .i64 n] w4 (GivesBig w4 (ofR ((u : Int) - 100)).1 (ofR ((u : Int) - 100)).2)))
    have HZ := hide (show IntKind.i64.wrap ((u : Int) - 100) = (u : Int) - 100 by rw [IntKind.wrap_i64]; omega)
    clear kc0 kc1 kc2 kf0 kf1 kf2 kl
    go_wp2_with fail
    refine (unhide C5 _ (by first | with_reducible rfl | with_reducible exact unhide HZ)).mono ?_
    rintro e w5 ⟨ao, cap, rfl, o5, b5⟩
    have K5 := K4.later (grown_below b5)
    have r5 := r4.later b5
    have hk4 := K4.lt
    obtain ⟨-, kc0, kc1, kc2, kf0, kf1, kf2, kl, -⟩ := id K5
    have o5' : Own (w.heap.size + 1) w5 (.slice ao (L ((u : Int) - 100).natAbs).length cap) (L ((u : Int) - 100).natAbs) := o5.mono (by omega)
    have hz := of_small (n := (u : Int) - 100) (by omega)
    have E := hide (show (ofR ((u : Int) - 100)) = (sg ((u : Int) - 100), L ((u : Int) - 100).natAbs) from rfl)
    clear C4 C5 K3 K4 g4 r4 b5 o5
    simp only [ofR]
    generalize (u : Int) - 100 = z at *
    go_wp2
    refine bodyPost_ret (v := .agg #[.bool (sg z), .slice ao (L z.natAbs).length cap, .int .i64 sc]) (by simp [results, Tryz.results81, go_sem, kc0, kc1, kc2]) rfl ?_
    exact K5.gives hz hs12 o5' r5 (by omega)
  by_cases y1 : y = 1
  · subst y1
    have C4 := hide (one_lit w3 R (p + 1 + 1 + 1) [5, 15, 25, 35, 45, -5, -15, -25, 50, 150, 250, 499, 500, 501, -500, 1500, 2500, -2500, 1000, 20] _ rfl r3 (by omega) (by simp) (by simp))
    go_wp2_with fail
    refine (unhide C4).mono ?_
    rintro e w4 ⟨z, rfl, hzm, r4, g4⟩
    have hzb : -10000 ≤ z ∧ z ≤ 10000 := by
      simp only [List.mem_cons, List.not_mem_nil, or_false] at hzm
      omega
    have K4 := K3.later g4
    have C5 := hide (specBigOf_any w4 z (by omega) (by omega))
    clear kc0 kc1 kc2 kf0 kf1 kf2 kl hzm
    go_wp2_with fail
    refine (unhide C5).mono ?_
    rintro e w5 ⟨ao, cap, rfl, o5, b5⟩
    have K5 := K4.later (grown_below b5)
    have r5 := r4.later b5
    have hk4 := K4.lt
    obtain ⟨-, kc0, kc1, kc2, kf0, kf1, kf2, kl, -⟩ := id K5
    have o5' : Own (w.heap.size + 1) w5 (.slice ao (L z.natAbs).length cap) (L z.natAbs) := o5.mono (by omega)
    have hz := of_small hzb
    clear C4 C5 K3 K4 g4 r4 b5 o5
    simp only [ofR]
    go_wp2
    refine bodyPost_ret (v := .agg #[.bool (sg z), .slice ao (L z.natAbs).length cap, .int .i64 sc]) (by simp [results, Tryz.results81, go_sem, kc0, kc1, kc2]) rfl ?_
    exact K5.gives hz hs12 o5' r5 (by omega)
  have big : ∀ most : Nat, 1 ≤ most → most ≤ 64 → Calls Tryz.prog 61 #[.pointer (some ⟨R, 0, none⟩), .int .i64 most] w3 (Draws w3 R (p + 1 + 1 + 1) 200) := fun most h1 h2 => l14Big_any w3 R _ most r3 (by omega) h1 h2
  have HB := hide big
  have hk3 := K3.lt
  clear big
  by_cases y2 : y = 2
  · subst y2
    clear y0 y1
    go_wp2_with fail
    refine (unhide HB 8 (by omega) (by omega)).mono ?_
    rintro e w5 ⟨z, ao, cap, q, rfl, hz, o5, r5, hq, g5⟩
    have K5 := K3.later g5
    have o5' : Own (w.heap.size + 1) w5 _ (L z.natAbs) := o5.mono (by omega)
    clear kc0 kc1 kc2 kf0 kf1 kf2 kl HB K3 r3 g5 o5
    obtain ⟨-, kc0, kc1, kc2, kf0, kf1, kf2, kl, -⟩ := id K5
    go_wp2
    refine bodyPost_ret (v := .agg #[.bool (sg z), .slice ao (L z.natAbs).length cap, .int .i64 sc]) (by simp [results, Tryz.results81, go_sem, kc0, kc1, kc2]) rfl ?_
    exact K5.gives hz hs12 o5' r5 (by omega)
  · have y0' : ((y : Int) == 0) = false := by rw [beq_eq_false_iff_ne]; omega
    have y1' : ((y : Int) == 1) = false := by rw [beq_eq_false_iff_ne]; omega
    have y2' : ((y : Int) == 2) = false := by rw [beq_eq_false_iff_ne]; omega
    go_wp2_with fail
    refine (unhide HB 30 (by omega) (by omega)).mono ?_
    rintro e w5 ⟨z, ao, cap, q, rfl, hz, o5, r5, hq, g5⟩
    have K5 := K3.later g5
    have o5' : Own (w.heap.size + 1) w5 _ (L z.natAbs) := o5.mono (by omega)
    clear kc0 kc1 kc2 kf0 kf1 kf2 kl HB K3 r3 g5 o5
    obtain ⟨-, kc0, kc1, kc2, kf0, kf1, kf2, kl, -⟩ := id K5
    go_wp2
    refine bodyPost_ret (v := .agg #[.bool (sg z), .slice ao (L z.natAbs).length cap, .int .i64 sc]) (by simp [results, Tryz.results81, go_sem, kc0, kc1, kc2]) rfl ?_
    exact K5.gives hz hs12 o5' r5 (by omega)

end Go.Proofs.YthnkmjkgcnhlfaaGreatDoor
