/- The law FnDecDiv: its walk. -/
import Derived.Test.YthnkmjkgcnhlfaaGreatDoorM4
import Derived.Test.YthnkmjkgcnhlfaaGreatDoorM0
import Derived.Test.YthnkmjkgcnhlfaaGreatDoorK01
import Derived.Test.YthnkmjkgcnhlfaaGreatDoorH08
import Derived.Test.YthnkmjkgcnhlfaaGreatDoorK02
namespace Go.Proofs.YthnkmjkgcnhlfaaGreatDoor
open Go.RowKit
set_option linter.unusedSimpArgs false
set_option maxRecDepth 100000

theorem mul_gives {W : World} {a b : Int} (ha : (L a.natAbs).length ≤ 16) (hb : (L b.natAbs).length ≤ 16) (hc : (L (a * b).natAbs).length ≤ 16) {u v : Value} (hu : Reads W u (L a.natAbs)) (hv : Reads W v (L b.natAbs)) :
    Calls Tryz.prog 32 #[.agg #[.bool (sg a), u], .agg #[.bool (sg b), v]] W (GivesBig2 W (sg (a * b), L (a * b).natAbs, true)) := by
  have := implMul_z ha hb hu hv
  rcases out_cases (a * b) with ⟨h, -⟩ | h
  · rwa [h] at this
  · unfold outR at h
    simp [hc] at h

theorem sub_gives {W : World} {a b : Int} (ha : (L a.natAbs).length ≤ 16) (hb : (L b.natAbs).length ≤ 16) (hc : (L (a - b).natAbs).length ≤ 16) {u v : Value} (hu : Reads W u (L a.natAbs)) (hv : Reads W v (L b.natAbs)) :
    Calls Tryz.prog 33 #[.agg #[.bool (sg a), u], .agg #[.bool (sg b), v]] W (GivesBig2 W (sg (a - b), L (a - b).natAbs, true)) := by
  have := implSub_z ha hb hu hv
  rcases out_cases (a - b) with ⟨h, -⟩ | h
  · rwa [h] at this
  · unfold outR at h
    simp [hc] at h

theorem add_gives {W : World} {a b : Int} (ha : (L a.natAbs).length ≤ 16) (hb : (L b.natAbs).length ≤ 16) (hc : (L (a + b).natAbs).length ≤ 16) {u v : Value} (hu : Reads W u (L a.natAbs)) (hv : Reads W v (L b.natAbs)) :
    Calls Tryz.prog 34 #[.agg #[.bool (sg a), u], .agg #[.bool (sg b), v]] W (GivesBig2 W (sg (a + b), L (a + b).natAbs, true)) := by
  have := implAdd_z ha hb hu hv
  rcases out_cases (a + b) with ⟨h, -⟩ | h
  · rwa [h] at this
  · unfold outR at h
    simp [hc] at h

theorem twice_gives {W : World} {n : Nat} (ha : (L n).length ≤ 16) (hc : (L (n + n)).length ≤ 16) {u v : Value} (hu : Reads W u (L n)) (hv : Reads W v (L n)) :
    Calls Tryz.prog 34 #[.agg #[.bool false, u], .agg #[.bool false, v]] W (GivesBig2 W (false, L (n + n), true)) := by
  have h := add_gives (W := W) (a := (n : Int)) (b := (n : Int)) (by rwa [Int.natAbs_natCast]) (by rwa [Int.natAbs_natCast]) (by rw [← Int.natCast_add, Int.natAbs_natCast]; exact hc) (by rw [Int.natAbs_natCast]; exact hu) (by rw [Int.natAbs_natCast]; exact hv)
  rwa [← Int.natCast_add, Int.natAbs_natCast, sg_nat10, sg_nat10] at h

theorem ten_gives (W : World) {n : Int} {k : Nat} (h : 0 ≤ n ∧ n ≤ 63) (hk : k = 10 ^ n.toNat) : Calls Tryz.prog 31 #[.int .i64 n] W (GivesBig2 W (false, L k, true)) := by
  have := implBigTen_any W n
  obtain ⟨m, rfl⟩ := Int.eq_ofNat_of_zero_le h.1
  unfold tenR at this
  rw [if_pos (by omega)] at this
  rw [hk]
  simpa using this

set_option maxHeartbeats 40000000 in
theorem xDecDivP_walk (w : World) (u : Value) (hu : Byt w u) (tt : Tab w) (hd : Hd w) :
    Calls Tryz.prog 7 #[u] w fun e w' => e = .returned (.bool true) ∧ Below w.heap.size w w' := by
  have C0 := hide (drawDecDiv_any w u hu)
  obtain ⟨ao, N, cap, rfl, hn⟩ := byt_len hu
  clear hu
  by_cases hl : (1048576 : Int) < N
  · have t0 : decide ((1048576 : Int) < N) = true := by simpa using hl
    go_enter Tryz.func7, Tryz.ntmps7
    go_wp2
    go_ret
    exact ⟨rfl, Below.refl _ _⟩
  have t0 : decide ((1048576 : Int) < N) = false := by simpa using hl
  go_enter Tryz.func7, Tryz.ntmps7
  go_wp2_with fail
  refine (unhide C0).mono ?_
  rintro e w1 ⟨p, q, l, m, s, t, sc, md, aa, ca, ab, cb, rfl, oa, ob, b1⟩
  have Sd1 := ((DS.start b1).add p (.slice aa l.length ca) l s oa.reads).add q (.slice ab m.length cb) m t (ob.reads.alloc _)
  simp only [List.nil_append, List.cons_append, World.size_alloc] at Sd1
  have Sp1 : PS w _ [] := PS.start Sd1.below
  clear C0 b1 oa ob
  obtain ⟨og, ol, os, on, hO⟩ : ∃ og ol os on, ddivR p l s q m t sc md = (og, ol, os, on) := ⟨_, _, _, _, rfl⟩
  have CI := hide (fun W u v (hu : Reads W u l) (hv : Reads W v m) (k : Below w.heap.size w W) => implDecDiv_any W p q u v l m s t sc md hu hv (tt.later k) (hd.later k))
  have CS := hide (fun W u v (hu : Reads W u l) (hv : Reads W v m) => specDecDiv_any W p q u v l m s t sc md hu hv)
  rw [hO] at CI CS
  have HO := hide (show on = 0 → _ from fun h => div_law (by rw [hO, h] : ddivR p l s q m t sc md = (og, ol, os, 0)))
  clear hO
  go_wp2_with fail
  refine (unhide CI _ _ _ (Sd1.box (w1.heap.size, p, .slice aa l.length ca, l, s) (by simp)).2.2.2.1 (Sd1.box (w1.heap.size + 1, q, .slice ab m.length cb, m, t) (by simp)).2.2.2.1 Sd1.below).mono ?_
  rintro e w2 ⟨a2, c2, rfl, o2, k2⟩
  simp only at o2 ⊢
  have Rd2 := Sd1.later k2
  have Rp2 := Sp1.later k2
  have Sd2 := Rd2.add (og) (.slice a2 (ol).length c2) (ol) (os) o2.reads
  have Sp2 := Rp2.later ((Below.refl _ _).alloc (Nat.le_refl _) (.cells #[.bool (og), .slice a2 (ol).length c2, .int .i64 (os)] 27))
  simp only [List.nil_append, List.cons_append, World.size_alloc] at Sd2
  clear k2 Sd1 Sp1
  obtain ⟨cA0, cA1, cA2, -, zA⟩ := Rd2.box (w1.heap.size, p, .slice aa l.length ca, l, s) (by simp)
  obtain ⟨cB0, cB1, cB2, -, zB⟩ := Rd2.box (w1.heap.size + 1, q, .slice ab m.length cb, m, t) (by simp)
  go_wp2_with fail
  refine (unhide CS _ _ _ (Sd2.box (w1.heap.size, p, .slice aa l.length ca, l, s) (by simp)).2.2.2.1 (Sd2.box (w1.heap.size + 1, q, .slice ab m.length cb, m, t) (by simp)).2.2.2.1).mono ?_
  rintro e w3 ⟨a3, c3, rfl, o3, k3⟩
  simp only at o3 ⊢
  have Rd3 := Sd2.later k3
  have Rp3 := Sp2.later k3
  have Sd3 := Rd3.add (og) (.slice a3 (ol).length c3) (ol) (os) o3.reads
  have Sp3 := Rp3.later ((Below.refl _ _).alloc (Nat.le_refl _) (.cells #[.bool (og), .slice a3 (ol).length c3, .int .i64 (os)] 27))
  simp only [List.nil_append, List.cons_append, World.size_alloc] at Sd3
  clear cA0 cA1 cA2 zA
  clear cB0 cB1 cB2 zB
  clear k3 Sd2 Sp2 Rd2 Rp2
  have hnn : (on != on) = false := by simp
  have hnn2 : (on == on) = true := by simp
  clear CI CS
  obtain ⟨cQ0, cQ1, cQ2, -, zQ⟩ := Rd3.box (w2.heap.size, (og), .slice a2 (ol).length c2, (ol), (os)) (by simp)
  go_wp2_with fail
  refine (jtDec_same _ (og) _ _ (ol) (os) (Sd3.box (w2.heap.size, (og), .slice a2 (ol).length c2, (ol), (os)) (by simp)).2.2.2.1 (Sd3.box (w3.heap.size, (og), .slice a3 (ol).length c3, (ol), (os)) (by simp)).2.2.2.1).mono ?_
  rintro e w4 ⟨rfl, k4⟩
  clear cQ0 cQ1 cQ2 zQ
  have Rd4 := Sd3.later k4
  have Rp4 := Sp3.later k4
  have Sd4 := Rd4
  have Sp4 := Rp4
  clear k4 Sd3 Sp3 Rd3 Rp3
  by_cases h0 : on = 0
  case neg =>
    have hn0 : (on != 0) = true := by simpa using h0
    clear h0 HO
    obtain ⟨cQ0, cQ1, cQ2, -, zQ⟩ := Rd4.box (w2.heap.size, (og), .slice a2 (ol).length c2, (ol), (os)) (by simp)
    obtain ⟨cW0, cW1, cW2, -, zW⟩ := Rd4.box (w3.heap.size, (og), .slice a3 (ol).length c3, (ol), (os)) (by simp)
    go_wp2_with fail
    refine (jtDec_same _ (og) _ _ (ol) (os) (Sd4.box (w2.heap.size, (og), .slice a2 (ol).length c2, (ol), (os)) (by simp)).2.2.2.1 (Sd4.box (w3.heap.size, (og), .slice a3 (ol).length c3, (ol), (os)) (by simp)).2.2.2.1).mono ?_
    rintro e w5 ⟨rfl, k5⟩
    clear cQ0 cQ1 cQ2 zQ
    clear cW0 cW1 cW2 zW
    have Rd5 := Sd4.later k5
    have Rp5 := Sp4.later k5
    have Sd5 := Rd5
    have Sp5 := Rp5
    clear k5 Sd4 Sp4 Rd4 Rp4
    go_wp2
    go_ret
    exact ⟨rfl, Sd5.below⟩
  subst h0
  obtain ⟨rfl, hs, ht, hsc, a, b, x, U, V, hU, hV, rfl, rfl, rfl, rfl, rfl, rfl, la, lb, lx, lU, lV, l5, l6, l7, l9, l8, l10, hc1, hc2⟩ := unhide HO rfl
  clear HO
  have hw : IntKind.i64.wrap (os + t) = os + t := by rw [IntKind.wrap_i64]; omega
  have C3 := hide (fun W => ten_gives W (n := os + t) (k := U) (by omega) hU)
  have C4 := hide (fun W => ten_gives W (n := s) (k := V) (by omega) hV)
  have lU2 : (L (U : Int).natAbs).length ≤ 16 := by rw [Int.natAbs_natCast]; exact lU
  have lV2 : (L (V : Int).natAbs).length ≤ 16 := by rw [Int.natAbs_natCast]; exact lV
  have C5 := fun W u v (hu : Reads W u (L a.natAbs)) (hv : Reads W v (L U)) => mul_gives (W := W) (a := a) (b := (U : Int)) la lU2 l5 hu (by rw [Int.natAbs_natCast]; exact hv)
  have C6 := fun W u v (hu : Reads W u (L x.natAbs)) (hv : Reads W v (L b.natAbs)) => mul_gives (W := W) (a := x) (b := b) lx lb l6 hu hv
  have C7 := fun W u v (hu : Reads W u (L (x * b).natAbs)) (hv : Reads W v (L V)) => mul_gives (W := W) (a := x * b) (b := (V : Int)) l6 lV2 l7 hu (by rw [Int.natAbs_natCast]; exact hv)
  have C8 := fun W u v (hu : Reads W u (L (a * (U : Int)).natAbs)) (hv : Reads W v (L (x * b * (V : Int)).natAbs)) => sub_gives (W := W) (a := a * (U : Int)) (b := x * b * (V : Int)) l5 l7 l8 hu hv
  have C9 := fun W u v (hu : Reads W u (L b.natAbs)) (hv : Reads W v (L V)) => mul_gives (W := W) (a := b) (b := (V : Int)) lb lV2 l9 hu (by rw [Int.natAbs_natCast]; exact hv)
  have C10 := fun W u v (hu : Reads W u (L (a * (U : Int) - x * b * (V : Int)).natAbs)) (hv : Reads W v (L (a * (U : Int) - x * b * (V : Int)).natAbs)) => twice_gives (W := W) (n := (a * (U : Int) - x * b * (V : Int)).natAbs) l8 l10 hu hv
  rw [sg_nat10] at C5 C7 C9
  have CP := fun W u v (hu : Reads W u (L (a * (U : Int) - x * b * (V : Int)).natAbs)) (hv : Reads W v (L (b * (V : Int)).natAbs)) => implBigCmp_any W false false u v _ _ hu hv
  rw [hc1] at CP
  have CT : 5 ≤ md → ∃ c : Int, c ≠ 1 ∧ ∀ W u v (hu : Reads W u (L ((a * (U : Int) - x * b * (V : Int)).natAbs + (a * (U : Int) - x * b * (V : Int)).natAbs))) (hv : Reads W v (L (b * (V : Int)).natAbs)), Calls Tryz.prog 35 #[.agg #[.bool false, u], .agg #[.bool false, v]] W fun e w' => e = .returned (.int .i64 c) ∧ Below W.heap.size W w' := fun h => by
    obtain ⟨c, e, hc⟩ := hc2 h
    refine ⟨c, hc, fun W u v hu hv => ?_⟩
    have := implBigCmp_any W false false u v _ _ hu hv
    rwa [e] at this
  clear hU hV la lb lx lU lV l5 l6 l7 l9 l8 l10 hc1 hc2 lU2 lV2 hs ht hsc
  generalize L ((a * (U : Int) - x * b * (V : Int)).natAbs + (a * (U : Int) - x * b * (V : Int)).natAbs) = lT at *
  generalize sg (a * (U : Int) - x * b * (V : Int)) = gO at *
  generalize L (a * (U : Int) - x * b * (V : Int)).natAbs = lO at *
  generalize sg (x * b * (V : Int)) = gD at *
  generalize L (x * b * (V : Int)).natAbs = lD at *
  generalize sg (b * (V : Int)) = gS at *
  generalize L (b * (V : Int)).natAbs = lS at *
  generalize sg (x * b) = gY at *
  generalize L (x * b).natAbs = lY at *
  generalize sg (a * (U : Int)) = gU at *
  generalize L (a * (U : Int)).natAbs = lP at *
  generalize sg a = p at *
  generalize L a.natAbs = l at *
  generalize sg b = q at *
  generalize L b.natAbs = m at *
  generalize sg x = og at *
  generalize L x.natAbs = ol at *
  generalize L U = lU at *
  generalize L V = lV at *
  have C5 := hide C5
  have C6 := hide C6
  have C7 := hide C7
  have C8 := hide C8
  have C9 := hide C9
  have C10 := hide C10
  have CP := hide CP
  have CT := hide CT
  obtain ⟨cB0, cB1, cB2, -, zB⟩ := Rd4.box (w1.heap.size + 1, q, .slice ab m.length cb, m, t) (by simp)
  go_wp2_with fail
  refine (unhide C3 _).mono ?_
  rintro e w5 ⟨a5, c5, rfl, o5, k5⟩
  simp only at o5 ⊢
  have Rd5 := Sd4.later k5
  have Rp5 := Sp4.later k5
  have Sp5 := Rp5.add (false) (.slice a5 (lU).length c5) (lU) o5.reads
  have Sd5 := Rd5.later ((Below.refl _ _).alloc (Nat.le_refl _) (.cells #[.bool (false), .slice a5 (lU).length c5] 25))
  simp only [List.nil_append, List.cons_append, World.size_alloc] at Sp5
  clear cB0 cB1 cB2 zB
  clear k5 Sd4 Sp4 Rd4 Rp4
  obtain ⟨cA0, cA1, cA2, -, zA⟩ := Rd5.box (w1.heap.size, p, .slice aa l.length ca, l, s) (by simp)
  go_wp2_with fail
  refine (unhide C4 _).mono ?_
  rintro e w6 ⟨a6, c6, rfl, o6, k6⟩
  simp only at o6 ⊢
  have Rd6 := Sd5.later k6
  have Rp6 := Sp5.later k6
  have Sp6 := Rp6.add (false) (.slice a6 (lV).length c6) (lV) o6.reads
  have Sd6 := Rd6.later ((Below.refl _ _).alloc (Nat.le_refl _) (.cells #[.bool (false), .slice a6 (lV).length c6] 25))
  simp only [List.nil_append, List.cons_append, World.size_alloc] at Sp6
  clear cA0 cA1 cA2 zA
  clear k6 Sd5 Sp5 Rd5 Rp5
  obtain ⟨cA0, cA1, cA2, -, zA⟩ := Rd6.box (w1.heap.size, p, .slice aa l.length ca, l, s) (by simp)
  obtain ⟨cTe0, cTe1, -, zTe⟩ := Rp6.box (w5.heap.size, (false), .slice a5 (lU).length c5, (lU)) (by simp)
  go_wp2_with fail
  refine (unhide C5 _ _ _ (Sd6.box (w1.heap.size, p, .slice aa l.length ca, l, s) (by simp)).2.2.2.1 (Sp6.box (w5.heap.size, (false), .slice a5 (lU).length c5, (lU)) (by simp)).2.2.1).mono ?_
  rintro e w7 ⟨a7, c7, rfl, o7, k7⟩
  simp only at o7 ⊢
  have Rd7 := Sd6.later k7
  have Rp7 := Sp6.later k7
  have Sp7 := Rp7.add (gU) (.slice a7 (lP).length c7) (lP) o7.reads
  have Sd7 := Rd7.later ((Below.refl _ _).alloc (Nat.le_refl _) (.cells #[.bool (gU), .slice a7 (lP).length c7] 25))
  simp only [List.nil_append, List.cons_append, World.size_alloc] at Sp7
  clear cA0 cA1 cA2 zA
  clear cTe0 cTe1 zTe
  clear k7 Sd6 Sp6 Rd6 Rp6
  obtain ⟨cQ0, cQ1, cQ2, -, zQ⟩ := Rd7.box (w2.heap.size, (og), .slice a2 (ol).length c2, (ol), (os)) (by simp)
  obtain ⟨cB0, cB1, cB2, -, zB⟩ := Rd7.box (w1.heap.size + 1, q, .slice ab m.length cb, m, t) (by simp)
  go_wp2_with fail
  refine (unhide C6 _ _ _ (Sd7.box (w2.heap.size, (og), .slice a2 (ol).length c2, (ol), (os)) (by simp)).2.2.2.1 (Sd7.box (w1.heap.size + 1, q, .slice ab m.length cb, m, t) (by simp)).2.2.2.1).mono ?_
  rintro e w8 ⟨a8, c8, rfl, o8, k8⟩
  simp only at o8 ⊢
  have Rd8 := Sd7.later k8
  have Rp8 := Sp7.later k8
  have Sp8 := Rp8.add (gY) (.slice a8 (lY).length c8) (lY) o8.reads
  have Sd8 := Rd8.later ((Below.refl _ _).alloc (Nat.le_refl _) (.cells #[.bool (gY), .slice a8 (lY).length c8] 25))
  simp only [List.nil_append, List.cons_append, World.size_alloc] at Sp8
  clear cQ0 cQ1 cQ2 zQ
  clear cB0 cB1 cB2 zB
  clear k8 Sd7 Sp7 Rd7 Rp7
  obtain ⟨cOw0, cOw1, -, zOw⟩ := Rp8.box (w6.heap.size, (false), .slice a6 (lV).length c6, (lV)) (by simp)
  go_wp2_with fail
  refine (unhide C7 _ _ _ (Sp8.box (w8.heap.size, (gY), .slice a8 (lY).length c8, (lY)) (by simp)).2.2.1 (Sp8.box (w6.heap.size, (false), .slice a6 (lV).length c6, (lV)) (by simp)).2.2.1).mono ?_
  rintro e w9 ⟨a9, c9, rfl, o9, k9⟩
  simp only at o9 ⊢
  have Rd9 := Sd8.later k9
  have Rp9 := Sp8.later k9
  have Sp9 := Rp9.add (gD) (.slice a9 (lD).length c9) (lD) o9.reads
  have Sd9 := Rd9.later ((Below.refl _ _).alloc (Nat.le_refl _) (.cells #[.bool (gD), .slice a9 (lD).length c9] 25))
  simp only [List.nil_append, List.cons_append, World.size_alloc] at Sp9
  clear cOw0 cOw1 zOw
  clear k9 Sd8 Sp8 Rd8 Rp8
  obtain ⟨cUp0, cUp1, -, zUp⟩ := Rp9.box (w7.heap.size, (gU), .slice a7 (lP).length c7, (lP)) (by simp)
  go_wp2_with fail
  refine (unhide C8 _ _ _ (Sp9.box (w7.heap.size, (gU), .slice a7 (lP).length c7, (lP)) (by simp)).2.2.1 (Sp9.box (w9.heap.size, (gD), .slice a9 (lD).length c9, (lD)) (by simp)).2.2.1).mono ?_
  rintro e w10 ⟨a10, c10, rfl, o10, k10⟩
  simp only at o10 ⊢
  have Rd10 := Sd9.later k10
  have Rp10 := Sp9.later k10
  have Sp10 := Rp10.add (gO) (.slice a10 (lO).length c10) (lO) o10.reads
  have Sd10 := Rd10.later ((Below.refl _ _).alloc (Nat.le_refl _) (.cells #[.bool (gO), .slice a10 (lO).length c10] 25))
  simp only [List.nil_append, List.cons_append, World.size_alloc] at Sp10
  clear cUp0 cUp1 zUp
  clear k10 Sd9 Sp9 Rd9 Rp9
  have hQ10 := (Rd10.box (w2.heap.size, (og), .slice a2 (ol).length c2, (ol), (os)) (by simp)).2.2.2.2
  have hw10 := Rd10.below.size
  have FD : (w10.alloc (.cells #[.bool (gO), .slice a10 (lO).length c10] 25)).frozen? ⟨w10.heap.size, 0, none⟩ = false := by simp
  have hsz : (w10.alloc (.cells #[.bool (gO), .slice a10 (lO).length c10] 25)).heap.size = w10.heap.size + 1 := World.size_alloc _ _
  obtain ⟨cB0, cB1, cB2, -, zB⟩ := Rd10.box (w1.heap.size + 1, q, .slice ab m.length cb, m, t) (by simp)
  obtain ⟨cOw0, cOw1, -, zOw⟩ := Rp10.box (w6.heap.size, (false), .slice a6 (lV).length c6, (lV)) (by simp)
  go_wp2_with fail
  refine (unhide C9 _ _ _ (Sd10.box (w1.heap.size + 1, q, .slice ab m.length cb, m, t) (by simp)).2.2.2.1 (Sp10.box (w6.heap.size, (false), .slice a6 (lV).length c6, (lV)) (by simp)).2.2.1).mono ?_
  rintro e w11 ⟨a11, c11, rfl, o11, k11⟩
  simp only at o11 ⊢
  have Rd11 := Sd10.later k11
  have Rp11 := Sp10.later k11
  have Sp11 := Rp11.add (gS) (.slice a11 (lS).length c11) (lS) o11.reads
  have Sd11 := Rd11.later ((Below.refl _ _).alloc (Nat.le_refl _) (.cells #[.bool (gS), .slice a11 (lS).length c11] 25))
  simp only [List.nil_append, List.cons_append, World.size_alloc] at Sp11
  clear cB0 cB1 cB2 zB
  clear cOw0 cOw1 zOw
  have fD : w11.frozen? ⟨w10.heap.size, 0, none⟩ = false := (k11.frozen (p := ⟨w10.heap.size, 0, none⟩) (by rw [hsz]; exact Nat.lt_succ_self _)).trans FD
  have K11 := hide k11
  have z11 := k11.size
  clear k11 Sd10 Sp10 Rd10 Rp10
  clear C3 C4 C5 C6 C7 C8 C9
  obtain ⟨cOf0, cOf1, -, zOf⟩ := Rp11.box (w10.heap.size, (gO), .slice a10 (lO).length c10, (lO)) (by simp)
  obtain ⟨cQ0, cQ1, cQ2, -, zQ⟩ := Rd11.box (w2.heap.size, (og), .slice a2 (ol).length c2, (ol), (os)) (by simp)
  rw [hsz] at z11 o11
  have hne : ¬ (w2.heap.size = w10.heap.size) := by omega
  have hne2 : ¬ (w10.heap.size = w2.heap.size) := by omega
  have hw11 : w10.heap.size < w11.heap.size := by omega
  go_wp2_with fail
  have ro : Reads ((w11.setCell ⟨w10.heap.size, 0, none⟩ (.bool false)).alloc (.cells #[.bool false, .slice a11 (lS).length c11] 25)) (.slice a10 (lO).length c10) lO := (((o10.later ((Below.refl _ _).alloc (Nat.le_refl _) _)).later (unhide K11)).setOther (by intro e; have := (o10.lt _ e).2; simp only at this; omega) _).reads.alloc _
  have rs : Reads ((w11.setCell ⟨w10.heap.size, 0, none⟩ (.bool false)).alloc (.cells #[.bool false, .slice a11 (lS).length c11] 25)) (.slice a11 (lS).length c11) lS := (o11.setOther (by intro e; have := (o11.lt _ e).1; simp only at this; omega) _).reads.alloc _
  have e0 : ((w11.setCell ⟨w10.heap.size, 0, none⟩ (.bool false)).alloc (.cells #[.bool false, .slice a11 (lS).length c11] 25)).cell? ⟨w10.heap.size, 0, none⟩ = some (.bool false) := by go_simp
  have e1 : ((w11.setCell ⟨w10.heap.size, 0, none⟩ (.bool false)).alloc (.cells #[.bool false, .slice a11 (lS).length c11] 25)).cell? ⟨w10.heap.size, 1, none⟩ = some (.slice a10 (lO).length c10) := by go_simp
  have s0 : ((w11.setCell ⟨w10.heap.size, 0, none⟩ (.bool false)).alloc (.cells #[.bool false, .slice a11 (lS).length c11] 25)).cell? ⟨w11.heap.size, 0, none⟩ = some (.bool false) := by go_simp
  have s1 : ((w11.setCell ⟨w10.heap.size, 0, none⟩ (.bool false)).alloc (.cells #[.bool false, .slice a11 (lS).length c11] 25)).cell? ⟨w11.heap.size, 1, none⟩ = some (.slice a11 (lS).length c11) := by go_simp
  have q2 : ((w11.setCell ⟨w10.heap.size, 0, none⟩ (.bool false)).alloc (.cells #[.bool false, .slice a11 (lS).length c11] 25)).cell? ⟨w2.heap.size, 2, none⟩ = some (.int .i64 os) := by go_simp
  have PB : Below w.heap.size w ((w11.setCell ⟨w10.heap.size, 0, none⟩ (.bool false)).alloc (.cells #[.bool false, .slice a11 (lS).length c11] 25)) := (Rd11.below.setCell (by simp only; omega) _).alloc (by simp; omega) _
  have zz : w11.heap.size < ((w11.setCell ⟨w10.heap.size, 0, none⟩ (.bool false)).alloc (.cells #[.bool false, .slice a11 (lS).length c11] 25)).heap.size := by simp
  clear cOf0 cOf1 zOf
  clear cQ0 cQ1 cQ2 zQ
  clear Sd11 Sp11 Rd11 Rp11 o10 o11 K11 FD fD
  generalize ((w11.setCell ⟨w10.heap.size, 0, none⟩ (.bool false)).alloc (.cells #[.bool false, .slice a11 (lS).length c11] 25)) = H at *
  refine (unhide C10 _ _ _ ro ro).mono ?_
  rintro e w12 ⟨a12, c12, rfl, o12, k12⟩
  simp only at o12 ⊢
  have e0 := cell_later k12 e0
  have e1 := cell_later k12 e1
  have s0 := cell_later k12 s0
  have s1 := cell_later k12 s1
  have q2 := cell_later k12 q2
  have ro := ro.later k12
  have rs := rs.later k12
  have PB := PB.trans (k12.mono PB.size)
  have z12 : w11.heap.size < w12.heap.size := Nat.lt_of_lt_of_le zz k12.size
  have z10 : w10.heap.size < w12.heap.size := by omega
  have z2 : w2.heap.size < w12.heap.size := by omega
  have osn : (os == os) = true := by simp
  have BA : Below w12.heap.size w12 (w12.alloc (.cells #[.bool false, .slice a12 (lT).length c12] 25)) := (Below.refl _ _).alloc (Nat.le_refl _) _
  have rt := o12.reads.alloc (.cells #[.bool false, .slice a12 (lT).length c12] 25)
  clear k12 C10 o12 zz
  by_cases h5 : 5 ≤ md
  case neg =>
    have kk : decide (5 ≤ md) = false := by simpa using h5
    clear h5 CT
    go_wp2_with fail
    refine (unhide CP _ _ _ (ro.later BA) (rs.later BA)).mono ?_
    rintro e w14 ⟨rfl, k14⟩
    have q2 := cell_later k14 (cell_later BA q2)
    have z14 : w2.heap.size < w14.heap.size := Nat.lt_of_lt_of_le z2 (Nat.le_trans (BA).size k14.size)
    go_wp2
    go_ret
    exact ⟨rfl, PB.trans ((BA.trans (k14.mono (BA).size)).mono PB.size)⟩
  have kk : decide (5 ≤ md) = true := by simpa using h5
  obtain ⟨c, hc, CQ⟩ := unhide CT h5
  have hc2 : (c == 1) = false := by simpa using hc
  have CQ := hide CQ
  clear h5 CT hc
  go_wp2_with fail
  refine (unhide CQ _ _ _ rt (rs.later BA)).mono ?_
  rintro e w13 ⟨rfl, k13⟩
  have BA := BA.trans (k13.mono BA.size)
  have f0 := cell_later BA e0
  have f1 := cell_later BA e1
  have g0 := cell_later BA s0
  have g1 := cell_later BA s1
  clear CQ k13 rt
  go_wp2_with fail
  refine (unhide CP _ _ _ (ro.later BA) (rs.later BA)).mono ?_
  rintro e w14 ⟨rfl, k14⟩
  have q2 := cell_later k14 (cell_later BA q2)
  have z14 : w2.heap.size < w14.heap.size := Nat.lt_of_lt_of_le z2 (Nat.le_trans (BA).size k14.size)
  go_wp2
  go_ret
  exact ⟨rfl, PB.trans ((BA.trans (k14.mono (BA).size)).mono PB.size)⟩

end Go.Proofs.YthnkmjkgcnhlfaaGreatDoor
