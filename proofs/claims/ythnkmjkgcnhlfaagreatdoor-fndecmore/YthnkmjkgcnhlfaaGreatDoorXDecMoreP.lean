/- The law FnDecMore: its walk. -/
import Derived.Test.YthnkmjkgcnhlfaaGreatDoorNumC
import Derived.Test.YthnkmjkgcnhlfaaGreatDoorH08
import Derived.Test.YthnkmjkgcnhlfaaGreatDoorByt1
import Derived.Test.YthnkmjkgcnhlfaaGreatDoorDSt
namespace Go.Proofs.YthnkmjkgcnhlfaaGreatDoor
open Go.RowKit
set_option linter.unusedSimpArgs false
set_option maxRecDepth 100000

theorem dround_bad {p : Bool} {l : List Int} {s t mode : Int} (h : ¬ (decB p l s = true ∧ (0 ≤ t ∧ t ≤ 12) ∧ (1 ≤ mode ∧ mode ≤ 7))) : (droundR p l s t mode).2.2.2 = 1 := by
  unfold droundR
  rw [if_neg h]

theorem more_cmp {z s t : Int} (h : decB (sg z) (L z.natAbs) s = true) (hx : decB (sg (z * ((10 ^ (t - s).toNat : Nat) : Int))) (L (z * ((10 ^ (t - s).toNat : Nat) : Int)).natAbs) t = true) (hst : s ≤ t) :
    dcmpR (sg (z * ((10 ^ (t - s).toNat : Nat) : Int))) (L (z * ((10 ^ (t - s).toNat : Nat) : Int)).natAbs) t (sg z) (L z.natAbs) s = 0 := by
  rw [dcmp_z hx h, show (s - t).toNat = 0 by omega, Nat.pow_zero, show ((1 : Nat) : Int) = 1 from rfl, Int.mul_one]
  exact cmpZ_eq rfl

set_option maxHeartbeats 4000000 in
theorem xDecMoreP_walk (w : World) (u : Value) (hu : Byt w u) (tt : Tab w) (hd : Hd w) :
    Calls Tryz.prog 11 #[u] w fun e w' => e = .returned (.bool true) ∧ Below w.heap.size w w' := by
  have C0 := hide (drawDecRound_any w u hu)
  obtain ⟨ao, N, cap, rfl, hn⟩ := byt_len hu
  clear hu
  by_cases hl : (1048576 : Int) < N
  · have t0 : decide ((1048576 : Int) < N) = true := by simpa using hl
    go_enter Tryz.func11, Tryz.ntmps11
    go_wp2
    go_ret
    exact ⟨rfl, Below.refl _ _⟩
  have t0 : decide ((1048576 : Int) < N) = false := by simpa using hl
  go_enter Tryz.func11, Tryz.ntmps11
  go_wp2_with fail
  refine (unhide C0).mono ?_
  rintro e w1 ⟨p, l, sc, t, mode, aa, ca, rfl, hll, oa, b1⟩
  have S1 := (DS.start b1).add p (.slice aa l.length ca) l sc oa.reads
  simp only [List.nil_append] at S1
  clear C0 b1 oa
  obtain ⟨og, ol, os, on, hO⟩ : ∃ og ol os on, droundR p l sc t mode = (og, ol, os, on) := ⟨_, _, _, _, rfl⟩
  have CI := hide (fun W v (hr : Reads W v l) (k : Below w.heap.size w W) => implDecRound_any W p v l sc t mode hr (tt.later k) (hd.later k))
  have CS := hide (fun W v (hr : Reads W v l) => specDecRound_any W p v l sc t mode hr)
  rw [hO] at CI CS
  have HO := hide (show ∀ (h0 : on = 0) (hst : sc ≤ t), ∃ z x : Int, p = sg z ∧ l = L z.natAbs ∧ og = sg x ∧ ol = L x.natAbs ∧ os = t ∧ droundR (sg x) (L x.natAbs) t sc mode = (sg z, L z.natAbs, sc, 0) ∧ dcmpR (sg x) (L x.natAbs) t (sg z) (L z.natAbs) sc = 0 from fun h0 hst => by
    by_cases hg : decB p l sc = true ∧ (0 ≤ t ∧ t ≤ 12) ∧ (1 ≤ mode ∧ mode ≤ 7)
    · obtain ⟨hb, ht, hm⟩ := hg
      obtain ⟨z, rfl, rfl, -⟩ := dec_z hb
      obtain ⟨m1, m2, m3⟩ := more_back hb hst ht.2 hm hm (by rw [hO]; exact h0)
      rw [hO] at m1
      simp only [Prod.mk.injEq] at m1
      obtain ⟨rfl, rfl, rfl, -⟩ := m1
      exact ⟨z, _, rfl, rfl, rfl, rfl, rfl, m3, more_cmp hb m2 hst⟩
    · have := dround_bad hg
      rw [hO] at this
      simp only at this
      omega)
  clear hO
  go_wp2_with fail
  refine (unhide CI _ _ (S1.box (w1.heap.size, p, .slice aa l.length ca, l, sc) (by simp)).2.2.2.1 S1.below).mono ?_
  rintro e w2 ⟨a2, c2, rfl, o2, k2⟩
  simp only at o2 ⊢
  have R2 := S1.later k2
  have S2 := R2.add (og) (.slice a2 (ol).length c2) (ol) (os) o2.reads
  simp only [List.nil_append, List.cons_append, World.size_alloc] at S2
  clear k2 o2 S1
  obtain ⟨cA0, cA1, cA2, -, zA⟩ := R2.box (w1.heap.size, p, .slice aa l.length ca, l, sc) (by simp)
  go_wp2_with fail
  refine (unhide CS _ _ (S2.box (w1.heap.size, p, .slice aa l.length ca, l, sc) (by simp)).2.2.2.1).mono ?_
  rintro e w3 ⟨a3, c3, rfl, o3, k3⟩
  simp only at o3 ⊢
  have R3 := S2.later k3
  have S3 := R3.add (og) (.slice a3 (ol).length c3) (ol) (os) o3.reads
  simp only [List.nil_append, List.cons_append, World.size_alloc] at S3
  clear cA0 cA1 cA2 zA
  clear k3 o3 S2 R2
  have hnn : (on != on) = false := by simp
  have hnn2 : (on == on) = true := by simp
  clear CI CS
  obtain ⟨cX0, cX1, cX2, -, zX⟩ := R3.box (w2.heap.size, (og), .slice a2 (ol).length c2, (ol), (os)) (by simp)
  go_wp2_with fail
  refine (jtDec_same _ (og) _ _ (ol) (os) (S3.box (w2.heap.size, (og), .slice a2 (ol).length c2, (ol), (os)) (by simp)).2.2.2.1 (S3.box (w3.heap.size, (og), .slice a3 (ol).length c3, (ol), (os)) (by simp)).2.2.2.1).mono ?_
  rintro e w4 ⟨rfl, k4⟩
  have S4 := S3.later k4
  clear cX0 cX1 cX2 zX
  clear k4 S3 R3
  by_cases h0 : on = 0
  case neg =>
    have hn0 : (on != 0) = true := by simpa using h0
    clear h0 HO
    obtain ⟨cX0, cX1, cX2, -, zX⟩ := S4.box (w2.heap.size, (og), .slice a2 (ol).length c2, (ol), (os)) (by simp)
    obtain ⟨cY0, cY1, cY2, -, zY⟩ := S4.box (w3.heap.size, (og), .slice a3 (ol).length c3, (ol), (os)) (by simp)
    go_wp2_with fail
    refine (jtDec_same _ (og) _ _ (ol) (os) (S4.box (w2.heap.size, (og), .slice a2 (ol).length c2, (ol), (os)) (by simp)).2.2.2.1 (S4.box (w3.heap.size, (og), .slice a3 (ol).length c3, (ol), (os)) (by simp)).2.2.2.1).mono ?_
    rintro e w5 ⟨rfl, k5⟩
    have S5 := S4.later k5
    clear cX0 cX1 cX2 zX
    clear cY0 cY1 cY2 zY
    clear k5 S4
    go_wp2
    go_ret
    exact ⟨rfl, S5.below⟩
  subst h0
  obtain ⟨cA0, cA1, cA2, -, zA⟩ := S4.box (w1.heap.size, p, .slice aa l.length ca, l, sc) (by simp)
  by_cases hst : t < sc
  case pos =>
    have hst2 : decide (t < sc) = true := by simpa using hst
    clear HO hst
    obtain ⟨cX0, cX1, cX2, -, zX⟩ := S4.box (w2.heap.size, (og), .slice a2 (ol).length c2, (ol), (os)) (by simp)
    obtain ⟨cY0, cY1, cY2, -, zY⟩ := S4.box (w3.heap.size, (og), .slice a3 (ol).length c3, (ol), (os)) (by simp)
    go_wp2_with fail
    refine (jtDec_same _ (og) _ _ (ol) (os) (S4.box (w2.heap.size, (og), .slice a2 (ol).length c2, (ol), (os)) (by simp)).2.2.2.1 (S4.box (w3.heap.size, (og), .slice a3 (ol).length c3, (ol), (os)) (by simp)).2.2.2.1).mono ?_
    rintro e w5 ⟨rfl, k5⟩
    have S5 := S4.later k5
    clear cA0 cA1 cA2 zA
    clear cX0 cX1 cX2 zX
    clear cY0 cY1 cY2 zY
    clear k5 S4
    go_wp2
    go_ret
    exact ⟨rfl, S5.below⟩
  have hst2 : decide (t < sc) = false := by simpa using hst
  obtain ⟨z, x, rfl, rfl, rfl, rfl, rfl, hy, hc⟩ := unhide HO rfl (by omega)
  have CR := hide (fun W v (hr : Reads W v (L x.natAbs)) (k : Below w.heap.size w W) => implDecRound_any W (sg x) v (L x.natAbs) os sc mode hr (tt.later k) (hd.later k))
  have CC := hide (fun W a b (ra : Reads W a (L x.natAbs)) (rb : Reads W b (L z.natAbs)) (k : Below w.heap.size w W) => implDecCmp_any W (sg x) (sg z) a b (L x.natAbs) (L z.natAbs) os sc ra rb (tt.later k))
  rw [hy] at CR
  rw [hc] at CC
  clear HO hy hc hst
  generalize sg x = og at *
  generalize L x.natAbs = ol at *
  generalize sg z = p at *
  generalize L z.natAbs = l at *
  obtain ⟨cX0, cX1, cX2, -, zX⟩ := S4.box (w2.heap.size, (og), .slice a2 (ol).length c2, (ol), (os)) (by simp)
  go_wp2_with fail
  refine (unhide CR _ _ (S4.box (w2.heap.size, (og), .slice a2 (ol).length c2, (ol), (os)) (by simp)).2.2.2.1 S4.below).mono ?_
  rintro e w5 ⟨a5, c5, rfl, o5, k5⟩
  simp only at o5 ⊢
  have R5 := S4.later k5
  have S5 := R5.add (p) (.slice a5 (l).length c5) (l) (sc) o5.reads
  simp only [List.nil_append, List.cons_append, World.size_alloc] at S5
  clear cA0 cA1 cA2 zA
  clear cX0 cX1 cX2 zX
  clear k5 o5 S4
  obtain ⟨cX0, cX1, cX2, -, zX⟩ := R5.box (w2.heap.size, (og), .slice a2 (ol).length c2, (ol), (os)) (by simp)
  obtain ⟨cA0, cA1, cA2, -, zA⟩ := R5.box (w1.heap.size, p, .slice aa l.length ca, l, sc) (by simp)
  go_wp2_with fail
  refine (unhide CC _ _ _ (S5.box (w2.heap.size, (og), .slice a2 (ol).length c2, (ol), (os)) (by simp)).2.2.2.1 (S5.box (w1.heap.size, p, .slice aa l.length ca, l, sc) (by simp)).2.2.2.1 S5.below).mono ?_
  rintro e w6 ⟨rfl, k6⟩
  have S6 := S5.later k6
  clear cX0 cX1 cX2 zX
  clear cA0 cA1 cA2 zA
  clear k6 S5 R5
  obtain ⟨cZ0, cZ1, cZ2, -, zZ⟩ := S6.box (w5.heap.size, (p), .slice a5 (l).length c5, (l), (sc)) (by simp)
  obtain ⟨cA0, cA1, cA2, -, zA⟩ := S6.box (w1.heap.size, p, .slice aa l.length ca, l, sc) (by simp)
  go_wp2_with fail
  refine (jtDec_same _ (p) _ _ (l) (sc) (S6.box (w5.heap.size, (p), .slice a5 (l).length c5, (l), (sc)) (by simp)).2.2.2.1 (S6.box (w1.heap.size, p, .slice aa l.length ca, l, sc) (by simp)).2.2.2.1).mono ?_
  rintro e w7 ⟨rfl, k7⟩
  have S7 := S6.later k7
  clear cZ0 cZ1 cZ2 zZ
  clear cA0 cA1 cA2 zA
  clear k7 S6
  go_wp2
  go_ret
  exact ⟨rfl, S7.below⟩

end Go.Proofs.YthnkmjkgcnhlfaaGreatDoor
