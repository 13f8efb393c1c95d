/- A quotient rounded, by the specification: l2More and l2Div by contracts. A number at another scale: rescaled of the program, by a contract; ways to round. -/
import Derived.Test.YthnkmjkgcnhlfaaGreatDoorH19
import Derived.Test.YthnkmjkgcnhlfaaGreatDoorK04
import Derived.Test.YthnkmjkgcnhlfaaGreatDoorH16
import Derived.Test.YthnkmjkgcnhlfaaGreatDoorDcR
import Derived.Test.YthnkmjkgcnhlfaaGreatDoorOkA
namespace Go.Proofs.YthnkmjkgcnhlfaaGreatDoor
open Go.RowKit
set_option maxRecDepth 100000

theorem l2More_any (w : World) (mode : Int) (neg odd : Bool) (c : Int) (h1 : 1 ≤ mode) (h7 : mode ≤ 7) (hc : -1 ≤ c ∧ c ≤ 1) :
    Calls Tryz.prog 123 #[.int .i64 mode, .bool neg, .bool odd, .int .i64 c] w fun e w' => e = .returned (.bool (moreZ mode neg odd c)) ∧ w' = w := by
  have hm : mode = 1 ∨ mode = 2 ∨ mode = 3 ∨ mode = 4 ∨ mode = 5 ∨ mode = 6 ∨ mode = 7 := by omega
  have hc' : c = -1 ∨ c = 0 ∨ c = 1 := by omega
  clear h1 h7 hc
  rcases hm with rfl | rfl | rfl | rfl | rfl | rfl | rfl <;> rcases hc' with rfl | rfl | rfl
  all_goals
    go_enter Tryz.func123, Tryz.ntmps123
    go_wp2
    go_ret
    refine ⟨?_, rfl⟩
    simp [moreZ]

theorem qrd_zero {neg : Bool} {a b : Nat} {mode : Int} (h : a % b = 0) : qrd neg a b mode = a / b := by
  unfold qrd awayZ
  rw [h]
  simp

theorem qrd_more {neg : Bool} {a b : Nat} {mode : Int} (h : a % b ≠ 0) : qrd neg a b mode = a / b + (if moreZ mode neg (decide ((a / b) % 2 = 1)) (cmpZ (a % b + a % b : Nat) b) = true then 1 else 0) := by
  unfold qrd awayZ
  simp [h]

set_option maxHeartbeats 4000000 in
theorem l2Div_any (w : World) (neg : Bool) (u v : Value) (a b : Nat) (mode : Int) (hu : Reads w u (L a)) (hv : Reads w v (L b)) (hb0 : 0 < b) (ha : a < 10000 ^ 99) (hb : b < 10000 ^ 99) (h1 : 1 ≤ mode) (h7 : mode ≤ 7) :
    Calls Tryz.prog 99 #[.bool neg, u, v, .int .i64 mode] w (Gives w (L (qrd neg a b mode))) := by
  have up : (10000 : Nat) ^ 99 ≤ 10000 ^ 100 := Nat.pow_le_pow_right (by decide) (by decide)
  have CD := hide (fun W (h : Below w.heap.size w W) => l1DivAbs_any W _ _ a b (hu.later h) (hv.later h) hb0 (Nat.lt_of_lt_of_le ha up) (Nat.lt_of_lt_of_le hb up))
  have hR : a % b < 10000 ^ 99 := Nat.lt_trans (Nat.mod_lt _ hb0) hb
  have hQ : a / b < 10000 ^ 99 := Nat.lt_of_le_of_lt (Nat.div_le_self _ _) ha
  have up2 : (10000 : Nat) ^ 99 ≤ 10000 ^ 200 := Nat.pow_le_pow_right (by decide) (by decide)
  have CS := hide (fun W x (hx : Reads W x (L (a % b))) => l1AddAbs_any W x x (a % b) (a % b) hx hx (Nat.lt_of_lt_of_le hR up2) (Nat.lt_of_lt_of_le hR up2))
  have CC := hide (fun W x (h : Below w.heap.size w W) (hx : Reads W x (L (a % b + a % b))) => l1CmpAbs_any W x _ (a % b + a % b) b hx (hv.later h))
  have CP := hide (fun W x y (hx : Reads W x (L (a / b))) (hy : Reads W y (L 1)) => l1AddAbs_any W x y (a / b) 1 hx hy (Nat.lt_of_lt_of_le hQ up2) (Nat.one_lt_pow (by decide) (by decide)))
  have CM := hide (fun W o => l2More_any W mode neg o (cmpZ (a % b + a % b : Nat) b) h1 h7 (cmpZ_small _ _))
  have EZ := hide (fun h => qrd_zero (neg := neg) (a := a) (b := b) (mode := mode) h)
  have EM := hide (fun h => qrd_more (neg := neg) (a := a) (b := b) (mode := mode) h)
  have HL := hide (fun h => L_first (n := a / b) h)
  have HO : decide (a / b % 2 = 1) = decide (a / b % 10000 % 2 = 1) := decide_eq_decide.2 (by omega)
  rw [HO] at EM
  clear HO up up2 hR hQ ha hb hb0 hu
  generalize cmpZ (a % b + a % b : Nat) b = Z at *
  generalize qrd neg a b mode = N at *
  generalize a / b = Q at *
  generalize a % b = R at *
  obtain ⟨ao', b2, off', cap', rfl, hv0⟩ := id hv
  clear hv0
  go_enter Tryz.func99, Tryz.ntmps99
  go_wp2_with fail
  refine (unhide CD _ (Below.refl _ _)).mono ?_
  rintro e w1 ⟨qo, ro, qc, rc, B, rfl, hB, oq, orr, lr, b1⟩
  by_cases hR0 : R = 0
  · have e0 : (((L R).length : Int) == 0) = true := by rw [hR0, L_zero]; rfl
    have E := hide (unhide EZ hR0)
    clear hR0 EM EZ CS CC CP CM
    go_wp2
    go_ret
    rw [unhide E]
    exact ⟨qo, qc, rfl, oq.mono hB, b1⟩
  · have e0 : (((L R).length : Int) == 0) = false := by
      rw [beq_eq_false_iff_ne]
      have := mt L_len_zero.1 hR0
      omega
    have E := hide (unhide EM hR0)
    clear EM EZ hR0
    have RR := hide orr.reads
    by_cases hn : 0 < (L Q).length
    · rcases oq.split with ⟨e1, hz0⟩ | ⟨g, capo', e1, hBg, hgs, hcapo, hmo⟩
      · rw [hz0] at hn
        simp at hn
      · simp only [Value.slice.injEq] at e1
        obtain ⟨rfl, hz2, rfl⟩ := e1
        have c0 := oq.cellAt (i := 0) (by simpa using hn)
        have c0' : w1.cell? ⟨g, 0, none⟩ = some (.int .i64 ((Q % 10000 : Nat) : Int)) := c0.trans (by rw [unhide HL hn])
        clear c0 hz2 HL
        have hx : Q % 10000 < 10000 := Nat.mod_lt _ (by decide)
        generalize Q % 10000 = x at *
        obtain ⟨o, ho⟩ : ∃ o, decide (x % 2 = 1) = o := ⟨_, rfl⟩
        have t1 : (x : Int).tmod 2 = ((x % 2 : Nat) : Int) := by rw [Int.tmod_eq_emod_of_nonneg (by omega)]; rfl
        have o1 : (((x : Int).tmod 2) == 1) = o := by rw [t1, ← ho, Bool.eq_iff_iff]; simp; omega
        have o2 : (((x : Int) % 2) == 1) = o := by rw [← ho, Bool.eq_iff_iff]; simp; omega
        have hn' : decide ((0 : Int) < (L Q).length) = true := by simp; omega
        rw [ho] at E
        clear ho t1
        go_wp2_with fail
        refine (unhide CS _ _ (unhide RR)).mono ?_
        rintro e w2 ⟨as2, cs2, rfl, o2s, b2⟩
        go_wp2_with fail
        refine (unhide CC _ _ (b1.trans (b2.mono b1.size)) o2s.reads).mono ?_
        rintro e w3 ⟨rfl, b3⟩
        have oq3 := (oq.later b2).later b3
        have bw3 := (b1.trans (b2.mono b1.size)).trans (b3.mono (b1.trans (b2.mono b1.size)).size)
        go_wp2_with fail
        refine (unhide CM _ o).mono ?_
        rintro e w4 ⟨rfl, rfl⟩
        cases hA : moreZ mode neg o Z with
        | false =>
          have EN : N = Q := by rw [unhide E, hA]; simp
          clear hA E
          go_wp2
          go_ret
          rw [EN]
          exact ⟨_, _, rfl, oq3.mono hB, bw3⟩
        | true =>
          have EN : N = Q + 1 := by rw [unhide E, hA]; simp
          have HEN := hide EN
          have rt : Reads (w4.alloc (.cells #[.int .i64 1] 3)) (.slice (some ⟨w4.heap.size, 0, none⟩) 1 1) (L 1) := by rw [L1]; exact (own_one w4 1 (Nat.le_refl _)).reads
          have RT := hide rt
          have RQ2 := hide (oq3.reads.alloc (.cells #[.int .i64 1] 3))
          clear hA rt EN E
          go_wp2_with fail
          refine (unhide CP _ _ _ (unhide RQ2) (unhide RT)).mono ?_
          rintro e wp ⟨aP, cP, rfl, oP, bP⟩
          have hsz := bw3.size
          go_wp2
          go_ret
          rw [unhide HEN]
          exact ⟨_, _, rfl, oP.mono (by simp; omega), bw3.trans (((Below.refl _ _).alloc (Nat.le_refl _) _).trans (bP.mono (by simp)) |>.mono bw3.size)⟩
    · have hQ0 : Q = 0 := L_len_zero.1 (by have h0 : ¬ 0 < (L Q).length := hn; omega)
      have hn' : decide ((0 : Int) < (L Q).length) = false := decide_eq_false (by omega)
      have E2 := hide (show N = Q + (if moreZ mode neg false Z = true then 1 else 0) by rw [unhide E, hQ0]; simp)
      clear E HL hQ0
      go_wp2_with fail
      refine (unhide CS _ _ (unhide RR)).mono ?_
      rintro e w2 ⟨as2, cs2, rfl, o2s, b2⟩
      go_wp2_with fail
      refine (unhide CC _ _ (b1.trans (b2.mono b1.size)) o2s.reads).mono ?_
      rintro e w3 ⟨rfl, b3⟩
      have oq3 := (oq.later b2).later b3
      have bw3 := (b1.trans (b2.mono b1.size)).trans (b3.mono (b1.trans (b2.mono b1.size)).size)
      go_wp2_with fail
      refine (unhide CM _ false).mono ?_
      rintro e w4 ⟨rfl, rfl⟩
      cases hA : moreZ mode neg false Z with
      | false =>
        have EN : N = Q := by rw [unhide E2, hA]; simp
        clear hA E2
        go_wp2
        go_ret
        rw [EN]
        exact ⟨_, _, rfl, oq3.mono hB, bw3⟩
      | true =>
        have EN : N = Q + 1 := by rw [unhide E2, hA]; simp
        have HEN := hide EN
        have rt : Reads (w4.alloc (.cells #[.int .i64 1] 3)) (.slice (some ⟨w4.heap.size, 0, none⟩) 1 1) (L 1) := by rw [L1]; exact (own_one w4 1 (Nat.le_refl _)).reads
        have RT := hide rt
        have RQ2 := hide (oq3.reads.alloc (.cells #[.int .i64 1] 3))
        clear hA rt EN E2
        go_wp2_with fail
        refine (unhide CP _ _ _ (unhide RQ2) (unhide RT)).mono ?_
        rintro e wp ⟨aP, cP, rfl, oP, bP⟩
        have hsz := bw3.size
        go_wp2
        go_ret
        rw [unhide HEN]
        exact ⟨_, _, rfl, oP.mono (by simp; omega), bw3.trans (((Below.refl _ _).alloc (Nat.le_refl _) _).trans (bP.mono (by simp)) |>.mono bw3.size)⟩

end Go.Proofs.YthnkmjkgcnhlfaaGreatDoor

namespace Go.Proofs.YthnkmjkgcnhlfaaGreatDoor
open Go.RowKit
set_option maxRecDepth 100000

/-- A number through another one, rounded. -/
def resZ (X : Int) (b : Nat) (mode : Int) : Int := zof (sg X) (qrd (sg X) X.natAbs b mode)

theorem zof_sg_abs (X : Int) : zof (sg X) X.natAbs = X := by
  unfold zof sg
  by_cases h : X < 0 <;> simp [h] <;> omega

theorem resZ_one (X : Int) (mode : Int) : resZ X 1 mode = X := by
  unfold resZ
  rw [qrd_zero (Nat.mod_one _), Nat.div_one, zof_sg_abs]

theorem zof_abs2 (n : Bool) (N : Nat) : (zof n N).natAbs = N := by
  unfold zof
  split
  · exact (Int.natAbs_neg _).trans (Int.natAbs_natCast _)
  · exact Int.natAbs_natCast _

theorem resZ_abs (X : Int) (b : Nat) (mode : Int) : (resZ X b mode).natAbs ≤ X.natAbs + 1 := by
  unfold resZ
  rw [zof_abs2]
  exact qrd_le _ _ _ _

theorem modeOk_any (w : World) (m : Int) : Calls Tryz.prog 69 #[.int .i64 m] w fun e w' => e = .returned (.bool (decide (1 ≤ m ∧ m ≤ 7))) ∧ w' = w := by
  by_cases h : 1 ≤ m
  · by_cases k : m ≤ 7
    · rw [show decide (1 ≤ m ∧ m ≤ 7) = true by simp [h, k]]
      go_enter Tryz.func69, Tryz.ntmps69
      go_wp2
      go_ret
      exact ⟨rfl, rfl⟩
    · rw [show decide (1 ≤ m ∧ m ≤ 7) = false by simp [k]]
      go_enter Tryz.func69, Tryz.ntmps69
      go_wp2
      go_ret
      exact ⟨rfl, rfl⟩
  · rw [show decide (1 ≤ m ∧ m ≤ 7) = false by simp [h]]
    go_enter Tryz.func69, Tryz.ntmps69
    go_wp2
    go_ret
    exact ⟨rfl, rfl⟩

theorem l2Mode_any (w : World) (m : Int) : Calls Tryz.prog 72 #[.int .i64 m] w fun e w' => e = .returned (.bool (decide (1 ≤ m ∧ m ≤ 7))) ∧ w' = w := by
  have C := hide (fun W => l1In_any W m 1 7)
  generalize decide (1 ≤ m ∧ m ≤ 7) = Q at *
  go_enter Tryz.func72, Tryz.ntmps72
  go_wp2_with fail
  refine (unhide C _).mono ?_
  rintro e w1 ⟨rfl, rfl⟩
  go_wp2
  go_ret
  exact ⟨rfl, rfl⟩

/-- A number in its box, and the place for an answer. -/
structure Bx1 (w0 w' : World) (p : Bool) (u : Value) : Prop where
  below : Below w0.heap.size w0 w'
  a0 : w'.cell? ⟨w0.heap.size, 0, none⟩ = some (.bool p)
  a1 : w'.cell? ⟨w0.heap.size, 1, none⟩ = some u
  c0 : w'.cell? ⟨w0.heap.size + 1, 0, none⟩ = some (.bool false)
  c1 : w'.cell? ⟨w0.heap.size + 1, 1, none⟩ = some (.slice none 0 0)
  f0 : w'.frozen? ⟨w0.heap.size + 1, 0, none⟩ = false
  f1 : w'.frozen? ⟨w0.heap.size + 1, 1, none⟩ = false
  lt : w0.heap.size + 1 < w'.heap.size

theorem Bx1.later {w0 w w' : World} {p : Bool} {u : Value} (h : Bx1 w0 w p u) (k : Below w.heap.size w w') : Bx1 w0 w' p u :=
  ⟨h.below.trans (k.mono h.below.size), cell_later k h.a0, cell_later k h.a1, cell_later k h.c0, cell_later k h.c1, frozen_later k h.f0 h.lt, frozen_later k h.f1 h.lt, lt_later k h.lt⟩

theorem Bx1.start (w : World) (p : Bool) (u : Value) : Bx1 w ((w.alloc (.cells #[.bool p, u] 25)).alloc (.cells #[.bool false, .slice none 0 0] 25)) p u :=
  ⟨((Below.refl _ _).alloc (Nat.le_refl _) _).alloc (by simp) _, by go_simp, by go_simp, by go_simp, by go_simp, by go_simp, by go_simp, by simp⟩

theorem ten_pos (k : Nat) : 0 < 10 ^ k := Nat.pow_pos (by decide)

set_option maxHeartbeats 4000000 in
theorem rescaled_any (w : World) (p : Bool) (v : Value) (a : Nat) (f t mode : Int) (hr : Reads w v (L a)) (hf0 : 0 ≤ f) (hf : f ≤ 30) (ht0 : 0 ≤ t) (ht : t ≤ 30) (ha : a < 10000 ^ 40) (h1 : 1 ≤ mode) (h7 : mode ≤ 7) (z : Int) (hz : z = resZ (zof p (a * 10 ^ (t - f).toNat)) (10 ^ (f - t).toNat) mode) :
    Calls Tryz.prog 62 #[.agg #[.bool p, v], .int .i64 f, .int .i64 t, .int .i64 mode] w (GivesBig w (sg z) (L z.natAbs)) := by
  obtain ⟨X, hX⟩ : ∃ X, X = zof p (a * 10 ^ (t - f).toNat) := ⟨_, rfl⟩
  rw [← hX] at hz
  have bX : X.natAbs < 10000 ^ 99 := by
    rw [hX, zof_abs2]
    have h2 : 10 ^ (t - f).toNat < (10 ^ 4) ^ 50 := ten_lt (by omega)
    refine Nat.lt_of_lt_of_le (Nat.mul_lt_mul_of_lt_of_le ha (Nat.le_of_lt h2) (Nat.pow_pos (by decide))) ?_
    rw [show (10 : Nat) ^ 4 = 10000 from rfl, ← Nat.pow_add]
    exact Nat.pow_le_pow_right (by decide) (by decide)
  have bT : 10 ^ (f - t).toNat < 10000 ^ 99 := by
    have h2 : 10 ^ (f - t).toNat < (10 ^ 4) ^ 99 := ten_lt (by omega)
    exact h2
  have RA := hide (fun W (h : Below w.heap.size w W) (y : Int) (hy : y = t - f) => (by subst hy; exact raised_any W p v a _ (hr.later h) (by omega) (Nat.lt_of_lt_of_le ha (Nat.pow_le_pow_right (by decide) (by decide))) X hX : Calls Tryz.prog 47 #[.agg #[.bool p, v], .int .i64 y] W (GivesBig W (sg X) (L X.natAbs))))
  have hz2 : z = zof (sg X != false) (qrd (sg X != false) X.natAbs (10 ^ (f - t).toNat) mode) := by rw [hz]; unfold resZ; cases sg X <;> rfl
  have CQ := hide (fun W x y (hx : Reads W x (L X.natAbs)) (hy : Reads W y (L (10 ^ (f - t).toNat))) => roundedQuotient_any W (sg X) false x y X.natAbs (10 ^ (f - t).toNat) mode hx hy (ten_pos _) bX bT h1 h7 z hz2)
  have CT := hide (fun W (y : Int) (hy : y = ((f - t).toNat : Nat)) => tenLimbs_e W y (f - t).toNat hy (by omega))
  have HK2 : (if f - t < 0 then (0 : Int) else f - t) = (((f - t).toNat : Nat) : Int) := by split <;> omega
  have HZ1 := hide (show t - f = t - f from rfl)
  have HZ1' := hide (show IntKind.i64.wrap (t - f) = t - f by rw [IntKind.wrap_i64]; omega)
  generalize 10 ^ (f - t).toNat = T at *
  generalize (f - t).toNat = k at *
  clear hX hz hz2 bX bT ha
  obtain ⟨ao, b1, off, cap, rfl, hr0⟩ := hr
  clear hr0
  have K0 := Bx1.start w p (.slice ao (L a).length cap)
  go_enter Tryz.func62, Tryz.ntmps62
  go_wp2_with fail
  refine (unhide CT _ _ rfl).mono ?_
  rintro e w1 ⟨at1, ct1, rfl, ot1, bt1⟩
  have K1 := K0.later bt1
  have K2 := K1.later ((Below.refl _ _).alloc (Nat.le_refl _) (.cells #[.bool false, .slice at1 (L T).length ct1] 25))
  have rt2 := ot1.reads.alloc (.cells #[.bool false, .slice at1 (L T).length ct1] 25)
  have s0 : (w1.alloc (.cells #[.bool false, .slice at1 (L T).length ct1] 25)).cell? ⟨w1.heap.size, 0, none⟩ = some (.bool false) := by go_simp
  have s1 : (w1.alloc (.cells #[.bool false, .slice at1 (L T).length ct1] 25)).cell? ⟨w1.heap.size, 1, none⟩ = some (.slice at1 (L T).length ct1) := by go_simp
  have hlt1 := K1.lt
  clear K0 K1 bt1 ot1 CT HK2
  go_wp2_with fail
  generalize w1.alloc (.cells #[.bool false, .slice at1 (L T).length ct1] 25) = w2 at *
  generalize w1.heap.size = kB at *
  obtain ⟨kb2, ka0, ka1, kc0, kc1, kf0, kf1, kl⟩ := id K2
  have stab : ∀ w' : World, Below w2.heap.size w2 w' → (w'.cell? ⟨w.heap.size, 0, none⟩ = some (.bool p) ∧ w'.cell? ⟨w.heap.size, 1, none⟩ = some (.slice ao (L a).length cap) ∧ w'.cell? ⟨kB, 0, none⟩ = some (.bool false) ∧ w'.cell? ⟨kB, 1, none⟩ = some (.slice at1 (L T).length ct1)) := fun w' h => ⟨cell_later h ka0, cell_later h ka1, cell_later h s0, cell_later h s1⟩
  have Stab := hide stab
  clear stab
  go_region_held3 (fun w' => w'.cell? ⟨w.heap.size, 0, none⟩ = some (.bool p) ∧ w'.cell? ⟨w.heap.size, 1, none⟩ = some (.slice ao (L a).length cap) ∧ w'.cell? ⟨kB, 0, none⟩ = some (.bool false) ∧ w'.cell? ⟨kB, 1, none⟩ = some (.slice at1 (L T).length ct1))
    (first | with_reducible exact unhide Stab _ (Below.refl _ _).drew | with_reducible exact unhide Stab _ BW3 | with_reducible exact unhide Stab _ BW4 | (obtain ⟨x1, x2, x3, x4⟩ := unhide Stab _ BW4; exact ⟨cell_set2 x1 (by omega) _ _, cell_set2 x2 (by omega) _ _, cell_set2 x3 (by omega) _ _, cell_set2 x4 (by omega) _ _⟩))
    (first
      | (go_at_call 47; refine (unhide RA _ ?_ _ ?_).mono ?_; exact kb2.drew; (first | with_reducible exact unhide HZ1 | with_reducible exact unhide HZ1'); rintro e w3 ⟨a3, c3, rfl, o3, b3⟩; have BW3 : Below w2.heap.size w2 w3 := (Below.refl _ _).drew.trans b3)
      | (go_at_call 70; refine (unhide CQ _ _ _ o3.reads (rt2.later BW3)).mono ?_; rintro e w4 ⟨a4, c4, rfl, o4, b4⟩; have BW4 : Below w2.heap.size w2 w4 := BW3.trans (b4.mono BW3.size); have K4 := K2.later BW4; obtain ⟨kb4, -, -, kd0, kd1, kg0, kg1, kl4⟩ := id K4; have hs3 := BW3.size))
  all_goals
    go_wp2
    refine bodyPost_ret (v := .agg #[.bool (sg z), .slice a4 (L z.natAbs).length c4]) (by simp [results, Tryz.results62, go_sem, kd0, kd1]) rfl ⟨a4, c4, rfl, ?_, ?_⟩
    · exact ((o4.setBelow (by simp; omega) _).setBelow (by simp; omega) _).mono (by omega)
    · exact (kb4.setCell (by simp) _).setCell (by simp) _

end Go.Proofs.YthnkmjkgcnhlfaaGreatDoor
