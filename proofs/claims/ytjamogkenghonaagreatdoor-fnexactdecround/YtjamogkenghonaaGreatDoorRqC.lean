/- A number at another scale: rescaled of the program, by a contract; ways to round. -/
import Derived.Test.YtjamogkenghonaaGreatDoorRqB
import Derived.Test.YtjamogkenghonaaGreatDoorDcR
import Derived.Test.YtjamogkenghonaaGreatDoorOkA
namespace Go.Proofs.YtjamogkenghonaaGreatDoor
open Go.RowKit
set_option maxRecDepth 100000

/-- A number through another one, rounded. -/
def resZ (X : Int) (b : Nat) (mode : Int) : Int := zof (sg X) (qrd (sg X) X.natAbs b mode)

theorem zof_sg_abs (X : Int) : zof (sg X) X.natAbs = X := by
  unfold zof sg
  by_cases h : X < 0 <;> simp [h] <;> omega

theorem resZ_one (X : Int) (mode : Int) : resZ X 1 mode = X := by
  unfold resZ
  rw [qrd_zero (Nat.mod_one _), Nat.div_one, zof_sg_abs]

theorem zof_abs2 (n : Bool) (N : Nat) : (zof n N).natAbs = N := by
  unfold zof
  split
  · exact (Int.natAbs_neg _).trans (Int.natAbs_natCast _)
  · exact Int.natAbs_natCast _

theorem resZ_abs (X : Int) (b : Nat) (mode : Int) : (resZ X b mode).natAbs ≤ X.natAbs + 1 := by
  unfold resZ
  rw [zof_abs2]
  exact qrd_le _ _ _ _

theorem modeOk_any (w : World) (m : Int) : Calls Tryz.prog 44 #[.int .i64 m] w fun e w' => e = .returned (.bool (decide (1 ≤ m ∧ m ≤ 7))) ∧ w' = w := by
  by_cases h : 1 ≤ m
  · by_cases k : m ≤ 7
    · rw [show decide (1 ≤ m ∧ m ≤ 7) = true by simp [h, k]]
      go_enter Tryz.func44, Tryz.ntmps44
      go_wp2
      go_ret
      exact ⟨rfl, rfl⟩
    · rw [show decide (1 ≤ m ∧ m ≤ 7) = false by simp [k]]
      go_enter Tryz.func44, Tryz.ntmps44
      go_wp2
      go_ret
      exact ⟨rfl, rfl⟩
  · rw [show decide (1 ≤ m ∧ m ≤ 7) = false by simp [h]]
    go_enter Tryz.func44, Tryz.ntmps44
    go_wp2
    go_ret
    exact ⟨rfl, rfl⟩

theorem l2Mode_any (w : World) (m : Int) : Calls Tryz.prog 41 #[.int .i64 m] w fun e w' => e = .returned (.bool (decide (1 ≤ m ∧ m ≤ 7))) ∧ w' = w := by
  have C := hide (fun W => l1In_any W m 1 7)
  generalize decide (1 ≤ m ∧ m ≤ 7) = Q at *
  go_enter Tryz.func41, Tryz.ntmps41
  go_wp2_with fail
  refine (unhide C _).mono ?_
  rintro e w1 ⟨rfl, rfl⟩
  go_wp2
  go_ret
  exact ⟨rfl, rfl⟩

/-- A number in its box, and the place for an answer. -/
structure Bx1 (w0 w' : World) (p : Bool) (u : Value) : Prop where
  below : Below w0.heap.size w0 w'
  a0 : w'.cell? ⟨w0.heap.size, 0, none⟩ = some (.bool p)
  a1 : w'.cell? ⟨w0.heap.size, 1, none⟩ = some u
  c0 : w'.cell? ⟨w0.heap.size + 1, 0, none⟩ = some (.bool false)
  c1 : w'.cell? ⟨w0.heap.size + 1, 1, none⟩ = some (.slice none 0 0)
  f0 : w'.frozen? ⟨w0.heap.size + 1, 0, none⟩ = false
  f1 : w'.frozen? ⟨w0.heap.size + 1, 1, none⟩ = false
  lt : w0.heap.size + 1 < w'.heap.size

theorem Bx1.later {w0 w w' : World} {p : Bool} {u : Value} (h : Bx1 w0 w p u) (k : Below w.heap.size w w') : Bx1 w0 w' p u :=
  ⟨h.below.trans (k.mono h.below.size), cell_later k h.a0, cell_later k h.a1, cell_later k h.c0, cell_later k h.c1, frozen_later k h.f0 h.lt, frozen_later k h.f1 h.lt, lt_later k h.lt⟩

theorem Bx1.start (w : World) (p : Bool) (u : Value) : Bx1 w ((w.alloc (.cells #[.bool p, u] 28)).alloc (.cells #[.bool false, .slice none 0 0] 28)) p u :=
  ⟨((Below.refl _ _).alloc (Nat.le_refl _) _).alloc (by simp) _, by go_simp, by go_simp, by go_simp, by go_simp, by go_simp, by go_simp, by simp⟩

theorem ten_pos (k : Nat) : 0 < 10 ^ k := Nat.pow_pos (by decide)

set_option maxHeartbeats 4000000 in
theorem rescaled_any (w : World) (p : Bool) (v : Value) (a : Nat) (f t mode : Int) (hr : Reads w v (L a)) (hf0 : 0 ≤ f) (hf : f ≤ 30) (ht0 : 0 ≤ t) (ht : t ≤ 30) (ha : a < 10000 ^ 40) (h1 : 1 ≤ mode) (h7 : mode ≤ 7) (z : Int) (hz : z = resZ (zof p (a * 10 ^ (t - f).toNat)) (10 ^ (f - t).toNat) mode) :
    Calls Tryz.prog 38 #[.agg #[.bool p, v], .int .i64 f, .int .i64 t, .int .i64 mode] w (GivesBig w (sg z) (L z.natAbs)) := by
  obtain ⟨X, hX⟩ : ∃ X, X = zof p (a * 10 ^ (t - f).toNat) := ⟨_, rfl⟩
  rw [← hX] at hz
  have bX : X.natAbs < 10000 ^ 99 := by
    rw [hX, zof_abs2]
    have h2 : 10 ^ (t - f).toNat < (10 ^ 4) ^ 50 := ten_lt (by omega)
    refine Nat.lt_of_lt_of_le (Nat.mul_lt_mul_of_lt_of_le ha (Nat.le_of_lt h2) (Nat.pow_pos (by decide))) ?_
    rw [show (10 : Nat) ^ 4 = 10000 from rfl, ← Nat.pow_add]
    exact Nat.pow_le_pow_right (by decide) (by decide)
  have bT : 10 ^ (f - t).toNat < 10000 ^ 99 := by
    have h2 : 10 ^ (f - t).toNat < (10 ^ 4) ^ 99 := ten_lt (by omega)
    exact h2
  have RA := hide (fun W (h : Below w.heap.size w W) (y : Int) (hy : y = t - f) => (by subst hy; exact raised_any W p v a _ (hr.later h) (by omega) (Nat.lt_of_lt_of_le ha (Nat.pow_le_pow_right (by decide) (by decide))) X hX : Calls Tryz.prog 29 #[.agg #[.bool p, v], .int .i64 y] W (GivesBig W (sg X) (L X.natAbs))))
  have hz2 : z = zof (sg X != false) (qrd (sg X != false) X.natAbs (10 ^ (f - t).toNat) mode) := by rw [hz]; unfold resZ; cases sg X <;> rfl
  have CQ := hide (fun W x y (hx : Reads W x (L X.natAbs)) (hy : Reads W y (L (10 ^ (f - t).toNat))) => roundedQuotient_any W (sg X) false x y X.natAbs (10 ^ (f - t).toNat) mode hx hy (ten_pos _) bX bT h1 h7 z hz2)
  have CT := hide (fun W (y : Int) (hy : y = ((f - t).toNat : Nat)) => tenLimbs_e W y (f - t).toNat hy (by omega))
  have HK2 : (if f - t < 0 then (0 : Int) else f - t) = (((f - t).toNat : Nat) : Int) := by split <;> omega
  have HZ1 := hide (show t - f = t - f from rfl)
  have HZ1' := hide (show IntKind.i64.wrap (t - f) = t - f by rw [IntKind.wrap_i64]; omega)
  generalize 10 ^ (f - t).toNat = T at *
  generalize (f - t).toNat = k at *
  clear hX hz hz2 bX bT ha
  obtain ⟨ao, b1, off, cap, rfl, hr0⟩ := hr
  clear hr0
  have K0 := Bx1.start w p (.slice ao (L a).length cap)
  go_enter Tryz.func38, Tryz.ntmps38
  go_wp2_with fail
  refine (unhide CT _ _ rfl).mono ?_
  rintro e w1 ⟨at1, ct1, rfl, ot1, bt1⟩
  have K1 := K0.later bt1
  have K2 := K1.later ((Below.refl _ _).alloc (Nat.le_refl _) (.cells #[.bool false, .slice at1 (L T).length ct1] 28))
  have rt2 := ot1.reads.alloc (.cells #[.bool false, .slice at1 (L T).length ct1] 28)
  have s0 : (w1.alloc (.cells #[.bool false, .slice at1 (L T).length ct1] 28)).cell? ⟨w1.heap.size, 0, none⟩ = some (.bool false) := by go_simp
  have s1 : (w1.alloc (.cells #[.bool false, .slice at1 (L T).length ct1] 28)).cell? ⟨w1.heap.size, 1, none⟩ = some (.slice at1 (L T).length ct1) := by go_simp
  have hlt1 := K1.lt
  clear K0 K1 bt1 ot1 CT HK2
  go_wp2_with fail
  generalize w1.alloc (.cells #[.bool false, .slice at1 (L T).length ct1] 28) = w2 at *
  generalize w1.heap.size = kB at *
  obtain ⟨kb2, ka0, ka1, kc0, kc1, kf0, kf1, kl⟩ := id K2
  have stab : ∀ w' : World, Below w2.heap.size w2 w' → (w'.cell? ⟨w.heap.size, 0, none⟩ = some (.bool p) ∧ w'.cell? ⟨w.heap.size, 1, none⟩ = some (.slice ao (L a).length cap) ∧ w'.cell? ⟨kB, 0, none⟩ = some (.bool false) ∧ w'.cell? ⟨kB, 1, none⟩ = some (.slice at1 (L T).length ct1)) := fun w' h => ⟨cell_later h ka0, cell_later h ka1, cell_later h s0, cell_later h s1⟩
  have Stab := hide stab
  clear stab
  go_region_held3 (fun w' => w'.cell? ⟨w.heap.size, 0, none⟩ = some (.bool p) ∧ w'.cell? ⟨w.heap.size, 1, none⟩ = some (.slice ao (L a).length cap) ∧ w'.cell? ⟨kB, 0, none⟩ = some (.bool false) ∧ w'.cell? ⟨kB, 1, none⟩ = some (.slice at1 (L T).length ct1))
    (first | with_reducible exact unhide Stab _ (Below.refl _ _).drew | with_reducible exact unhide Stab _ BW3 | with_reducible exact unhide Stab _ BW4 | (obtain ⟨x1, x2, x3, x4⟩ := unhide Stab _ BW4; exact ⟨cell_set2 x1 (by omega) _ _, cell_set2 x2 (by omega) _ _, cell_set2 x3 (by omega) _ _, cell_set2 x4 (by omega) _ _⟩))
    (first
      | (go_at_call 29; refine (unhide RA _ ?_ _ ?_).mono ?_; exact kb2.drew; (first | with_reducible exact unhide HZ1 | with_reducible exact unhide HZ1'); rintro e w3 ⟨a3, c3, rfl, o3, b3⟩; have BW3 : Below w2.heap.size w2 w3 := (Below.refl _ _).drew.trans b3)
      | (go_at_call 45; refine (unhide CQ _ _ _ o3.reads (rt2.later BW3)).mono ?_; rintro e w4 ⟨a4, c4, rfl, o4, b4⟩; have BW4 : Below w2.heap.size w2 w4 := BW3.trans (b4.mono BW3.size); have K4 := K2.later BW4; obtain ⟨kb4, -, -, kd0, kd1, kg0, kg1, kl4⟩ := id K4; have hs3 := BW3.size))
  all_goals
    go_wp2
    refine bodyPost_ret (v := .agg #[.bool (sg z), .slice a4 (L z.natAbs).length c4]) (by simp [results, Tryz.results38, go_sem, kd0, kd1]) rfl ⟨a4, c4, rfl, ?_, ?_⟩
    · exact ((o4.setBelow (by simp; omega) _).setBelow (by simp; omega) _).mono (by omega)
    · exact (kb4.setCell (by simp) _).setCell (by simp) _

end Go.Proofs.YtjamogkenghonaaGreatDoor
