/- Decimals brought to one scale: the specification's l2Greater and l2At, the program's raised, by contracts. -/
import Derived.Test.YthnkmjkgcnhlfaaGreatDoorH09
import Derived.Test.YthnkmjkgcnhlfaaGreatDoorH10
import Derived.Deep.RegionHeld3
import Derived.Deep.RegionHeld
namespace Go.Proofs.YthnkmjkgcnhlfaaGreatDoor
open Go.RowKit

theorem l2Greater_any (w : World) (a b : Int) :
    Calls Tryz.prog 88 #[.int .i64 a, .int .i64 b] w fun e w' => e = .returned (.int .i64 (max a b)) ∧ w' = w := by
  by_cases h : b < a
  · have hd : decide (b < a) = true := by simp [h]
    have he := hide (show max a b = a by omega)
    clear h
    go_enter Tryz.func88, Tryz.ntmps88
    go_wp2
    go_ret
    exact ⟨by rw [unhide he]; rfl, rfl⟩
  · have hd : decide (b < a) = false := by simp [h]
    have he := hide (show max a b = b by omega)
    clear h
    go_enter Tryz.func88, Tryz.ntmps88
    go_wp2
    go_ret
    exact ⟨by rw [unhide he]; rfl, rfl⟩

theorem l1Ten_e (W : World) (z : Int) (n : Nat) (e : z = n) (h : n ≤ 200) : Calls Tryz.prog 100 #[.int .i64 z] W (Gives W (L (10 ^ n))) := by
  subst e
  exact l1TenAbs_any W n h

theorem tenLimbs_e (W : World) (z : Int) (n : Nat) (e : z = n) (h : n ≤ 200) : Calls Tryz.prog 74 #[.int .i64 z] W (Gives W (L (10 ^ n))) := by
  subst e
  exact tenLimbs_any W n h

theorem ten_lt {k n : Nat} (h : n < 4 * k) : 10 ^ n < (10 ^ 4) ^ k := by
  rw [← Nat.pow_mul]
  exact Nat.pow_lt_pow_right (by decide) h

theorem ten_small {n : Nat} (h : n ≤ 200) : 10 ^ n < 10000 ^ 100 := ten_lt (k := 100) (by omega)

set_option maxRecDepth 100000 in
set_option maxHeartbeats 1000000 in
theorem l2At_any (w : World) (p : Bool) (v : Value) (a s t : Nat) (hr : Reads w v (L a)) (hst : s ≤ t) (ht : t ≤ 200) (ha : a < 10000 ^ 100) :
    Calls Tryz.prog 90 #[.agg #[.bool p, v, .int .i64 s], .int .i64 t] w (Gives w (L (a * 10 ^ (t - s)))) := by
  have hp : 10 ^ (t - s) < 10000 ^ 100 := ten_small (by omega)
  have up : (10000 : Nat) ^ 100 ≤ 10000 ^ 200 := Nat.pow_le_pow_right (by decide) (by decide)
  have hz : (t : Int) - (s : Int) = ((t - s : Nat) : Int) := by omega
  have hw : IntKind.i64.wrap ((t : Int) - (s : Int)) = ((t - s : Nat) : Int) := by rw [IntKind.wrap_i64]; omega
  have HN := hide (show t - s ≤ 200 by omega)
  have HZ := hide hz
  have HW := hide hw
  have CM := hide (fun (W : World) (x y : Value) (hx : Reads W x (L a)) (hy : Reads W y (L (10 ^ (t - s)))) => l1MulAbs_any W x y a (10 ^ (t - s)) hx hy (Nat.lt_of_lt_of_le ha up) (Nat.lt_of_lt_of_le hp up))
  clear hz hw hp up ha
  have hr0 := hr
  obtain ⟨ao, b, off, cap, rfl, hr1⟩ := hr
  clear hr1
  have k0 : Below w.heap.size w (w.alloc (.cells #[.bool p, .slice ao (L a).length cap, .int .i64 s] 27)) := (Below.refl _ _).alloc (Nat.le_refl _) _
  have c1 : (w.alloc (.cells #[.bool p, .slice ao (L a).length cap, .int .i64 s] 27)).cell? ⟨w.heap.size, 1, none⟩ = some (.slice ao (L a).length cap) := by go_simp
  have c2 : (w.alloc (.cells #[.bool p, .slice ao (L a).length cap, .int .i64 s] 27)).cell? ⟨w.heap.size, 2, none⟩ = some (.int .i64 s) := by go_simp
  go_enter Tryz.func90, Tryz.ntmps90
  go_wp2_with fail
  generalize w.alloc (.cells #[.bool p, .slice ao (L a).length cap, .int .i64 s] 27) = w0 at *
  have stab : ∀ w' : World, Below w0.heap.size w0 w' → (w'.cell? ⟨w.heap.size, 1, none⟩ = some (.slice ao (L a).length cap) ∧ w'.cell? ⟨w.heap.size, 2, none⟩ = some (.int .i64 s)) := fun w' h => ⟨cell_later h c1, cell_later h c2⟩
  have Stab := hide stab
  clear stab
  go_region_held3 (fun w' => w'.cell? ⟨w.heap.size, 1, none⟩ = some (.slice ao (L a).length cap) ∧ w'.cell? ⟨w.heap.size, 2, none⟩ = some (.int .i64 s))
    (first | with_reducible exact unhide Stab _ (Below.refl _ _).drew | with_reducible exact unhide Stab _ BX | with_reducible exact unhide Stab _ BY)
    (first
      | (go_at_call 100; refine (l1Ten_e _ _ (t - s) ?_ ?_).mono ?_; (first | with_reducible exact unhide HZ | with_reducible exact unhide HW); exact unhide HN; rintro e w1 ⟨a1, c1, rfl, o1, b1⟩; have BX : Below w0.heap.size w0 w1 := (Below.refl _ _).drew.trans b1)
      | (go_at_call 98; refine (unhide CM _ _ _ ?_ ?_).mono ?_; exact (hr0.later k0).later BX; exact o1.reads; rintro e w2 ⟨a2, c2, rfl, o2, b2⟩; have BY : Below w0.heap.size w0 w2 := BX.trans (b2.mono BX.size)))
  go_wp2
  go_ret
  exact ⟨a2, c2, rfl, o2.mono (Nat.le_trans k0.size BX.size), k0.trans (BY.mono k0.size)⟩

set_option maxRecDepth 100000 in
set_option maxHeartbeats 1000000 in
/-- What raised answers. -/
theorem raised_any (w : World) (p : Bool) (v : Value) (a : Nat) (n : Int) (hr : Reads w v (L a)) (hn : n ≤ 200) (ha : a < 10000 ^ 100) (z : Int) (hz : z = zof p (a * 10 ^ n.toNat)) :
    Calls Tryz.prog 47 #[.agg #[.bool p, v], .int .i64 n] w (GivesBig w (sg z) (L z.natAbs)) := by
  obtain ⟨k, hk, hkn, hk2⟩ : ∃ k : Nat, (if n < 0 then (0 : Int) else n) = k ∧ n.toNat = k ∧ k ≤ 200 := ⟨n.toNat, by split <;> omega, rfl, by omega⟩
  rw [hkn] at hz
  have hp : 10 ^ k < 10000 ^ 100 := ten_small hk2
  have CT := hide (fun (W : World) => tenLimbs_any W k hk2)
  have C := hide (fun (W : World) (y : Value) (h : Below w.heap.size w W) (hy : Reads W y (L (10 ^ k))) => times_any W _ y a (10 ^ k) (hr.later h) hy ha hp)
  have Hz' := hide hz
  clear hkn hp ha hz hn hk2
  obtain ⟨ao, b1, off, cap, rfl, hr⟩ := hr
  clear hr
  go_enter Tryz.func47, Tryz.ntmps47
  go_wp2
  have W0b : Below w.heap.size w ((w.alloc (.cells #[.bool p, .slice ao (L a).length cap] 25)).alloc (.cells #[.bool false, .slice none 0 0] 25)) := ((Below.refl _ _).alloc (Nat.le_refl _) _).alloc (by simp) _
  have P0 : ((w.alloc (.cells #[.bool p, .slice ao (L a).length cap] 25)).alloc (.cells #[.bool false, .slice none 0 0] 25)).cell? ⟨w.heap.size, 0, none⟩ = some (.bool p) := by go_simp
  have P0' : ((w.alloc (.cells #[.bool p, .slice ao (L a).length cap] 25)).alloc (.cells #[.bool false, .slice none 0 0] 25)).cell? ⟨w.heap.size, 1, none⟩ = some (.slice ao (L a).length cap) := by go_simp
  have RA : ((w.alloc (.cells #[.bool p, .slice ao (L a).length cap] 25)).alloc (.cells #[.bool false, .slice none 0 0] 25)).cell? ⟨w.heap.size + 1, 0, none⟩ = some (.bool false) := by go_simp
  have RA' : ((w.alloc (.cells #[.bool p, .slice ao (L a).length cap] 25)).alloc (.cells #[.bool false, .slice none 0 0] 25)).cell? ⟨w.heap.size + 1, 1, none⟩ = some (.slice none 0 0) := by go_simp
  have FA : ((w.alloc (.cells #[.bool p, .slice ao (L a).length cap] 25)).alloc (.cells #[.bool false, .slice none 0 0] 25)).frozen? ⟨w.heap.size + 1, 0, none⟩ = false := by go_simp
  have FA' : ((w.alloc (.cells #[.bool p, .slice ao (L a).length cap] 25)).alloc (.cells #[.bool false, .slice none 0 0] 25)).frozen? ⟨w.heap.size + 1, 1, none⟩ = false := by go_simp
  have zA : w.heap.size + 1 < ((w.alloc (.cells #[.bool p, .slice ao (L a).length cap] 25)).alloc (.cells #[.bool false, .slice none 0 0] 25)).heap.size := by simp
  generalize ((w.alloc (.cells #[.bool p, .slice ao (L a).length cap] 25)).alloc (.cells #[.bool false, .slice none 0 0] 25)) = W0 at *
  have stab : ∀ w' : World, Below W0.heap.size W0 w' → (w'.cell? ⟨w.heap.size, 0, none⟩ = some (.bool p) ∧ w'.cell? ⟨w.heap.size, 1, none⟩ = some (.slice ao (L a).length cap)) := fun w' h => ⟨cell_later h P0, cell_later h P0'⟩
  have Stab := hide stab
  clear stab
  go_region_held3 (fun w' => w'.cell? ⟨w.heap.size, 0, none⟩ = some (.bool p) ∧ w'.cell? ⟨w.heap.size, 1, none⟩ = some (.slice ao (L a).length cap))
    (first | exact unhide Stab _ (Below.refl _ _).drew | exact unhide Stab _ (by assumption) | (obtain ⟨s1, s2⟩ := unhide Stab _ BW2; exact ⟨cell_set2 s1 (by omega) _ _, cell_set2 s2 (by omega) _ _⟩))
    (first
      | (go_at_call 74; refine (unhide CT _).mono ?_; rintro e w9 ⟨ao9, cap9, rfl, o9, b9⟩; have R9 := cell_later b9 RA; have R9' := cell_later b9 RA'; have F9 := frozen_later b9 FA zA; have F9' := frozen_later b9 FA' zA; have z9 := lt_later b9 zA; have bb9 := W0b.drew.trans (b9.mono W0b.drew.size); have BW9 : Below W0.heap.size W0 w9 := (Below.refl _ _).drew.trans b9)
      | (go_at_call 84; refine (unhide C _ _ ?_ ?_).mono ?_; exact bb9; exact o9.reads; rintro e w1 ⟨ao1, cap1, rfl, o1, b1⟩; have R1 := cell_later b1 R9; have R1' := cell_later b1 R9'; have F1 := frozen_later b1 F9 z9; have F1' := frozen_later b1 F9' z9; have z1 := lt_later b1 z9; have bb1 := bb9.trans (b1.mono bb9.size); have BW1 : Below W0.heap.size W0 w1 := BW9.trans (b1.mono BW9.size))
      | (go_at_call 65; refine (signed_any _ _ ao1 _ cap1).mono ?_; rintro e w2 ⟨he, b2⟩; obtain ⟨ao3, cap3, e3, o3, bb3⟩ := signed_gives (w := w) (z := z) o1 bb1 b2 (unhide Hz'); rw [e3] at he; subst he; have R2 := cell_later b2 R1; have R2' := cell_later b2 R1'; have F2 := frozen_later b2 F1 z1; have F2' := frozen_later b2 F1' z1; have BW2 : Below W0.heap.size W0 w2 := BW1.trans (b2.mono BW1.size)))
  all_goals
    go_wp2
    refine bodyPost_ret (v := .agg #[.bool (sg z), .slice ao3 (L z.natAbs).length cap3]) (by simp [results, Tryz.results47, go_sem, R2, R2']) rfl ⟨ao3, cap3, rfl, ?_, ?_⟩
    · exact ((o3.setBelow (by exact z9) _).setBelow (by exact z9) _).mono bb9.size
    · exact (bb3.setCell (by simp) _).setCell (by simp) _

end Go.Proofs.YthnkmjkgcnhlfaaGreatDoor
