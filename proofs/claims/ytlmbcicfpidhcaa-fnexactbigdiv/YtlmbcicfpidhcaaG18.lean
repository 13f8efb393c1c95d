/- The program turns a sign, by a contract. The program's sum of two numbers with signs, by a contract. turned and signOf of the program, by contracts. -/
import Derived.Test.YtlmbcicfpidhcaaG01
import Derived.Deep.RegionWith
import Derived.Test.YtlmbcicfpidhcaaG07
import Derived.Test.YtlmbcicfpidhcaaG08
import Derived.WalkSpells
namespace Go.Proofs.Ytlmbcicfpidhcaa
open Go.RowKit
set_option maxRecDepth 100000



theorem turned_any (w : World) (neg : Bool) (v : Value) (n : Nat) (hr : Reads w v (L n)) :
    Calls Try.prog 59 #[.agg #[.bool neg, v]] w fun e w' => ∃ v', e = .returned (.agg #[.bool (!neg && decide (n ≠ 0)), v']) ∧ Reads w' v' (L n) ∧ Below w.heap.size w w' := by
  have hr0 := hr
  obtain ⟨ao, b, off, cap, rfl, hr⟩ := hr
  clear hr
  go_enter Try.func59, Try.ntmps59
  go_wp2_with fail
  refine (signed_any _ _ ao (L n).length cap).mono ?_
  rintro e w1 ⟨rfl, hb⟩
  obtain ⟨hc, hf⟩ := bcell hb
  have hz : w.heap.size + 1 < w1.heap.size := by have := hb.size; simp at this; omega
  have fin : Below w.heap.size w w1 := (((Below.refl _ _).alloc (Nat.le_refl _) _).alloc (by simp) _).trans (hb.mono (by simp; omega))
  by_cases h : n = 0
  · subst h
    have e0 : (L 0).length = 0 := by simp [L_zero]
    rw [if_pos e0]
    go_wp2
    refine bodyPost_ret (v := .agg #[.bool false, .slice none 0 0]) (by simp [results, Try.results59, go_sem, hc]) rfl ⟨.slice none 0 0, by simp, ?_, ?_⟩
    · rw [L_zero]; exact (Own.nil 0 _).reads
    · exact (fin.setCell (by simp) _).setCell (by simp) _
  · have hl : (L n).length ≠ 0 := fun k => h (L_len_zero.1 k)
    rw [if_neg hl]
    have hd : (!neg && decide (n ≠ 0)) = !neg := by simp [h]
    have Hd := hide hd
    clear hd
    go_wp2
    refine bodyPost_ret (v := .agg #[.bool (!neg), .slice ao (L n).length cap]) (by simp [results, Try.results59, go_sem, hc]) rfl ⟨_, by rw [unhide Hd], ?_, ?_⟩
    · exact hr0.later ((fin.setCell (by simp) _).setCell (by simp) _)
    · exact (fin.setCell (by simp) _).setCell (by simp) _

end Go.Proofs.Ytlmbcicfpidhcaa

namespace Go.Proofs.Ytlmbcicfpidhcaa
open Go.RowKit
set_option maxRecDepth 100000



/-- A Big value. -/
abbrev bigV (neg : Bool) (v : Value) : Value := .agg #[.bool neg, v]

set_option maxHeartbeats 1000000 in
theorem sumOf_any (w : World) (p q : Bool) (u v : Value) (a b : Nat) (hu : Reads w u (L a)) (hv : Reads w v (L b)) (ha : a < 10000 ^ 199) (hb : b < 10000 ^ 199) (z : Int) (hz : z = zof p a + zof q b) :
    Calls Try.prog 55 #[.agg #[.bool p, u], .agg #[.bool q, v]] w (GivesBig w (sg z) (L z.natAbs)) := by
  have ha' : a < 10000 ^ 200 := Nat.lt_of_lt_of_le ha (Nat.pow_le_pow_right (by decide) (by decide))
  have hb' : b < 10000 ^ 200 := Nat.lt_of_lt_of_le hb (Nat.pow_le_pow_right (by decide) (by decide))
  have Hz := hide hz
  have HA := hide ha'
  have HB := hide hb'
  clear ha hb hz ha' hb'
  have U := hide hu
  have V := hide hv
  obtain ⟨ao, b1, off, cap, rfl, hu⟩ := hu
  obtain ⟨ao', b2, off', cap', rfl, hv⟩ := hv
  clear hu hv
  by_cases hpq : p = q
  · subst hpq
    have hpp : (p == p) = true := by simp
    have hz' : z = zof p (a + b) := by have := unhide Hz; unfold zof at *; cases p <;> simp at * <;> omega
    have Hz' := hide hz'
    clear hz'
    have C := hide (fun W (h : Below w.heap.size w W) => plus_any W _ _ a b ((unhide U).later h) ((unhide V).later h) (unhide HA) (unhide HB))
    go_enter Try.func55, Try.ntmps55
    go_wp2
    go_quiet (fail)
    go_wp2
    have B0 : ∀ k, Below w.heap.size w ((((w.alloc (.cells #[.bool p, .slice ao (L a).length cap] 25)).alloc (.cells #[.bool p, .slice ao' (L b).length cap'] 25)).alloc (.cells #[.bool false, .slice none 0 0] 25)).drewN k) :=
      fun k => below_drewN ((((Below.refl _ _).alloc (Nat.le_refl _) _).alloc (by simp) _).alloc (by simp; omega) _) k
    have C0 : ∀ k, ((((w.alloc (.cells #[.bool p, .slice ao (L a).length cap] 25)).alloc (.cells #[.bool p, .slice ao' (L b).length cap'] 25)).alloc (.cells #[.bool false, .slice none 0 0] 25)).drewN k).cell? ⟨w.heap.size, 0, none⟩ = some (.bool p) := fun k => by go_simp
    have C1 : ∀ k, ((((w.alloc (.cells #[.bool p, .slice ao (L a).length cap] 25)).alloc (.cells #[.bool p, .slice ao' (L b).length cap'] 25)).alloc (.cells #[.bool false, .slice none 0 0] 25)).drewN k).cell? ⟨w.heap.size + 1 + 1, 0, none⟩ = some (.bool false) := fun k => by go_simp
    have C2 : ∀ k, ((((w.alloc (.cells #[.bool p, .slice ao (L a).length cap] 25)).alloc (.cells #[.bool p, .slice ao' (L b).length cap'] 25)).alloc (.cells #[.bool false, .slice none 0 0] 25)).drewN k).cell? ⟨w.heap.size + 1 + 1, 1, none⟩ = some (.slice none 0 0) := fun k => by go_simp
    have C3 : ∀ k, ((((w.alloc (.cells #[.bool p, .slice ao (L a).length cap] 25)).alloc (.cells #[.bool p, .slice ao' (L b).length cap'] 25)).alloc (.cells #[.bool false, .slice none 0 0] 25)).drewN k).frozen? ⟨w.heap.size + 1 + 1, 0, none⟩ = false := fun k => by go_simp
    have C4 : ∀ k, ((((w.alloc (.cells #[.bool p, .slice ao (L a).length cap] 25)).alloc (.cells #[.bool p, .slice ao' (L b).length cap'] 25)).alloc (.cells #[.bool false, .slice none 0 0] 25)).drewN k).frozen? ⟨w.heap.size + 1 + 1, 1, none⟩ = false := fun k => by go_simp
    have C5 : ∀ k, w.heap.size + 1 + 1 < ((((w.alloc (.cells #[.bool p, .slice ao (L a).length cap] 25)).alloc (.cells #[.bool p, .slice ao' (L b).length cap'] 25)).alloc (.cells #[.bool false, .slice none 0 0] 25)).drewN k).heap.size := fun k => by simp
    have W0b := B0 nq
    have P0 := C0 nq
    have R0 := C1 nq
    have R0' := C2 nq
    have F0 := C3 nq
    have F0' := C4 nq
    have z0 := C5 nq
    clear B0 C0 C1 C2 C3 C4 C5
    generalize (((w.alloc (.cells #[.bool p, .slice ao (L a).length cap] 25)).alloc (.cells #[.bool p, .slice ao' (L b).length cap'] 25)).alloc (.cells #[.bool false, .slice none 0 0] 25)).drewN nq = W0 at *
    go_region_with (first
      | (go_at_call 84; refine (unhide C _ ?_).mono ?_; exact W0b.drew; rintro e w1 ⟨ao1, cap1, rfl, o1, b1⟩; have P1 := cell_later b1 P0; have R1 := cell_later b1 R0; have R1' := cell_later b1 R0'; have F1 := frozen_later b1 F0 z0; have F1' := frozen_later b1 F0' z0; have z1 := lt_later b1 z0; have bb1 := W0b.drew.trans (b1.mono W0b.drew.size))
      | (go_at_call 54; refine (signed_any _ _ ao1 _ cap1).mono ?_; rintro e w2 ⟨he, b2⟩; obtain ⟨ao3, cap3, e3, o3, bb3⟩ := signed_gives (w := w) (z := z) o1 bb1 b2 (unhide Hz'); rw [e3] at he; subst he; have R2 := cell_later b2 R1; have R2' := cell_later b2 R1'; have F2 := frozen_later b2 F1 z1; have F2' := frozen_later b2 F1' z1))
    all_goals
      go_wp2
      refine bodyPost_ret (v := .agg #[.bool (sg z), .slice ao3 (L z.natAbs).length cap3]) (by simp [results, Try.results55, go_sem, R2, R2']) rfl ⟨ao3, cap3, rfl, ?_, ?_⟩
      · exact ((o3.setBelow (by exact z0) _).setBelow (by exact z0) _).mono W0b.size
      · exact (bb3.setCell (by simp; omega) _).setCell (by simp; omega) _
  · have hpp : (p == q) = false := by simp [hpq]
    have CA := hide (fun W (h : Below w.heap.size w W) => against_any W _ _ a b ((unhide U).later h) ((unhide V).later h))
    clear hpq
    go_enter Try.func55, Try.ntmps55
    go_wp2
    go_quiet (fail)
    have W0b : Below w.heap.size w ((((w.alloc (.cells #[.bool p, .slice ao (L a).length cap] 25)).alloc (.cells #[.bool q, .slice ao' (L b).length cap'] 25)).alloc (.cells #[.bool false, .slice none 0 0] 25)).drewN nq) := below_drewN ((((Below.refl _ _).alloc (Nat.le_refl _) _).alloc (by simp) _).alloc (by simp; omega) _) nq
    have P0 : ((((w.alloc (.cells #[.bool p, .slice ao (L a).length cap] 25)).alloc (.cells #[.bool q, .slice ao' (L b).length cap'] 25)).alloc (.cells #[.bool false, .slice none 0 0] 25)).drewN nq).cell? ⟨w.heap.size, 0, none⟩ = some (.bool p) := by go_simp
    have Q0 : ((((w.alloc (.cells #[.bool p, .slice ao (L a).length cap] 25)).alloc (.cells #[.bool q, .slice ao' (L b).length cap'] 25)).alloc (.cells #[.bool false, .slice none 0 0] 25)).drewN nq).cell? ⟨w.heap.size + 1, 0, none⟩ = some (.bool q) := by go_simp
    have R0 : ((((w.alloc (.cells #[.bool p, .slice ao (L a).length cap] 25)).alloc (.cells #[.bool q, .slice ao' (L b).length cap'] 25)).alloc (.cells #[.bool false, .slice none 0 0] 25)).drewN nq).cell? ⟨w.heap.size + 1 + 1, 0, none⟩ = some (.bool false) := by go_simp
    have R0' : ((((w.alloc (.cells #[.bool p, .slice ao (L a).length cap] 25)).alloc (.cells #[.bool q, .slice ao' (L b).length cap'] 25)).alloc (.cells #[.bool false, .slice none 0 0] 25)).drewN nq).cell? ⟨w.heap.size + 1 + 1, 1, none⟩ = some (.slice none 0 0) := by go_simp
    have F0 : ((((w.alloc (.cells #[.bool p, .slice ao (L a).length cap] 25)).alloc (.cells #[.bool q, .slice ao' (L b).length cap'] 25)).alloc (.cells #[.bool false, .slice none 0 0] 25)).drewN nq).frozen? ⟨w.heap.size + 1 + 1, 0, none⟩ = false := by go_simp
    have F0' : ((((w.alloc (.cells #[.bool p, .slice ao (L a).length cap] 25)).alloc (.cells #[.bool q, .slice ao' (L b).length cap'] 25)).alloc (.cells #[.bool false, .slice none 0 0] 25)).drewN nq).frozen? ⟨w.heap.size + 1 + 1, 1, none⟩ = false := by go_simp
    have z0 : w.heap.size + 1 + 1 < ((((w.alloc (.cells #[.bool p, .slice ao (L a).length cap] 25)).alloc (.cells #[.bool q, .slice ao' (L b).length cap'] 25)).alloc (.cells #[.bool false, .slice none 0 0] 25)).drewN nq).heap.size := by simp
    generalize (((w.alloc (.cells #[.bool p, .slice ao (L a).length cap] 25)).alloc (.cells #[.bool q, .slice ao' (L b).length cap'] 25)).alloc (.cells #[.bool false, .slice none 0 0] 25)).drewN nq = W0 at *
    go_wp2_with fail
    refine (unhide CA W0 W0b).mono ?_
    rintro e wA ⟨rfl, bA⟩
    have WAb : Below w.heap.size w wA := W0b.trans (bA.mono W0b.size)
    have PA := cell_later bA P0
    have QA := cell_later bA Q0
    have RA := cell_later bA R0
    have RA' := cell_later bA R0'
    have FA := frozen_later bA F0 z0
    have FA' := frozen_later bA F0' z0
    have zA := lt_later bA z0
    clear P0 Q0 R0 R0' F0 F0' z0 bA W0b CA
    by_cases hab : b ≤ a
    · have hge : (0 : Int) ≤ cmpZ a b := by
        by_cases e : a = b
        · rw [cmpZ_eq (by omega)]; omega
        · rw [cmpZ_gt (by omega)]; omega
      have hz' : z = zof p (a - b) := by
        have := unhide Hz
        unfold zof at *
        cases p <;> cases q <;> simp at * <;> omega
      have Hz' := hide hz'
      have C := hide (fun W (h : Below w.heap.size w W) => minus_any W _ _ a b ((unhide U).later h) ((unhide V).later h) (unhide HA) hab)
      clear hz' QA hab
      go_wp2
      go_region_with (first
        | (go_at_call 86; refine (unhide C _ ?_).mono ?_; exact WAb.drew; rintro e w1 ⟨ao1, cap1, rfl, o1, b1⟩; have P1 := cell_later b1 PA; have R1 := cell_later b1 RA; have R1' := cell_later b1 RA'; have F1 := frozen_later b1 FA zA; have F1' := frozen_later b1 FA' zA; have z1 := lt_later b1 zA; have bb1 := WAb.drew.trans (b1.mono WAb.drew.size))
        | (go_at_call 54; refine (signed_any _ _ ao1 _ cap1).mono ?_; rintro e w2 ⟨he, b2⟩; obtain ⟨ao3, cap3, e3, o3, bb3⟩ := signed_gives (w := w) (z := z) o1 bb1 b2 (unhide Hz'); rw [e3] at he; subst he; have R2 := cell_later b2 R1; have R2' := cell_later b2 R1'; have F2 := frozen_later b2 F1 z1; have F2' := frozen_later b2 F1' z1))
      all_goals
        go_wp2
        refine bodyPost_ret (v := .agg #[.bool (sg z), .slice ao3 (L z.natAbs).length cap3]) (by simp [results, Try.results55, go_sem, R2, R2']) rfl ⟨ao3, cap3, rfl, ?_, ?_⟩
        · exact ((o3.setBelow (by exact zA) _).setBelow (by exact zA) _).mono WAb.size
        · exact (bb3.setCell (by simp; omega) _).setCell (by simp; omega) _
    · have hge : cmpZ a b < 0 := by rw [cmpZ_lt (by omega)]; omega
      have hz' : z = zof q (b - a) := by
        have := unhide Hz
        unfold zof at *
        cases p <;> cases q <;> simp at * <;> omega
      have Hz' := hide hz'
      have C := hide (fun W (h : Below w.heap.size w W) => minus_any W _ _ b a ((unhide V).later h) ((unhide U).later h) (unhide HB) (by omega))
      clear hz' PA hab
      go_wp2
      go_region_with (first
        | (go_at_call 86; refine (unhide C _ ?_).mono ?_; exact WAb.drew; rintro e w1 ⟨ao1, cap1, rfl, o1, b1⟩; have P1 := cell_later b1 QA; have R1 := cell_later b1 RA; have R1' := cell_later b1 RA'; have F1 := frozen_later b1 FA zA; have F1' := frozen_later b1 FA' zA; have z1 := lt_later b1 zA; have bb1 := WAb.drew.trans (b1.mono WAb.drew.size))
        | (go_at_call 54; refine (signed_any _ _ ao1 _ cap1).mono ?_; rintro e w2 ⟨he, b2⟩; obtain ⟨ao3, cap3, e3, o3, bb3⟩ := signed_gives (w := w) (z := z) o1 bb1 b2 (unhide Hz'); rw [e3] at he; subst he; have R2 := cell_later b2 R1; have R2' := cell_later b2 R1'; have F2 := frozen_later b2 F1 z1; have F2' := frozen_later b2 F1' z1))
      all_goals
        go_wp2
        refine bodyPost_ret (v := .agg #[.bool (sg z), .slice ao3 (L z.natAbs).length cap3]) (by simp [results, Try.results55, go_sem, R2, R2']) rfl ⟨ao3, cap3, rfl, ?_, ?_⟩
        · exact ((o3.setBelow (by exact zA) _).setBelow (by exact zA) _).mono WAb.size
        · exact (bb3.setCell (by simp; omega) _).setCell (by simp; omega) _

end Go.Proofs.Ytlmbcicfpidhcaa

namespace Go.Proofs.Ytlmbcicfpidhcaa
open Go.RowKit
set_option maxRecDepth 100000

theorem signOf_any (w : World) (v : Value) (z : Int) (hr : Reads w v (L z.natAbs)) :
    Calls Try.prog 58 #[.agg #[.bool (sg z), v]] w fun e w' => e = .returned (.int .i64 (if z < 0 then -1 else if 0 < z then 1 else 0)) ∧ Below w.heap.size w w' := by
  obtain ⟨ao, b, off, cap, rfl, hr⟩ := hr
  clear hr
  rcases Int.lt_trichotomy z 0 with h | h | h
  · rw [if_pos h, show sg z = true by simp [sg, h]]
    go_enter Try.func58, Try.ntmps58
    go_wp2
    go_ret
    exact ⟨rfl, (Below.refl _ _).alloc (Nat.le_refl _) _⟩
  · subst h
    have e0 : (L (0 : Int).natAbs).length = 0 := by simp [L_zero]
    rw [e0, show sg 0 = false by simp [sg]]
    go_enter Try.func58, Try.ntmps58
    go_wp2
    go_ret
    exact ⟨rfl, (Below.refl _ _).alloc (Nat.le_refl _) _⟩
  · have hl : (L z.natAbs).length ≠ 0 := fun k => by have := L_len_zero.1 k; omega
    have hl' : (((L z.natAbs).length : Int) == 0) = false := by simp; intro e; exact hl (by rw [e]; rfl)
    rw [if_neg (by omega), if_pos h, show sg z = false by simp [sg]; omega]
    clear hl
    go_enter Try.func58, Try.ntmps58
    go_wp2
    go_ret
    exact ⟨rfl, (Below.refl _ _).alloc (Nat.le_refl _) _⟩

end Go.Proofs.Ytlmbcicfpidhcaa
