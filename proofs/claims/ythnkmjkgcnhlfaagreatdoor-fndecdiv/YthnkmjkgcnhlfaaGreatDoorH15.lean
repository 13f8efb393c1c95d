/- Two rows of limbs held against each other: the program's against, by a contract. The program's sum of two numbers with signs, by a contract. turned and signOf of the program, by contracts. -/
import Derived.Test.YthnkmjkgcnhlfaaGreatDoorH10
import Derived.Test.YthnkmjkgcnhlfaaGreatDoorH04
import Derived.Test.YthnkmjkgcnhlfaaGreatDoorK05
import Derived.Test.YthnkmjkgcnhlfaaGreatDoorH14
import Derived.WalkSpells
import Derived.Test.YthnkmjkgcnhlfaaGreatDoorH03
import Derived.Deep.RegionWith
namespace Go.Proofs.YthnkmjkgcnhlfaaGreatDoor
open Go.RowKit
set_option maxRecDepth 100000


/-- -1, 0 or 1, as x is less than y, as much, or more. -/
def cmpZ (x y : Int) : Int := if x < y then -1 else if y < x then 1 else 0

theorem cmpZ_lt {x y : Int} (h : x < y) : cmpZ x y = -1 := by simp [cmpZ, h]

theorem cmpZ_gt {x y : Int} (h : y < x) : cmpZ x y = 1 := by simp [cmpZ, h]; omega

theorem cmpZ_eq {x y : Int} (h : x = y) : cmpZ x y = 0 := by simp [cmpZ, h]

theorem compare_any (w : World) (x y : Int) : Calls Tryz.prog 109 #[.int .i64 x, .int .i64 y] w fun e w' => e = .returned (.int .i64 (cmpZ x y)) ∧ w' = w := by
  rcases Int.lt_trichotomy x y with h | h | h
  · rw [cmpZ_lt h]
    go_enter Tryz.func109, Tryz.ntmps109
    go_wp2
    go_ret
    exact ⟨rfl, rfl⟩
  · subst h
    rw [cmpZ_eq rfl]
    go_enter Tryz.func109, Tryz.ntmps109
    go_wp2
    go_ret
    exact ⟨rfl, rfl⟩
  · rw [cmpZ_gt h]
    have h' : ¬ x < y := by omega
    go_enter Tryz.func109, Tryz.ntmps109
    go_wp2
    go_ret
    exact ⟨rfl, rfl⟩

theorem cmp_len {a b : Nat} (h : (L a).length ≠ (L b).length) : cmpZ (L a).length (L b).length = cmpZ a b := by
  rcases Nat.lt_or_gt_of_ne h with h | h
  · rw [cmpZ_lt (by omega), cmpZ_lt (by have := lt_of_len h; omega)]
  · rw [cmpZ_gt (by omega), cmpZ_gt (by have := lt_of_len h; omega)]

theorem cmp_top {a b : Nat} (k : Nat) (h1 : k < (L a).length) (h2 : k < (L b).length) (hd : (L a).drop (k + 1) = (L b).drop (k + 1)) (hne : (L a)[k] ≠ (L b)[k]) : cmpZ (L a)[k] (L b)[k] = cmpZ a b := by
  rcases Int.lt_or_gt_of_ne hne with h | h
  · have := lt_of_top (L_lim a) (L_lim b) h1 h2 hd h
    rw [val_L, val_L] at this
    rw [cmpZ_lt h, cmpZ_lt this]
  · have := lt_of_top (L_lim b) (L_lim a) h2 h1 hd.symm h
    rw [val_L, val_L] at this
    rw [cmpZ_gt h, cmpZ_gt this]

theorem cmp_end {a b : Nat} (h : L a = L b) : cmpZ a b = 0 := cmpZ_eq (by rw [L_inj h])

theorem against_any (w : World) (u v : Value) (a b : Nat) (hu : Reads w u (L a)) (hv : Reads w v (L b)) :
    Calls Tryz.prog 82 #[u, v] w fun e w' => e = .returned (.int .i64 (cmpZ a b)) ∧ Below w.heap.size w w' := by
  have hL1 := L_lim a
  have hL2 := L_lim b
  have v1 := val_L a
  have v2 := val_L b
  have hlen := @cmp_len a b
  have htop := @cmp_top a b
  have hend := @cmp_end a b
  generalize L a = l at *
  generalize L b = m at *
  obtain ⟨ao, b1, off, cap, rfl, hu⟩ := hu
  obtain ⟨ao', b2, off', cap', rfl, hv⟩ := hv
  have h1 := hu.le
  have h2 := hu.big
  have h3 := hv.le
  have h4 := hv.big
  unfold maxLen at h2 h4
  generalize cmpZ (a : Int) (b : Int) = z at *
  clear hL1 hL2 v1 v2
  have Hlen := hide hlen
  have Htop := hide htop
  have Hend := hide hend
  clear hlen htop hend
  by_cases hl : l.length = m.length
  · have hne : ((l.length : Int) != (m.length : Int)) = false := by simp; omega
    have hle1 : l.length ≤ m.length := by omega
    have hle2 : m.length ≤ l.length := by omega
    clear hl
    go_enter Tryz.func82, Tryz.ntmps82
    go_wp2
    go_loopw [5] (fun i wr => ∃ k : Nat, k ≤ l.length ∧ i = .int .i64 ((k : Int) - 1) ∧ l.drop k = m.drop k ∧ Below w.heap.size w wr) (fun i _ => (intOf i + 1).toNat)
    case atStart => exact ⟨l.length, Nat.le_refl _, rfl, by rw [List.drop_of_length_le (by omega), List.drop_of_length_le (by omega)], Below.refl _ _⟩
    case round =>
      obtain ⟨k, hk, rfl, ht, hbel⟩ := hrel
      have Ht := hide ht
      clear ht
      by_cases hp : 0 < k
      · have hlt : k - 1 < l.length := by omega
        have hlt' : k - 1 < m.length := by omega
        have hc := (hu.later hbel).cell (k - 1) hlt
        have hc' := (hv.later hbel).cell (k - 1) hlt'
        have hat := hu.at_ (by omega)
        have hat' := hv.at_ (by omega)
        subst hat hat'
        clear hu hv
        have hd : l.drop (k - 1 + 1) = m.drop (k - 1 + 1) := by rw [show k - 1 + 1 = k by omega]; exact unhide Ht
        have hstep : l[k - 1] = m[k - 1] → l.drop (k - 1) = m.drop (k - 1) := fun e => by rw [← List.getElem_cons_drop hlt, ← List.getElem_cons_drop hlt', hd, e]
        have Hstep := hide hstep
        have HT := hide (fun hne => unhide Htop (k - 1) hlt hlt' hd hne)
        clear hd hstep
        by_cases he : l[k - 1] = m[k - 1]
        · have he' : (l[k - 1] != m[k - 1]) = false := by simp [he]
          have He := hide (unhide Hstep he)
          clear he
          go_wp2
          go_quiet (fail)
          go_wp2
          go_roundw
          case rel => exact ⟨k - 1, by omega, by congr 1; omega, unhide He, below_draws hbel _⟩
          case measure => simp only [intOf]; omega
        · have he' : (l[k - 1] != m[k - 1]) = true := by simpa using he
          have HZ := hide (unhide HT he)
          clear he
          go_wp2
          go_quiet (fail)
          have hq1 : (wr.drewN nq).cell? ⟨b1, off + (k - 1), none⟩ = some (.int .i64 l[k - 1]) := by rw [World.cell?_drewN]; exact hc
          have hq2 : (wr.drewN nq).cell? ⟨b2, off' + (k - 1), none⟩ = some (.int .i64 m[k - 1]) := by rw [World.cell?_drewN]; exact hc'
          have hq3 := below_draws hbel nq
          generalize wr.drewN nq = wq at *
          clear hc hc' hbel
          go_wp2
          go_quiet ((go_at_call 109; exact Calls.quiet_of_same (compare_any _ _ _)))
          go_wp2
          go_ret
          exact ⟨by rw [← unhide HZ]; rfl, below_draws hq3 _⟩
      · have hk0 : k = 0 := by omega
        subst hk0
        have e := unhide Ht
        simp only [List.drop_zero] at e
        have He := hide (unhide Hend e)
        clear e
        go_wp2
        go_ret
        exact ⟨by rw [unhide He]; rfl, hbel⟩
  · have hz := unhide Hlen hl
    have Hz := hide hz
    clear hz
    have hne : ((l.length : Int) != (m.length : Int)) = true := by simp; omega
    clear hu hv
    go_enter Tryz.func82, Tryz.ntmps82
    go_wp2_with (go_at_call 109; refine (compare_any _ _ _).mono ?_; rintro e w1 ⟨rfl, rfl⟩)
    go_ret
    exact ⟨by rw [← unhide Hz]; rfl, Below.refl _ _⟩

end Go.Proofs.YthnkmjkgcnhlfaaGreatDoor

namespace Go.Proofs.YthnkmjkgcnhlfaaGreatDoor
open Go.RowKit
set_option maxRecDepth 100000



/-- A Big value. -/
abbrev bigV (neg : Bool) (v : Value) : Value := .agg #[.bool neg, v]

set_option maxHeartbeats 1000000 in
theorem sumOf_any (w : World) (p q : Bool) (u v : Value) (a b : Nat) (hu : Reads w u (L a)) (hv : Reads w v (L b)) (ha : a < 10000 ^ 199) (hb : b < 10000 ^ 199) (z : Int) (hz : z = zof p a + zof q b) :
    Calls Tryz.prog 46 #[.agg #[.bool p, u], .agg #[.bool q, v]] w (GivesBig w (sg z) (L z.natAbs)) := by
  have ha' : a < 10000 ^ 200 := Nat.lt_of_lt_of_le ha (Nat.pow_le_pow_right (by decide) (by decide))
  have hb' : b < 10000 ^ 200 := Nat.lt_of_lt_of_le hb (Nat.pow_le_pow_right (by decide) (by decide))
  have Hz := hide hz
  have HA := hide ha'
  have HB := hide hb'
  clear ha hb hz ha' hb'
  have U := hide hu
  have V := hide hv
  obtain ⟨ao, b1, off, cap, rfl, hu⟩ := hu
  obtain ⟨ao', b2, off', cap', rfl, hv⟩ := hv
  clear hu hv
  by_cases hpq : p = q
  · subst hpq
    have hpp : (p == p) = true := by simp
    have hz' : z = zof p (a + b) := by have := unhide Hz; unfold zof at *; cases p <;> simp at * <;> omega
    have Hz' := hide hz'
    clear hz'
    have C := hide (fun W (h : Below w.heap.size w W) => plus_any W _ _ a b ((unhide U).later h) ((unhide V).later h) (unhide HA) (unhide HB))
    go_enter Tryz.func46, Tryz.ntmps46
    go_wp2
    go_quiet (fail)
    go_wp2
    have B0 : ∀ k, Below w.heap.size w ((((w.alloc (.cells #[.bool p, .slice ao (L a).length cap] 25)).alloc (.cells #[.bool p, .slice ao' (L b).length cap'] 25)).alloc (.cells #[.bool false, .slice none 0 0] 25)).drewN k) :=
      fun k => below_drewN ((((Below.refl _ _).alloc (Nat.le_refl _) _).alloc (by simp) _).alloc (by simp; omega) _) k
    have C0 : ∀ k, ((((w.alloc (.cells #[.bool p, .slice ao (L a).length cap] 25)).alloc (.cells #[.bool p, .slice ao' (L b).length cap'] 25)).alloc (.cells #[.bool false, .slice none 0 0] 25)).drewN k).cell? ⟨w.heap.size, 0, none⟩ = some (.bool p) := fun k => by go_simp
    have C1 : ∀ k, ((((w.alloc (.cells #[.bool p, .slice ao (L a).length cap] 25)).alloc (.cells #[.bool p, .slice ao' (L b).length cap'] 25)).alloc (.cells #[.bool false, .slice none 0 0] 25)).drewN k).cell? ⟨w.heap.size + 1 + 1, 0, none⟩ = some (.bool false) := fun k => by go_simp
    have C2 : ∀ k, ((((w.alloc (.cells #[.bool p, .slice ao (L a).length cap] 25)).alloc (.cells #[.bool p, .slice ao' (L b).length cap'] 25)).alloc (.cells #[.bool false, .slice none 0 0] 25)).drewN k).cell? ⟨w.heap.size + 1 + 1, 1, none⟩ = some (.slice none 0 0) := fun k => by go_simp
    have C3 : ∀ k, ((((w.alloc (.cells #[.bool p, .slice ao (L a).length cap] 25)).alloc (.cells #[.bool p, .slice ao' (L b).length cap'] 25)).alloc (.cells #[.bool false, .slice none 0 0] 25)).drewN k).frozen? ⟨w.heap.size + 1 + 1, 0, none⟩ = false := fun k => by go_simp
    have C4 : ∀ k, ((((w.alloc (.cells #[.bool p, .slice ao (L a).length cap] 25)).alloc (.cells #[.bool p, .slice ao' (L b).length cap'] 25)).alloc (.cells #[.bool false, .slice none 0 0] 25)).drewN k).frozen? ⟨w.heap.size + 1 + 1, 1, none⟩ = false := fun k => by go_simp
    have C5 : ∀ k, w.heap.size + 1 + 1 < ((((w.alloc (.cells #[.bool p, .slice ao (L a).length cap] 25)).alloc (.cells #[.bool p, .slice ao' (L b).length cap'] 25)).alloc (.cells #[.bool false, .slice none 0 0] 25)).drewN k).heap.size := fun k => by simp
    have W0b := B0 nq
    have P0 := C0 nq
    have R0 := C1 nq
    have R0' := C2 nq
    have F0 := C3 nq
    have F0' := C4 nq
    have z0 := C5 nq
    clear B0 C0 C1 C2 C3 C4 C5
    generalize (((w.alloc (.cells #[.bool p, .slice ao (L a).length cap] 25)).alloc (.cells #[.bool p, .slice ao' (L b).length cap'] 25)).alloc (.cells #[.bool false, .slice none 0 0] 25)).drewN nq = W0 at *
    go_region_with (first
      | (go_at_call 78; refine (unhide C _ ?_).mono ?_; exact W0b.drew; rintro e w1 ⟨ao1, cap1, rfl, o1, b1⟩; have P1 := cell_later b1 P0; have R1 := cell_later b1 R0; have R1' := cell_later b1 R0'; have F1 := frozen_later b1 F0 z0; have F1' := frozen_later b1 F0' z0; have z1 := lt_later b1 z0; have bb1 := W0b.drew.trans (b1.mono W0b.drew.size))
      | (go_at_call 65; refine (signed_any _ _ ao1 _ cap1).mono ?_; rintro e w2 ⟨he, b2⟩; obtain ⟨ao3, cap3, e3, o3, bb3⟩ := signed_gives (w := w) (z := z) o1 bb1 b2 (unhide Hz'); rw [e3] at he; subst he; have R2 := cell_later b2 R1; have R2' := cell_later b2 R1'; have F2 := frozen_later b2 F1 z1; have F2' := frozen_later b2 F1' z1))
    all_goals
      go_wp2
      refine bodyPost_ret (v := .agg #[.bool (sg z), .slice ao3 (L z.natAbs).length cap3]) (by simp [results, Tryz.results46, go_sem, R2, R2']) rfl ⟨ao3, cap3, rfl, ?_, ?_⟩
      · exact ((o3.setBelow (by exact z0) _).setBelow (by exact z0) _).mono W0b.size
      · exact (bb3.setCell (by simp; omega) _).setCell (by simp; omega) _
  · have hpp : (p == q) = false := by simp [hpq]
    have CA := hide (fun W (h : Below w.heap.size w W) => against_any W _ _ a b ((unhide U).later h) ((unhide V).later h))
    clear hpq
    go_enter Tryz.func46, Tryz.ntmps46
    go_wp2
    go_quiet (fail)
    have W0b : Below w.heap.size w ((((w.alloc (.cells #[.bool p, .slice ao (L a).length cap] 25)).alloc (.cells #[.bool q, .slice ao' (L b).length cap'] 25)).alloc (.cells #[.bool false, .slice none 0 0] 25)).drewN nq) := below_drewN ((((Below.refl _ _).alloc (Nat.le_refl _) _).alloc (by simp) _).alloc (by simp; omega) _) nq
    have P0 : ((((w.alloc (.cells #[.bool p, .slice ao (L a).length cap] 25)).alloc (.cells #[.bool q, .slice ao' (L b).length cap'] 25)).alloc (.cells #[.bool false, .slice none 0 0] 25)).drewN nq).cell? ⟨w.heap.size, 0, none⟩ = some (.bool p) := by go_simp
    have Q0 : ((((w.alloc (.cells #[.bool p, .slice ao (L a).length cap] 25)).alloc (.cells #[.bool q, .slice ao' (L b).length cap'] 25)).alloc (.cells #[.bool false, .slice none 0 0] 25)).drewN nq).cell? ⟨w.heap.size + 1, 0, none⟩ = some (.bool q) := by go_simp
    have R0 : ((((w.alloc (.cells #[.bool p, .slice ao (L a).length cap] 25)).alloc (.cells #[.bool q, .slice ao' (L b).length cap'] 25)).alloc (.cells #[.bool false, .slice none 0 0] 25)).drewN nq).cell? ⟨w.heap.size + 1 + 1, 0, none⟩ = some (.bool false) := by go_simp
    have R0' : ((((w.alloc (.cells #[.bool p, .slice ao (L a).length cap] 25)).alloc (.cells #[.bool q, .slice ao' (L b).length cap'] 25)).alloc (.cells #[.bool false, .slice none 0 0] 25)).drewN nq).cell? ⟨w.heap.size + 1 + 1, 1, none⟩ = some (.slice none 0 0) := by go_simp
    have F0 : ((((w.alloc (.cells #[.bool p, .slice ao (L a).length cap] 25)).alloc (.cells #[.bool q, .slice ao' (L b).length cap'] 25)).alloc (.cells #[.bool false, .slice none 0 0] 25)).drewN nq).frozen? ⟨w.heap.size + 1 + 1, 0, none⟩ = false := by go_simp
    have F0' : ((((w.alloc (.cells #[.bool p, .slice ao (L a).length cap] 25)).alloc (.cells #[.bool q, .slice ao' (L b).length cap'] 25)).alloc (.cells #[.bool false, .slice none 0 0] 25)).drewN nq).frozen? ⟨w.heap.size + 1 + 1, 1, none⟩ = false := by go_simp
    have z0 : w.heap.size + 1 + 1 < ((((w.alloc (.cells #[.bool p, .slice ao (L a).length cap] 25)).alloc (.cells #[.bool q, .slice ao' (L b).length cap'] 25)).alloc (.cells #[.bool false, .slice none 0 0] 25)).drewN nq).heap.size := by simp
    generalize (((w.alloc (.cells #[.bool p, .slice ao (L a).length cap] 25)).alloc (.cells #[.bool q, .slice ao' (L b).length cap'] 25)).alloc (.cells #[.bool false, .slice none 0 0] 25)).drewN nq = W0 at *
    go_wp2_with fail
    refine (unhide CA W0 W0b).mono ?_
    rintro e wA ⟨rfl, bA⟩
    have WAb : Below w.heap.size w wA := W0b.trans (bA.mono W0b.size)
    have PA := cell_later bA P0
    have QA := cell_later bA Q0
    have RA := cell_later bA R0
    have RA' := cell_later bA R0'
    have FA := frozen_later bA F0 z0
    have FA' := frozen_later bA F0' z0
    have zA := lt_later bA z0
    clear P0 Q0 R0 R0' F0 F0' z0 bA W0b CA
    by_cases hab : b ≤ a
    · have hge : (0 : Int) ≤ cmpZ a b := by
        by_cases e : a = b
        · rw [cmpZ_eq (by omega)]; omega
        · rw [cmpZ_gt (by omega)]; omega
      have hz' : z = zof p (a - b) := by
        have := unhide Hz
        unfold zof at *
        cases p <;> cases q <;> simp at * <;> omega
      have Hz' := hide hz'
      have C := hide (fun W (h : Below w.heap.size w W) => minus_any W _ _ a b ((unhide U).later h) ((unhide V).later h) (unhide HA) hab)
      clear hz' QA hab
      go_wp2
      go_region_with (first
        | (go_at_call 83; refine (unhide C _ ?_).mono ?_; exact WAb.drew; rintro e w1 ⟨ao1, cap1, rfl, o1, b1⟩; have P1 := cell_later b1 PA; have R1 := cell_later b1 RA; have R1' := cell_later b1 RA'; have F1 := frozen_later b1 FA zA; have F1' := frozen_later b1 FA' zA; have z1 := lt_later b1 zA; have bb1 := WAb.drew.trans (b1.mono WAb.drew.size))
        | (go_at_call 65; refine (signed_any _ _ ao1 _ cap1).mono ?_; rintro e w2 ⟨he, b2⟩; obtain ⟨ao3, cap3, e3, o3, bb3⟩ := signed_gives (w := w) (z := z) o1 bb1 b2 (unhide Hz'); rw [e3] at he; subst he; have R2 := cell_later b2 R1; have R2' := cell_later b2 R1'; have F2 := frozen_later b2 F1 z1; have F2' := frozen_later b2 F1' z1))
      all_goals
        go_wp2
        refine bodyPost_ret (v := .agg #[.bool (sg z), .slice ao3 (L z.natAbs).length cap3]) (by simp [results, Tryz.results46, go_sem, R2, R2']) rfl ⟨ao3, cap3, rfl, ?_, ?_⟩
        · exact ((o3.setBelow (by exact zA) _).setBelow (by exact zA) _).mono WAb.size
        · exact (bb3.setCell (by simp; omega) _).setCell (by simp; omega) _
    · have hge : cmpZ a b < 0 := by rw [cmpZ_lt (by omega)]; omega
      have hz' : z = zof q (b - a) := by
        have := unhide Hz
        unfold zof at *
        cases p <;> cases q <;> simp at * <;> omega
      have Hz' := hide hz'
      have C := hide (fun W (h : Below w.heap.size w W) => minus_any W _ _ b a ((unhide V).later h) ((unhide U).later h) (unhide HB) (by omega))
      clear hz' PA hab
      go_wp2
      go_region_with (first
        | (go_at_call 83; refine (unhide C _ ?_).mono ?_; exact WAb.drew; rintro e w1 ⟨ao1, cap1, rfl, o1, b1⟩; have P1 := cell_later b1 QA; have R1 := cell_later b1 RA; have R1' := cell_later b1 RA'; have F1 := frozen_later b1 FA zA; have F1' := frozen_later b1 FA' zA; have z1 := lt_later b1 zA; have bb1 := WAb.drew.trans (b1.mono WAb.drew.size))
        | (go_at_call 65; refine (signed_any _ _ ao1 _ cap1).mono ?_; rintro e w2 ⟨he, b2⟩; obtain ⟨ao3, cap3, e3, o3, bb3⟩ := signed_gives (w := w) (z := z) o1 bb1 b2 (unhide Hz'); rw [e3] at he; subst he; have R2 := cell_later b2 R1; have R2' := cell_later b2 R1'; have F2 := frozen_later b2 F1 z1; have F2' := frozen_later b2 F1' z1))
      all_goals
        go_wp2
        refine bodyPost_ret (v := .agg #[.bool (sg z), .slice ao3 (L z.natAbs).length cap3]) (by simp [results, Tryz.results46, go_sem, R2, R2']) rfl ⟨ao3, cap3, rfl, ?_, ?_⟩
        · exact ((o3.setBelow (by exact zA) _).setBelow (by exact zA) _).mono WAb.size
        · exact (bb3.setCell (by simp; omega) _).setCell (by simp; omega) _

end Go.Proofs.YthnkmjkgcnhlfaaGreatDoor

namespace Go.Proofs.YthnkmjkgcnhlfaaGreatDoor
open Go.RowKit
set_option maxRecDepth 100000

theorem signOf_any (w : World) (v : Value) (z : Int) (hr : Reads w v (L z.natAbs)) :
    Calls Tryz.prog 54 #[.agg #[.bool (sg z), v]] w fun e w' => e = .returned (.int .i64 (if z < 0 then -1 else if 0 < z then 1 else 0)) ∧ Below w.heap.size w w' := by
  obtain ⟨ao, b, off, cap, rfl, hr⟩ := hr
  clear hr
  rcases Int.lt_trichotomy z 0 with h | h | h
  · rw [if_pos h, show sg z = true by simp [sg, h]]
    go_enter Tryz.func54, Tryz.ntmps54
    go_wp2
    go_ret
    exact ⟨rfl, (Below.refl _ _).alloc (Nat.le_refl _) _⟩
  · subst h
    have e0 : (L (0 : Int).natAbs).length = 0 := by simp [L_zero]
    rw [e0, show sg 0 = false by simp [sg]]
    go_enter Tryz.func54, Tryz.ntmps54
    go_wp2
    go_ret
    exact ⟨rfl, (Below.refl _ _).alloc (Nat.le_refl _) _⟩
  · have hl : (L z.natAbs).length ≠ 0 := fun k => by have := L_len_zero.1 k; omega
    have hl' : (((L z.natAbs).length : Int) == 0) = false := by simp; intro e; exact hl (by rw [e]; rfl)
    rw [if_neg (by omega), if_pos h, show sg z = false by simp [sg]; omega]
    clear hl
    go_enter Tryz.func54, Tryz.ntmps54
    go_wp2
    go_ret
    exact ⟨rfl, (Below.refl _ _).alloc (Nat.le_refl _) _⟩

end Go.Proofs.YthnkmjkgcnhlfaaGreatDoor
