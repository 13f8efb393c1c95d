/- Where a quotient was cut off: between, half, fromHalf, pastHalf and away of the program, by contracts. -/
import Derived.Test.YthnkmjkgcnhlfaaGreatDoorH03
import Derived.Test.YthnkmjkgcnhlfaaGreatDoorH14
import Derived.Test.YthnkmjkgcnhlfaaGreatDoorH15
import Derived.Deep.RegionHeld3
import Derived.Laws.EntriesVeiled
namespace Go.Proofs.YthnkmjkgcnhlfaaGreatDoor
open Go.RowKit
set_option maxRecDepth 100000

theorem between_any (w : World) (n o : Bool) (ar av : Option Addr) (r cr s cs : Nat) (hr : r ≤ 9223372036854775807) :
    Calls Tryz.prog 124 #[.agg #[.bool n, .bool o, .slice ar r cr, .slice av s cs]] w fun e w' => e = .returned (.bool (decide (r ≠ 0))) ∧ Below w.heap.size w w' := by
  obtain ⟨q, hq⟩ : ∃ q, decide (r ≠ 0) = q := ⟨_, rfl⟩
  have e1 : decide ((0 : Int) < r) = q := by rw [← hq]; exact decide_eq_decide.2 (by omega)
  have e2 : decide (0 < r) = q := by rw [← hq]; exact decide_eq_decide.2 (by omega)
  rw [hq]
  clear hq
  go_enter Tryz.func124, Tryz.ntmps124
  go_wp2
  go_ret
  exact ⟨rfl, (Below.refl _ _).alloc (Nat.le_refl _) _⟩

theorem half_any (w : World) (n o : Bool) (u v : Value) (r b : Nat) (hu : Reads w u (L r)) (hv : Reads w v (L b)) (hr : r < 10000 ^ 199) :
    Calls Tryz.prog 141 #[.agg #[.bool n, .bool o, u, v]] w fun e w' => e = .returned (.int .i64 (cmpZ (r + r : Nat) b)) ∧ Below w.heap.size w w' := by
  obtain ⟨ao, b1, off, cap, rfl, hu0⟩ := id hu
  obtain ⟨ao', b2, off', cap', rfl, hv0⟩ := id hv
  clear hu0 hv0
  have up : (10000 : Nat) ^ 199 ≤ 10000 ^ 200 := Nat.pow_le_pow_right (by decide) (by decide)
  have CP := hide (fun W (h : Below w.heap.size w W) => plus_any W _ _ r r (hu.later h) (hu.later h) (Nat.lt_of_lt_of_le hr up) (Nat.lt_of_lt_of_le hr up))
  have CA := hide (fun W x (h : Below w.heap.size w W) (hx : Reads W x (L (r + r))) => against_any W x _ (r + r) b hx (hv.later h))
  clear hu hv hr up
  generalize cmpZ (r + r : Nat) b = Z at *
  go_enter Tryz.func141, Tryz.ntmps141
  have B0 : Below w.heap.size w (w.alloc (.cells #[.bool n, .bool o, .slice ao (L r).length cap, .slice ao' (L b).length cap'] 101)) := (Below.refl _ _).alloc (Nat.le_refl _) _
  have c2 : (w.alloc (.cells #[.bool n, .bool o, .slice ao (L r).length cap, .slice ao' (L b).length cap'] 101)).cell? ⟨w.heap.size, 2, none⟩ = some (.slice ao (L r).length cap) := by go_simp
  have c3 : (w.alloc (.cells #[.bool n, .bool o, .slice ao (L r).length cap, .slice ao' (L b).length cap'] 101)).cell? ⟨w.heap.size, 3, none⟩ = some (.slice ao' (L b).length cap') := by go_simp
  go_wp2_with fail
  generalize w.alloc (.cells #[.bool n, .bool o, .slice ao (L r).length cap, .slice ao' (L b).length cap'] 101) = w0 at *
  have stab : ∀ w' : World, Below w0.heap.size w0 w' → (w'.cell? ⟨w.heap.size, 2, none⟩ = some (.slice ao (L r).length cap) ∧ w'.cell? ⟨w.heap.size, 3, none⟩ = some (.slice ao' (L b).length cap')) := fun w' h => ⟨cell_later h c2, cell_later h c3⟩
  have Stab := hide stab
  clear stab
  go_region_held3 (fun w' => w'.cell? ⟨w.heap.size, 2, none⟩ = some (.slice ao (L r).length cap) ∧ w'.cell? ⟨w.heap.size, 3, none⟩ = some (.slice ao' (L b).length cap'))
    (first | with_reducible exact unhide Stab _ (Below.refl _ _).drew | with_reducible exact unhide Stab _ BX | with_reducible exact unhide Stab _ BY)
    (first
      | (go_at_call 78; refine (unhide CP _ ?_).mono ?_; exact B0.drew; rintro e w1 ⟨a1, c1, rfl, o1, b1⟩; have BX : Below w0.heap.size w0 w1 := (Below.refl _ _).drew.trans b1)
      | (go_at_call 82; refine (unhide CA _ _ ?_ o1.reads).mono ?_; exact B0.trans (BX.mono B0.size); rintro e w2 ⟨rfl, b2⟩; have BY : Below w0.heap.size w0 w2 := BX.trans (b2.mono BX.size)))
  go_wp2
  go_ret
  exact ⟨rfl, B0.trans (BY.mono B0.size)⟩

theorem cmpZ_small (x y : Int) : -1 ≤ cmpZ x y ∧ cmpZ x y ≤ 1 := by
  unfold cmpZ
  split
  · omega
  · split <;> omega

theorem fromHalf_any (w : World) (n o : Bool) (u v : Value) (r b : Nat) (hu : Reads w u (L r)) (hv : Reads w v (L b)) (hr : r < 10000 ^ 199) :
    Calls Tryz.prog 128 #[.agg #[.bool n, .bool o, u, v]] w fun e w' => e = .returned (.bool (decide (0 ≤ cmpZ (r + r : Nat) b))) ∧ Below w.heap.size w w' := by
  have C := hide (fun W (h : Below w.heap.size w W) => half_any W n o u v r b (hu.later h) (hv.later h) hr)
  obtain ⟨ao, b1, off, cap, rfl, hu0⟩ := id hu
  obtain ⟨ao', b2, off', cap', rfl, hv0⟩ := id hv
  clear hu0 hv0 hu hv hr
  have hz := cmpZ_small (r + r : Nat) b
  generalize cmpZ (r + r : Nat) b = Z at *
  obtain ⟨q, hq⟩ : ∃ q, decide (0 ≤ Z) = q := ⟨_, rfl⟩
  rw [hq]
  go_enter Tryz.func128, Tryz.ntmps128
  go_wp2_with fail
  refine (unhide C _ ((Below.refl _ _).alloc (Nat.le_refl _) _)).mono ?_
  rintro e w1 ⟨rfl, b1⟩
  go_wp2
  go_ret
  exact ⟨rfl, ((Below.refl _ _).alloc (Nat.le_refl _) _).trans (b1.mono (by simp))⟩

theorem pastHalf_any (w : World) (n o : Bool) (u v : Value) (r b : Nat) (hu : Reads w u (L r)) (hv : Reads w v (L b)) (hr : r < 10000 ^ 199) :
    Calls Tryz.prog 129 #[.agg #[.bool n, .bool o, u, v]] w fun e w' => e = .returned (.bool (decide (0 < cmpZ (r + r : Nat) b))) ∧ Below w.heap.size w w' := by
  have C := hide (fun W (h : Below w.heap.size w W) => half_any W n o u v r b (hu.later h) (hv.later h) hr)
  obtain ⟨ao, b1, off, cap, rfl, hu0⟩ := id hu
  obtain ⟨ao', b2, off', cap', rfl, hv0⟩ := id hv
  clear hu0 hv0 hu hv hr
  have hz := cmpZ_small (r + r : Nat) b
  generalize cmpZ (r + r : Nat) b = Z at *
  obtain ⟨q, hq⟩ : ∃ q, decide (0 < Z) = q := ⟨_, rfl⟩
  rw [hq]
  go_enter Tryz.func129, Tryz.ntmps129
  go_wp2_with fail
  refine (unhide C _ ((Below.refl _ _).alloc (Nat.le_refl _) _)).mono ?_
  rintro e w1 ⟨rfl, b1⟩
  go_wp2
  go_ret
  exact ⟨rfl, ((Below.refl _ _).alloc (Nat.le_refl _) _).trans (b1.mono (by simp))⟩

/-- Whether what is left of a division is rounded away from 0. -/
def moreZ (mode : Int) (neg odd : Bool) (c : Int) : Bool :=
  if mode = 1 then true else if mode = 2 then false else if mode = 3 then !neg else if mode = 4 then neg else if mode = 5 then decide (0 ≤ c) else if mode = 6 then decide (0 < c) else (decide (0 < c) || (decide (c = 0) && odd))
/-- Whether the step away from 0 is taken. -/
def awayZ (mode : Int) (neg odd : Bool) (r b : Nat) : Bool := decide (r ≠ 0) && moreZ mode neg odd (cmpZ (r + r : Nat) b)

theorem away1 (w : World) (n o : Bool) (ar av : Option Addr) (r cr s cs : Nat) (hr : r ≤ 9223372036854775807) :
    Calls Tryz.prog 102 #[.agg #[.bool n, .bool o, .slice ar r cr, .slice av s cs], .int .i64 1] w fun e w' => e = .returned (.bool (decide (r ≠ 0))) ∧ Below w.heap.size w w' := by
  have C := hide (fun W => between_any W n o ar av r cr s cs hr)
  generalize decide (r ≠ 0) = Q at *
  go_enter Tryz.func102, Tryz.ntmps102
  go_wp2_with fail
  refine (unhide C _).mono ?_
  rintro e w1 ⟨rfl, b1⟩
  go_wp2
  go_ret
  exact ⟨rfl, (((Below.refl _ _).alloc (Nat.le_refl _) _).alloc (by simp) _).trans (b1.mono (by simp; omega))⟩

theorem away2 (w : World) (n o : Bool) (ar av : Option Addr) (r cr s cs : Nat) :
    Calls Tryz.prog 102 #[.agg #[.bool n, .bool o, .slice ar r cr, .slice av s cs], .int .i64 2] w fun e w' => e = .returned (.bool false) ∧ Below w.heap.size w w' := by
  go_enter Tryz.func102, Tryz.ntmps102
  go_wp2
  go_ret
  exact ⟨rfl, ((Below.refl _ _).alloc (Nat.le_refl _) _).alloc (by simp) _⟩

set_option maxHeartbeats 1000000 in
theorem ceil_any (w : World) (k : Nat) (n o : Bool) (ar av : Option Addr) (r cr s cs : Nat) (hr : r ≤ 9223372036854775807) (h0 : w.cell? ⟨k, 0, none⟩ = some (.bool n)) (h1 : w.cell? ⟨k, 1, none⟩ = some (.bool o)) (h2 : w.cell? ⟨k, 2, none⟩ = some (.slice ar r cr)) (h3 : w.cell? ⟨k, 3, none⟩ = some (.slice av s cs)) :
    Calls Tryz.prog 126 #[.pointer (some ⟨k, 0, none⟩)] w fun e w' => e = .returned (.bool (decide (r ≠ 0) && !n)) ∧ Below w.heap.size w w' := by
  have C := hide (fun W => between_any W n o ar av r cr s cs hr)
  generalize decide (r ≠ 0) = Q at *
  cases Q
  · go_enter Tryz.func126, Tryz.ntmps126
    go_wp2_with fail
    refine (unhide C _).mono ?_
    rintro e w1 ⟨rfl, b1⟩
    have g0 := cell_later b1 h0
    go_wp2
    go_ret
    exact ⟨rfl, b1⟩
  · cases n
    all_goals
      go_enter Tryz.func126, Tryz.ntmps126
      go_wp2_with fail
      refine (unhide C _).mono ?_
      rintro e w1 ⟨rfl, b1⟩
      have g0 := cell_later b1 h0
      go_wp2
      go_ret
      exact ⟨rfl, b1⟩

set_option maxHeartbeats 1000000 in
theorem floor_any (w : World) (k : Nat) (n o : Bool) (ar av : Option Addr) (r cr s cs : Nat) (hr : r ≤ 9223372036854775807) (h0 : w.cell? ⟨k, 0, none⟩ = some (.bool n)) (h1 : w.cell? ⟨k, 1, none⟩ = some (.bool o)) (h2 : w.cell? ⟨k, 2, none⟩ = some (.slice ar r cr)) (h3 : w.cell? ⟨k, 3, none⟩ = some (.slice av s cs)) :
    Calls Tryz.prog 127 #[.pointer (some ⟨k, 0, none⟩)] w fun e w' => e = .returned (.bool (decide (r ≠ 0) && n)) ∧ Below w.heap.size w w' := by
  have C := hide (fun W => between_any W n o ar av r cr s cs hr)
  generalize decide (r ≠ 0) = Q at *
  cases Q
  · go_enter Tryz.func127, Tryz.ntmps127
    go_wp2_with fail
    refine (unhide C _).mono ?_
    rintro e w1 ⟨rfl, b1⟩
    have g0 := cell_later b1 h0
    go_wp2
    go_ret
    exact ⟨rfl, b1⟩
  · cases n
    all_goals
      go_enter Tryz.func127, Tryz.ntmps127
      go_wp2_with fail
      refine (unhide C _).mono ?_
      rintro e w1 ⟨rfl, b1⟩
      have g0 := cell_later b1 h0
      go_wp2
      go_ret
      exact ⟨rfl, b1⟩

set_option maxHeartbeats 1000000 in
theorem even_any (w : World) (k : Nat) (n o : Bool) (u v : Value) (r b : Nat) (hu : Reads w u (L r)) (hv : Reads w v (L b)) (hr : r < 10000 ^ 199) (h0 : w.cell? ⟨k, 0, none⟩ = some (.bool n)) (h1 : w.cell? ⟨k, 1, none⟩ = some (.bool o)) (h2 : w.cell? ⟨k, 2, none⟩ = some u) (h3 : w.cell? ⟨k, 3, none⟩ = some v) :
    Calls Tryz.prog 130 #[.pointer (some ⟨k, 0, none⟩)] w fun e w' => e = .returned (.bool (decide (0 < cmpZ (r + r : Nat) b) || (decide (0 ≤ cmpZ (r + r : Nat) b) && o))) ∧ Below w.heap.size w w' := by
  have CP := hide (fun W (h : Below w.heap.size w W) => pastHalf_any W n o u v r b (hu.later h) (hv.later h) hr)
  have CF := hide (fun W (h : Below w.heap.size w W) => fromHalf_any W n o u v r b (hu.later h) (hv.later h) hr)
  obtain ⟨ao, b1, off, cap, rfl, hu0⟩ := id hu
  obtain ⟨ao', b2, off', cap', rfl, hv0⟩ := id hv
  clear hu0 hv0 hu hv hr
  generalize decide (0 < cmpZ (r + r : Nat) b) = P at *
  generalize decide (0 ≤ cmpZ (r + r : Nat) b) = F at *
  cases P
  · cases F
    · go_enter Tryz.func130, Tryz.ntmps130
      go_wp2_with fail
      refine (unhide CP _ (Below.refl _ _)).mono ?_
      rintro e w1 ⟨rfl, b1⟩
      have g0 := cell_later b1 h0
      have g1 := cell_later b1 h1
      have g2 := cell_later b1 h2
      have g3 := cell_later b1 h3
      go_wp2_with fail
      refine (unhide CF _ b1).mono ?_
      rintro e w2 ⟨rfl, b2⟩
      go_wp2
      go_ret
      exact ⟨rfl, b1.trans (b2.mono b1.size)⟩
    · go_enter Tryz.func130, Tryz.ntmps130
      go_wp2_with fail
      refine (unhide CP _ (Below.refl _ _)).mono ?_
      rintro e w1 ⟨rfl, b1⟩
      have g0 := cell_later b1 h0
      have g1 := cell_later b1 h1
      have g2 := cell_later b1 h2
      have g3 := cell_later b1 h3
      go_wp2_with fail
      refine (unhide CF _ b1).mono ?_
      rintro e w2 ⟨rfl, b2⟩
      have f1 := cell_later b2 g1
      go_wp2
      go_ret
      exact ⟨rfl, b1.trans (b2.mono b1.size)⟩
  · go_enter Tryz.func130, Tryz.ntmps130
    go_wp2_with fail
    refine (unhide CP _ (Below.refl _ _)).mono ?_
    rintro e w1 ⟨rfl, b1⟩
    go_wp2
    go_ret
    exact ⟨rfl, b1⟩

set_option maxHeartbeats 1000000 in
theorem away3 (w : World) (n o : Bool) (ar av : Option Addr) (r cr s cs : Nat) (hr : r ≤ 9223372036854775807) :
    Calls Tryz.prog 102 #[.agg #[.bool n, .bool o, .slice ar r cr, .slice av s cs], .int .i64 3] w fun e w' => e = .returned (.bool (decide (r ≠ 0) && !n)) ∧ Below w.heap.size w w' := by
  have C := hide (fun W k h0 h1 h2 h3 => ceil_any W k n o ar av r cr s cs hr h0 h1 h2 h3)
  generalize (decide (r ≠ 0) && !n) = Q at *
  go_enter Tryz.func102, Tryz.ntmps102
  go_wp2_with fail
  refine (unhide C _ _ (by go_simp) (by go_simp) (by go_simp) (by go_simp)).mono ?_
  rintro e w1 ⟨rfl, b1⟩
  go_wp2
  go_ret
  exact ⟨rfl, (((Below.refl _ _).alloc (Nat.le_refl _) _).alloc (by simp) _).trans (b1.mono (by simp; omega))⟩

set_option maxHeartbeats 1000000 in
theorem away4 (w : World) (n o : Bool) (ar av : Option Addr) (r cr s cs : Nat) (hr : r ≤ 9223372036854775807) :
    Calls Tryz.prog 102 #[.agg #[.bool n, .bool o, .slice ar r cr, .slice av s cs], .int .i64 4] w fun e w' => e = .returned (.bool (decide (r ≠ 0) && n)) ∧ Below w.heap.size w w' := by
  have C := hide (fun W k h0 h1 h2 h3 => floor_any W k n o ar av r cr s cs hr h0 h1 h2 h3)
  generalize (decide (r ≠ 0) && n) = Q at *
  go_enter Tryz.func102, Tryz.ntmps102
  go_wp2_with fail
  refine (unhide C _ _ (by go_simp) (by go_simp) (by go_simp) (by go_simp)).mono ?_
  rintro e w1 ⟨rfl, b1⟩
  go_wp2
  go_ret
  exact ⟨rfl, (((Below.refl _ _).alloc (Nat.le_refl _) _).alloc (by simp) _).trans (b1.mono (by simp; omega))⟩

set_option maxHeartbeats 1000000 in
theorem away5 (w : World) (n o : Bool) (ar av : Option Addr) (r cr b cs : Nat) (hu : Reads w (.slice ar (L r).length cr) (L r)) (hv : Reads w (.slice av (L b).length cs) (L b)) (hr : r < 10000 ^ 199) :
    Calls Tryz.prog 102 #[.agg #[.bool n, .bool o, .slice ar (L r).length cr, .slice av (L b).length cs], .int .i64 5] w fun e w' => e = .returned (.bool (decide (0 ≤ cmpZ (r + r : Nat) b))) ∧ Below w.heap.size w w' := by
  have C := hide (fun W (h : Below w.heap.size w W) => fromHalf_any W n o _ _ r b (hu.later h) (hv.later h) hr)
  generalize decide (0 ≤ cmpZ (r + r : Nat) b) = Q at *
  go_enter Tryz.func102, Tryz.ntmps102
  go_wp2_with fail
  refine (unhide C _ (((Below.refl _ _).alloc (Nat.le_refl _) _).alloc (by simp) _)).mono ?_
  rintro e w1 ⟨rfl, b1⟩
  go_wp2
  go_ret
  exact ⟨rfl, (((Below.refl _ _).alloc (Nat.le_refl _) _).alloc (by simp) _).trans (b1.mono (by simp; omega))⟩

set_option maxHeartbeats 1000000 in
theorem away6 (w : World) (n o : Bool) (ar av : Option Addr) (r cr b cs : Nat) (hu : Reads w (.slice ar (L r).length cr) (L r)) (hv : Reads w (.slice av (L b).length cs) (L b)) (hr : r < 10000 ^ 199) :
    Calls Tryz.prog 102 #[.agg #[.bool n, .bool o, .slice ar (L r).length cr, .slice av (L b).length cs], .int .i64 6] w fun e w' => e = .returned (.bool (decide (0 < cmpZ (r + r : Nat) b))) ∧ Below w.heap.size w w' := by
  have C := hide (fun W (h : Below w.heap.size w W) => pastHalf_any W n o _ _ r b (hu.later h) (hv.later h) hr)
  generalize decide (0 < cmpZ (r + r : Nat) b) = Q at *
  go_enter Tryz.func102, Tryz.ntmps102
  go_wp2_with fail
  refine (unhide C _ (((Below.refl _ _).alloc (Nat.le_refl _) _).alloc (by simp) _)).mono ?_
  rintro e w1 ⟨rfl, b1⟩
  go_wp2
  go_ret
  exact ⟨rfl, (((Below.refl _ _).alloc (Nat.le_refl _) _).alloc (by simp) _).trans (b1.mono (by simp; omega))⟩

set_option maxHeartbeats 1000000 in
theorem away7 (w : World) (n o : Bool) (ar av : Option Addr) (r cr b cs : Nat) (hu : Reads w (.slice ar (L r).length cr) (L r)) (hv : Reads w (.slice av (L b).length cs) (L b)) (hr : r < 10000 ^ 199) :
    Calls Tryz.prog 102 #[.agg #[.bool n, .bool o, .slice ar (L r).length cr, .slice av (L b).length cs], .int .i64 7] w fun e w' => e = .returned (.bool (decide (0 < cmpZ (r + r : Nat) b) || (decide (0 ≤ cmpZ (r + r : Nat) b) && o))) ∧ Below w.heap.size w w' := by
  have C := hide (fun W (h : Below w.heap.size w W) k h0 h1 h2 h3 => even_any W k n o _ _ r b (hu.later h) (hv.later h) hr h0 h1 h2 h3)
  generalize (decide (0 < cmpZ (r + r : Nat) b) || (decide (0 ≤ cmpZ (r + r : Nat) b) && o)) = Q at *
  go_enter Tryz.func102, Tryz.ntmps102
  go_wp2_with fail
  refine (unhide C _ (((Below.refl _ _).alloc (Nat.le_refl _) _).alloc (by simp) _) _ (by go_simp) (by go_simp) (by go_simp) (by go_simp)).mono ?_
  rintro e w1 ⟨rfl, b1⟩
  go_wp2
  go_ret
  exact ⟨rfl, (((Below.refl _ _).alloc (Nat.le_refl _) _).alloc (by simp) _).trans (b1.mono (by simp; omega))⟩

theorem cmpZ_nought {b : Nat} (hb : 0 < b) : cmpZ (0 + 0 : Nat) b = -1 := cmpZ_lt (by omega)

/-- What away answers. -/
theorem away_any (w : World) (n o : Bool) (u v : Value) (r b : Nat) (mode : Int) (hu : Reads w u (L r)) (hv : Reads w v (L b)) (hr : r < 10000 ^ 199) (hb : 0 < b) (h1 : 1 ≤ mode) (h7 : mode ≤ 7) :
    Calls Tryz.prog 102 #[.agg #[.bool n, .bool o, u, v], .int .i64 mode] w fun e w' => e = .returned (.bool (awayZ mode n o r b)) ∧ Below w.heap.size w w' := by
  obtain ⟨ao, b1, off, cap, rfl, hu0⟩ := id hu
  obtain ⟨ao', b2, off', cap', rfl, hv0⟩ := id hv
  have hl : (L r).length ≤ 9223372036854775807 := by have := hu0.le; have := hu0.big; unfold maxLen at this; omega
  have e0 : decide ((L r).length ≠ 0) = decide (r ≠ 0) := decide_eq_decide.2 ⟨fun h k => h (by rw [k, L_zero]; rfl), fun h k => h (L_len_zero.1 k)⟩
  have hz : r = 0 → cmpZ (r + r : Nat) b = -1 := fun h => by subst h; exact cmpZ_nought hb
  clear hu0 hv0
  have hm : mode = 1 ∨ mode = 2 ∨ mode = 3 ∨ mode = 4 ∨ mode = 5 ∨ mode = 6 ∨ mode = 7 := by omega
  rcases hm with rfl | rfl | rfl | rfl | rfl | rfl | rfl
  · have := away1 w n o ao ao' _ cap (L b).length cap' hl
    rw [e0] at this
    simpa [awayZ, moreZ] using this
  · have := away2 w n o ao ao' (L r).length cap (L b).length cap'
    simpa [awayZ, moreZ] using this
  · have := away3 w n o ao ao' _ cap (L b).length cap' hl
    rw [e0] at this
    simpa [awayZ, moreZ] using this
  · have := away4 w n o ao ao' _ cap (L b).length cap' hl
    rw [e0] at this
    simpa [awayZ, moreZ] using this
  · have := away5 w n o ao ao' r cap b cap' hu hv hr
    have e : awayZ 5 n o r b = decide (0 ≤ cmpZ (r + r : Nat) b) := by
      unfold awayZ moreZ
      by_cases h : r = 0
      · rw [hz h]; simp
      · simp [h]
    rw [e]
    exact this
  · have := away6 w n o ao ao' r cap b cap' hu hv hr
    have e : awayZ 6 n o r b = decide (0 < cmpZ (r + r : Nat) b) := by
      unfold awayZ moreZ
      by_cases h : r = 0
      · rw [hz h]; simp
      · simp [h]
    rw [e]
    exact this
  · have := away7 w n o ao ao' r cap b cap' hu hv hr
    have e : awayZ 7 n o r b = (decide (0 < cmpZ (r + r : Nat) b) || (decide (0 ≤ cmpZ (r + r : Nat) b) && o)) := by
      unfold awayZ moreZ
      by_cases h : r = 0
      · rw [hz h]; simp
      · generalize cmpZ (r + r : Nat) b = Z
        cases o <;> by_cases k : 0 < Z <;> by_cases k2 : Z = 0 <;> simp [h, k, k2] <;> omega
    rw [e]
    exact this

end Go.Proofs.YthnkmjkgcnhlfaaGreatDoor
