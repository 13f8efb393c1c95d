/- ValueOk of the specification, by a contract. -/
import Derived.Test.YtdklikicngmkbaaGreatDoorH09
namespace Go.Proofs.YtdklikicngmkbaaGreatDoor
open Go.RowKit
set_option maxRecDepth 100000
set_option linter.unusedSimpArgs false
set_option linter.unusedVariables false

theorem l4Zero_any (w : World) (n : Bool) (ao : Option Addr) (N cap : Nat) (sc : Int) : Calls Tryz.prog 105 #[.agg #[.bool n, .slice ao N cap, .int .i64 sc]] w fun e w' => e = .returned (.bool (!n && decide (N = 0) && decide (sc = 0))) ∧ w' = w.alloc (.cells #[.bool n, .slice ao N cap, .int .i64 sc] 27) := by
  go_enter Tryz.func105, Tryz.ntmps105
  go_wp2
  all_goals
    go_ret
    refine ⟨?_, ?_⟩
    · first | (simp [*]; done) | (simp [*]; rfl)
    · simp [*]

theorem bare_text {y n : Bool} {N : Nat} {sc d mo da : Int} {t : ByteArray} (h : bareB y n N sc d mo da t = true) : textB t = true := by
  unfold bareB at h
  rw [Bool.and_eq_true, List.isEmpty_iff, ByteArray.toList_eq] at h
  have e : t = ⟨#[]⟩ := ByteArray.ext (Array.toList_inj.1 h.2)
  rw [e]
  decide

theorem l3IsV (w : World) (n : Int) : Calls Tryz.prog 65 #[.int .i64 n] w fun e w' => e = .returned (.bool (decide (1 ≤ n ∧ n ≤ 3652059))) ∧ w' = w := by
  have C := inK_any w n 1 3652059
  generalize decide (1 ≤ n ∧ n ≤ 3652059) = b at *
  go_enter Tryz.func65, Tryz.ntmps65
  go_wp2_with fail
  refine C.mono ?_
  rintro e w1 ⟨rfl, rfl⟩
  go_wp2
  go_ret
  exact ⟨rfl, rfl⟩

set_option maxHeartbeats 4000000 in
theorem bareS_0 (w : World) (y n : Bool) (ao : Option Addr) (N cap : Nat) (sc d mo da : Int) (t : ByteArray) : Calls Tryz.prog 63 #[.agg #[.int .i64 0, .bool y, .bool n, .slice ao N cap, .int .i64 sc, .int .i64 d, .int .i64 mo, .int .i64 da, .string t]] w fun e w' => e = .returned (.bool (bareB y n N sc d mo da t)) ∧ Below w.heap.size w w' := by
  have CZ := fun W => l4Zero_any W n ao N cap sc
  unfold bareB
  generalize (!n && decide (N = 0) && decide (sc = 0)) = g at *
  have CZ := hide CZ
  cases y <;> cases g
  all_goals
    go_enter Tryz.func63, Tryz.ntmps63
    go_wp2_with (go_at_call 105; refine (unhide CZ _).mono ?_; rintro e w1 ⟨rfl, hw⟩; subst hw)
    all_goals
      go_ret
      refine ⟨?_, ?_⟩
      · (try simp only [bne_eq_false_iff_eq, bne_iff_ne, ne_eq] at *)
        simp [*]
      · repeat (first | exact Below.refl _ _ | refine Below.alloc ?_ (by first | exact Nat.le_refl _ | (simp only [World.size_alloc]; omega) | (simp; omega)) _)

set_option maxHeartbeats 4000000 in
theorem bareS_1 (w : World) (y n : Bool) (ao : Option Addr) (N cap : Nat) (sc d mo da : Int) (t : ByteArray) : Calls Tryz.prog 63 #[.agg #[.int .i64 1, .bool y, .bool n, .slice ao N cap, .int .i64 sc, .int .i64 d, .int .i64 mo, .int .i64 da, .string t]] w fun e w' => e = .returned (.bool (bareB false n N sc d mo da t)) ∧ Below w.heap.size w w' := by
  have CZ := fun W => l4Zero_any W n ao N cap sc
  unfold bareB
  generalize (!n && decide (N = 0) && decide (sc = 0)) = g at *
  have CZ := hide CZ
  cases g
  all_goals
    go_enter Tryz.func63, Tryz.ntmps63
    go_wp2_with (go_at_call 105; refine (unhide CZ _).mono ?_; rintro e w1 ⟨rfl, hw⟩; subst hw)
    all_goals
      go_ret
      refine ⟨?_, ?_⟩
      · (try simp only [bne_eq_false_iff_eq, bne_iff_ne, ne_eq] at *)
        simp [*]
      · repeat (first | exact Below.refl _ _ | refine Below.alloc ?_ (by first | exact Nat.le_refl _ | (simp only [World.size_alloc]; omega) | (simp; omega)) _)

set_option maxHeartbeats 4000000 in
theorem bareS_2 (w : World) (y n : Bool) (ao : Option Addr) (N cap : Nat) (sc d mo da : Int) (t : ByteArray) : Calls Tryz.prog 63 #[.agg #[.int .i64 2, .bool y, .bool n, .slice ao N cap, .int .i64 sc, .int .i64 d, .int .i64 mo, .int .i64 da, .string t]] w fun e w' => e = .returned (.bool (bareB y false 0 0 d mo da t)) ∧ Below w.heap.size w w' := by
  have CZ := fun W => l4Zero_any W n ao N cap sc
  unfold bareB
  clear CZ
  have CZ : True := trivial
  have CZ := hide CZ
  cases y
  all_goals
    go_enter Tryz.func63, Tryz.ntmps63
    go_wp2_with (go_at_call 105; refine (unhide CZ _).mono ?_; rintro e w1 ⟨rfl, hw⟩; subst hw)
    all_goals
      go_ret
      refine ⟨?_, ?_⟩
      · (try simp only [bne_eq_false_iff_eq, bne_iff_ne, ne_eq] at *)
        simp [*]
      · repeat (first | exact Below.refl _ _ | refine Below.alloc ?_ (by first | exact Nat.le_refl _ | (simp only [World.size_alloc]; omega) | (simp; omega)) _)

set_option maxHeartbeats 4000000 in
theorem bareS_3 (w : World) (y n : Bool) (ao : Option Addr) (N cap : Nat) (sc d mo da : Int) (t : ByteArray) : Calls Tryz.prog 63 #[.agg #[.int .i64 3, .bool y, .bool n, .slice ao N cap, .int .i64 sc, .int .i64 d, .int .i64 mo, .int .i64 da, .string t]] w fun e w' => e = .returned (.bool (bareB y n N sc 0 mo da t)) ∧ Below w.heap.size w w' := by
  have CZ := fun W => l4Zero_any W n ao N cap sc
  unfold bareB
  generalize (!n && decide (N = 0) && decide (sc = 0)) = g at *
  have CZ := hide CZ
  cases y <;> cases g
  all_goals
    go_enter Tryz.func63, Tryz.ntmps63
    go_wp2_with (go_at_call 105; refine (unhide CZ _).mono ?_; rintro e w1 ⟨rfl, hw⟩; subst hw)
    all_goals
      go_ret
      refine ⟨?_, ?_⟩
      · (try simp only [bne_eq_false_iff_eq, bne_iff_ne, ne_eq] at *)
        simp [*]
      · repeat (first | exact Below.refl _ _ | refine Below.alloc ?_ (by first | exact Nat.le_refl _ | (simp only [World.size_alloc]; omega) | (simp; omega)) _)

set_option maxHeartbeats 4000000 in
theorem bareS_4 (w : World) (y n : Bool) (ao : Option Addr) (N cap : Nat) (sc d mo da : Int) (t : ByteArray) : Calls Tryz.prog 63 #[.agg #[.int .i64 4, .bool y, .bool n, .slice ao N cap, .int .i64 sc, .int .i64 d, .int .i64 mo, .int .i64 da, .string t]] w fun e w' => e = .returned (.bool (bareB y n N sc d 0 0 t)) ∧ Below w.heap.size w w' := by
  have CZ := fun W => l4Zero_any W n ao N cap sc
  unfold bareB
  generalize (!n && decide (N = 0) && decide (sc = 0)) = g at *
  have CZ := hide CZ
  cases y <;> cases g
  all_goals
    go_enter Tryz.func63, Tryz.ntmps63
    go_wp2_with (go_at_call 105; refine (unhide CZ _).mono ?_; rintro e w1 ⟨rfl, hw⟩; subst hw)
    all_goals
      go_ret
      refine ⟨?_, ?_⟩
      · (try simp only [bne_eq_false_iff_eq, bne_iff_ne, ne_eq] at *)
        simp [*]
      · repeat (first | exact Below.refl _ _ | refine Below.alloc ?_ (by first | exact Nat.le_refl _ | (simp only [World.size_alloc]; omega) | (simp; omega)) _)

set_option maxHeartbeats 4000000 in
theorem bareS_5 (w : World) (y n : Bool) (ao : Option Addr) (N cap : Nat) (sc d mo da : Int) (t : ByteArray) : Calls Tryz.prog 63 #[.agg #[.int .i64 5, .bool y, .bool n, .slice ao N cap, .int .i64 sc, .int .i64 d, .int .i64 mo, .int .i64 da, .string t]] w fun e w' => e = .returned (.bool (bareB y n N sc d mo da (⟨#[]⟩))) ∧ Below w.heap.size w w' := by
  have CZ := fun W => l4Zero_any W n ao N cap sc
  unfold bareB
  generalize (!n && decide (N = 0) && decide (sc = 0)) = g at *
  have CZ := hide CZ
  cases y <;> cases g
  all_goals
    go_enter Tryz.func63, Tryz.ntmps63
    go_wp2_with (go_at_call 105; refine (unhide CZ _).mono ?_; rintro e w1 ⟨rfl, hw⟩; subst hw)
    all_goals
      go_ret
      refine ⟨?_, ?_⟩
      · (try simp only [bne_eq_false_iff_eq, bne_iff_ne, ne_eq] at *)
        simp [*]
      · repeat (first | exact Below.refl _ _ | refine Below.alloc ?_ (by first | exact Nat.le_refl _ | (simp only [World.size_alloc]; omega) | (simp; omega)) _)

set_option maxHeartbeats 2000000 in
theorem specL4Ok_0 (w : World) (y n : Bool) (ao : Option Addr) (l : List Int) (cap : Nat) (sc d mo da : Int) (t : ByteArray) (ht : t.size ≤ maxLen) :
    Calls Tryz.prog 33 #[.agg #[.int .i64 0, .bool y, .bool n, .slice ao l.length cap, .int .i64 sc, .int .i64 d, .int .i64 mo, .int .i64 da, .string t]] w fun e w' => e = .returned (.bool (valB 0 y n l sc d mo da t)) ∧ Below w.heap.size w w' := by
  have CI := fun W => inK_any W 0 0 5
  rw [show decide ((0 : Int) ≤ 0 ∧ (0 : Int) ≤ 5) = true by decide] at CI
  have CI := hide CI
  have CB := fun W => bareS_0 W y n ao l.length cap sc d mo da t
  have CK := fun W (b : Below w.heap.size w W) => specText_any W t ht
  have hv : valB 0 y n l sc d mo da t = (bareB y n (l.length) sc d mo da t) := by simp [valB]
  have HT := hide (show bareB y n (l.length) sc d mo da t = true → textB t = true from bare_text)
  rw [hv]
  generalize bareB y n (l.length) sc d mo da t = h at *
  generalize textB t = g at *
  have CB := hide CB
  have CK := hide CK
  clear hv
  have B0 : Below w.heap.size w (w.alloc (.cells #[.int .i64 0, .bool y, .bool n, .slice ao l.length cap, .int .i64 sc, .int .i64 d, .int .i64 mo, .int .i64 da, .string t] 31)) := (Below.refl _ _).alloc (Nat.le_refl _) _
  have z0 : w.heap.size < (w.alloc (.cells #[.int .i64 0, .bool y, .bool n, .slice ao l.length cap, .int .i64 sc, .int .i64 d, .int .i64 mo, .int .i64 da, .string t] 31)).heap.size := by simp
  have r0 : (w.alloc (.cells #[.int .i64 0, .bool y, .bool n, .slice ao l.length cap, .int .i64 sc, .int .i64 d, .int .i64 mo, .int .i64 da, .string t] 31)).cell? ⟨w.heap.size, 0, none⟩ = some (.int .i64 0) := by go_simp
  have r1 : (w.alloc (.cells #[.int .i64 0, .bool y, .bool n, .slice ao l.length cap, .int .i64 sc, .int .i64 d, .int .i64 mo, .int .i64 da, .string t] 31)).cell? ⟨w.heap.size, 1, none⟩ = some (.bool y) := by go_simp
  have r2 : (w.alloc (.cells #[.int .i64 0, .bool y, .bool n, .slice ao l.length cap, .int .i64 sc, .int .i64 d, .int .i64 mo, .int .i64 da, .string t] 31)).cell? ⟨w.heap.size, 2, none⟩ = some (.bool n) := by go_simp
  have r3 : (w.alloc (.cells #[.int .i64 0, .bool y, .bool n, .slice ao l.length cap, .int .i64 sc, .int .i64 d, .int .i64 mo, .int .i64 da, .string t] 31)).cell? ⟨w.heap.size, 3, none⟩ = some (.slice ao l.length cap) := by go_simp
  have r4 : (w.alloc (.cells #[.int .i64 0, .bool y, .bool n, .slice ao l.length cap, .int .i64 sc, .int .i64 d, .int .i64 mo, .int .i64 da, .string t] 31)).cell? ⟨w.heap.size, 4, none⟩ = some (.int .i64 sc) := by go_simp
  have r5 : (w.alloc (.cells #[.int .i64 0, .bool y, .bool n, .slice ao l.length cap, .int .i64 sc, .int .i64 d, .int .i64 mo, .int .i64 da, .string t] 31)).cell? ⟨w.heap.size, 5, none⟩ = some (.int .i64 d) := by go_simp
  have r6 : (w.alloc (.cells #[.int .i64 0, .bool y, .bool n, .slice ao l.length cap, .int .i64 sc, .int .i64 d, .int .i64 mo, .int .i64 da, .string t] 31)).cell? ⟨w.heap.size, 6, none⟩ = some (.int .i64 mo) := by go_simp
  have r7 : (w.alloc (.cells #[.int .i64 0, .bool y, .bool n, .slice ao l.length cap, .int .i64 sc, .int .i64 d, .int .i64 mo, .int .i64 da, .string t] 31)).cell? ⟨w.heap.size, 7, none⟩ = some (.int .i64 da) := by go_simp
  have r8 : (w.alloc (.cells #[.int .i64 0, .bool y, .bool n, .slice ao l.length cap, .int .i64 sc, .int .i64 d, .int .i64 mo, .int .i64 da, .string t] 31)).cell? ⟨w.heap.size, 8, none⟩ = some (.string t) := by go_simp
  go_enter Tryz.func33, Tryz.ntmps33
  go_wp2_with fail
  refine (unhide CI _).mono ?_
  rintro e w1 ⟨rfl, hw⟩
  subst hw
  go_wp2_with fail
  refine (unhide CB _).mono ?_
  rintro e w2 ⟨rfl, b2⟩
  have B2 := B0.trans (b2.mono B0.size)
  cases h
  · go_wp2
    go_ret
    exact ⟨rfl, B2⟩
  · have zr := Nat.lt_of_lt_of_le z0 b2.size
    have q0 := cell_later b2 r0
    have q1 := cell_later b2 r1
    have q2 := cell_later b2 r2
    have q3 := cell_later b2 r3
    have q4 := cell_later b2 r4
    have q5 := cell_later b2 r5
    have q6 := cell_later b2 r6
    have q7 := cell_later b2 r7
    have q8 := cell_later b2 r8
    clear r0 r1 r2 r3 r4 r5 r6 r7 r8 b2 B0 z0 CI CB
    go_wp2_with fail
    refine (unhide CK _ B2).mono ?_
    rintro e w3 ⟨rfl, b3⟩
    go_wp2
    go_ret
    exact ⟨by rw [show g = true from by first | exact unhide HT rfl | exact unhide HT trivial]; rfl, B2.trans (b3.mono B2.size)⟩

set_option maxHeartbeats 2000000 in
theorem specL4Ok_1 (w : World) (y n : Bool) (ao : Option Addr) (l : List Int) (cap : Nat) (sc d mo da : Int) (t : ByteArray) (ht : t.size ≤ maxLen) :
    Calls Tryz.prog 33 #[.agg #[.int .i64 1, .bool y, .bool n, .slice ao l.length cap, .int .i64 sc, .int .i64 d, .int .i64 mo, .int .i64 da, .string t]] w fun e w' => e = .returned (.bool (valB 1 y n l sc d mo da t)) ∧ Below w.heap.size w w' := by
  have CI := fun W => inK_any W 1 0 5
  rw [show decide ((0 : Int) ≤ 1 ∧ (1 : Int) ≤ 5) = true by decide] at CI
  have CI := hide CI
  have CB := fun W => bareS_1 W y n ao l.length cap sc d mo da t
  have CK := fun W (b : Below w.heap.size w W) => specText_any W t ht
  have hv : valB 1 y n l sc d mo da t = (bareB false n (l.length) sc d mo da t) := by simp [valB]
  have HT := hide (show bareB false n (l.length) sc d mo da t = true → textB t = true from bare_text)
  rw [hv]
  generalize bareB false n (l.length) sc d mo da t = h at *
  generalize textB t = g at *
  have CB := hide CB
  have CK := hide CK
  clear hv
  have B0 : Below w.heap.size w (w.alloc (.cells #[.int .i64 1, .bool y, .bool n, .slice ao l.length cap, .int .i64 sc, .int .i64 d, .int .i64 mo, .int .i64 da, .string t] 31)) := (Below.refl _ _).alloc (Nat.le_refl _) _
  have z0 : w.heap.size < (w.alloc (.cells #[.int .i64 1, .bool y, .bool n, .slice ao l.length cap, .int .i64 sc, .int .i64 d, .int .i64 mo, .int .i64 da, .string t] 31)).heap.size := by simp
  have r0 : (w.alloc (.cells #[.int .i64 1, .bool y, .bool n, .slice ao l.length cap, .int .i64 sc, .int .i64 d, .int .i64 mo, .int .i64 da, .string t] 31)).cell? ⟨w.heap.size, 0, none⟩ = some (.int .i64 1) := by go_simp
  have r1 : (w.alloc (.cells #[.int .i64 1, .bool y, .bool n, .slice ao l.length cap, .int .i64 sc, .int .i64 d, .int .i64 mo, .int .i64 da, .string t] 31)).cell? ⟨w.heap.size, 1, none⟩ = some (.bool y) := by go_simp
  have r2 : (w.alloc (.cells #[.int .i64 1, .bool y, .bool n, .slice ao l.length cap, .int .i64 sc, .int .i64 d, .int .i64 mo, .int .i64 da, .string t] 31)).cell? ⟨w.heap.size, 2, none⟩ = some (.bool n) := by go_simp
  have r3 : (w.alloc (.cells #[.int .i64 1, .bool y, .bool n, .slice ao l.length cap, .int .i64 sc, .int .i64 d, .int .i64 mo, .int .i64 da, .string t] 31)).cell? ⟨w.heap.size, 3, none⟩ = some (.slice ao l.length cap) := by go_simp
  have r4 : (w.alloc (.cells #[.int .i64 1, .bool y, .bool n, .slice ao l.length cap, .int .i64 sc, .int .i64 d, .int .i64 mo, .int .i64 da, .string t] 31)).cell? ⟨w.heap.size, 4, none⟩ = some (.int .i64 sc) := by go_simp
  have r5 : (w.alloc (.cells #[.int .i64 1, .bool y, .bool n, .slice ao l.length cap, .int .i64 sc, .int .i64 d, .int .i64 mo, .int .i64 da, .string t] 31)).cell? ⟨w.heap.size, 5, none⟩ = some (.int .i64 d) := by go_simp
  have r6 : (w.alloc (.cells #[.int .i64 1, .bool y, .bool n, .slice ao l.length cap, .int .i64 sc, .int .i64 d, .int .i64 mo, .int .i64 da, .string t] 31)).cell? ⟨w.heap.size, 6, none⟩ = some (.int .i64 mo) := by go_simp
  have r7 : (w.alloc (.cells #[.int .i64 1, .bool y, .bool n, .slice ao l.length cap, .int .i64 sc, .int .i64 d, .int .i64 mo, .int .i64 da, .string t] 31)).cell? ⟨w.heap.size, 7, none⟩ = some (.int .i64 da) := by go_simp
  have r8 : (w.alloc (.cells #[.int .i64 1, .bool y, .bool n, .slice ao l.length cap, .int .i64 sc, .int .i64 d, .int .i64 mo, .int .i64 da, .string t] 31)).cell? ⟨w.heap.size, 8, none⟩ = some (.string t) := by go_simp
  go_enter Tryz.func33, Tryz.ntmps33
  go_wp2_with fail
  refine (unhide CI _).mono ?_
  rintro e w1 ⟨rfl, hw⟩
  subst hw
  go_wp2_with fail
  refine (unhide CB _).mono ?_
  rintro e w2 ⟨rfl, b2⟩
  have B2 := B0.trans (b2.mono B0.size)
  cases h
  · go_wp2
    go_ret
    exact ⟨rfl, B2⟩
  · have zr := Nat.lt_of_lt_of_le z0 b2.size
    have q0 := cell_later b2 r0
    have q1 := cell_later b2 r1
    have q2 := cell_later b2 r2
    have q3 := cell_later b2 r3
    have q4 := cell_later b2 r4
    have q5 := cell_later b2 r5
    have q6 := cell_later b2 r6
    have q7 := cell_later b2 r7
    have q8 := cell_later b2 r8
    clear r0 r1 r2 r3 r4 r5 r6 r7 r8 b2 B0 z0 CI CB
    go_wp2_with fail
    refine (unhide CK _ B2).mono ?_
    rintro e w3 ⟨rfl, b3⟩
    go_wp2
    go_ret
    exact ⟨by rw [show g = true from by first | exact unhide HT rfl | exact unhide HT trivial]; rfl, B2.trans (b3.mono B2.size)⟩

set_option maxHeartbeats 2000000 in
theorem specL4Ok_2 (w : World) (y n : Bool) (ao : Option Addr) (l : List Int) (cap : Nat) (sc d mo da : Int) (t : ByteArray) (ht : t.size ≤ maxLen) (hr : Reads w (.slice ao l.length cap) l) :
    Calls Tryz.prog 33 #[.agg #[.int .i64 2, .bool y, .bool n, .slice ao l.length cap, .int .i64 sc, .int .i64 d, .int .i64 mo, .int .i64 da, .string t]] w fun e w' => e = .returned (.bool (valB 2 y n l sc d mo da t)) ∧ Below w.heap.size w w' := by
  have CI := fun W => inK_any W 2 0 5
  rw [show decide ((0 : Int) ≤ 2 ∧ (2 : Int) ≤ 5) = true by decide] at CI
  have CI := hide CI
  have CB := fun W => bareS_2 W y n ao l.length cap sc d mo da t
  have CK := fun W (b : Below w.heap.size w W) => l2Ok_any W n (.slice ao l.length cap) l sc (hr.later b)
  have hv : valB 2 y n l sc d mo da t = (decB n l sc && bareB y false 0 0 d mo da t) := by simp [valB]
  rw [hv]
  generalize bareB y false 0 0 d mo da t = h at *
  generalize hgg : (decB n l sc : Bool) = g at *
  have CB := hide CB
  have CK := hide CK
  clear hv hr hgg
  have B0 : Below w.heap.size w (w.alloc (.cells #[.int .i64 2, .bool y, .bool n, .slice ao l.length cap, .int .i64 sc, .int .i64 d, .int .i64 mo, .int .i64 da, .string t] 31)) := (Below.refl _ _).alloc (Nat.le_refl _) _
  have z0 : w.heap.size < (w.alloc (.cells #[.int .i64 2, .bool y, .bool n, .slice ao l.length cap, .int .i64 sc, .int .i64 d, .int .i64 mo, .int .i64 da, .string t] 31)).heap.size := by simp
  have r0 : (w.alloc (.cells #[.int .i64 2, .bool y, .bool n, .slice ao l.length cap, .int .i64 sc, .int .i64 d, .int .i64 mo, .int .i64 da, .string t] 31)).cell? ⟨w.heap.size, 0, none⟩ = some (.int .i64 2) := by go_simp
  have r1 : (w.alloc (.cells #[.int .i64 2, .bool y, .bool n, .slice ao l.length cap, .int .i64 sc, .int .i64 d, .int .i64 mo, .int .i64 da, .string t] 31)).cell? ⟨w.heap.size, 1, none⟩ = some (.bool y) := by go_simp
  have r2 : (w.alloc (.cells #[.int .i64 2, .bool y, .bool n, .slice ao l.length cap, .int .i64 sc, .int .i64 d, .int .i64 mo, .int .i64 da, .string t] 31)).cell? ⟨w.heap.size, 2, none⟩ = some (.bool n) := by go_simp
  have r3 : (w.alloc (.cells #[.int .i64 2, .bool y, .bool n, .slice ao l.length cap, .int .i64 sc, .int .i64 d, .int .i64 mo, .int .i64 da, .string t] 31)).cell? ⟨w.heap.size, 3, none⟩ = some (.slice ao l.length cap) := by go_simp
  have r4 : (w.alloc (.cells #[.int .i64 2, .bool y, .bool n, .slice ao l.length cap, .int .i64 sc, .int .i64 d, .int .i64 mo, .int .i64 da, .string t] 31)).cell? ⟨w.heap.size, 4, none⟩ = some (.int .i64 sc) := by go_simp
  have r5 : (w.alloc (.cells #[.int .i64 2, .bool y, .bool n, .slice ao l.length cap, .int .i64 sc, .int .i64 d, .int .i64 mo, .int .i64 da, .string t] 31)).cell? ⟨w.heap.size, 5, none⟩ = some (.int .i64 d) := by go_simp
  have r6 : (w.alloc (.cells #[.int .i64 2, .bool y, .bool n, .slice ao l.length cap, .int .i64 sc, .int .i64 d, .int .i64 mo, .int .i64 da, .string t] 31)).cell? ⟨w.heap.size, 6, none⟩ = some (.int .i64 mo) := by go_simp
  have r7 : (w.alloc (.cells #[.int .i64 2, .bool y, .bool n, .slice ao l.length cap, .int .i64 sc, .int .i64 d, .int .i64 mo, .int .i64 da, .string t] 31)).cell? ⟨w.heap.size, 7, none⟩ = some (.int .i64 da) := by go_simp
  have r8 : (w.alloc (.cells #[.int .i64 2, .bool y, .bool n, .slice ao l.length cap, .int .i64 sc, .int .i64 d, .int .i64 mo, .int .i64 da, .string t] 31)).cell? ⟨w.heap.size, 8, none⟩ = some (.string t) := by go_simp
  go_enter Tryz.func33, Tryz.ntmps33
  go_wp2_with fail
  refine (unhide CI _).mono ?_
  rintro e w1 ⟨rfl, hw⟩
  subst hw
  go_wp2_with fail
  refine (unhide CB _).mono ?_
  rintro e w2 ⟨rfl, b2⟩
  have B2 := B0.trans (b2.mono B0.size)
  cases h
  · go_wp2
    go_ret
    exact ⟨by cases g <;> rfl, B2⟩
  · have zr := Nat.lt_of_lt_of_le z0 b2.size
    have q0 := cell_later b2 r0
    have q1 := cell_later b2 r1
    have q2 := cell_later b2 r2
    have q3 := cell_later b2 r3
    have q4 := cell_later b2 r4
    have q5 := cell_later b2 r5
    have q6 := cell_later b2 r6
    have q7 := cell_later b2 r7
    have q8 := cell_later b2 r8
    clear r0 r1 r2 r3 r4 r5 r6 r7 r8 b2 B0 z0 CI CB
    go_wp2_with fail
    refine (unhide CK _ B2).mono ?_
    rintro e w3 ⟨rfl, b3⟩
    go_wp2
    go_ret
    exact ⟨by cases g <;> rfl, B2.trans (b3.mono B2.size)⟩

set_option maxHeartbeats 2000000 in
theorem specL4Ok_3 (w : World) (y n : Bool) (ao : Option Addr) (l : List Int) (cap : Nat) (sc d mo da : Int) (t : ByteArray) (ht : t.size ≤ maxLen) :
    Calls Tryz.prog 33 #[.agg #[.int .i64 3, .bool y, .bool n, .slice ao l.length cap, .int .i64 sc, .int .i64 d, .int .i64 mo, .int .i64 da, .string t]] w fun e w' => e = .returned (.bool (valB 3 y n l sc d mo da t)) ∧ Below w.heap.size w w' := by
  have CI := fun W => inK_any W 3 0 5
  rw [show decide ((0 : Int) ≤ 3 ∧ (3 : Int) ≤ 5) = true by decide] at CI
  have CI := hide CI
  have CB := fun W => bareS_3 W y n ao l.length cap sc d mo da t
  have CK := fun W (b : Below w.heap.size w W) => l3IsV W d
  have hv : valB 3 y n l sc d mo da t = (decide (1 ≤ d ∧ d ≤ 3652059) && bareB y n (l.length) sc 0 mo da t) := by simp [valB]
  rw [hv]
  generalize bareB y n (l.length) sc 0 mo da t = h at *
  generalize hgg : (decide (1 ≤ d ∧ d ≤ 3652059) : Bool) = g at *
  have CB := hide CB
  have CK := hide CK
  clear hv hgg
  have B0 : Below w.heap.size w (w.alloc (.cells #[.int .i64 3, .bool y, .bool n, .slice ao l.length cap, .int .i64 sc, .int .i64 d, .int .i64 mo, .int .i64 da, .string t] 31)) := (Below.refl _ _).alloc (Nat.le_refl _) _
  have z0 : w.heap.size < (w.alloc (.cells #[.int .i64 3, .bool y, .bool n, .slice ao l.length cap, .int .i64 sc, .int .i64 d, .int .i64 mo, .int .i64 da, .string t] 31)).heap.size := by simp
  have r0 : (w.alloc (.cells #[.int .i64 3, .bool y, .bool n, .slice ao l.length cap, .int .i64 sc, .int .i64 d, .int .i64 mo, .int .i64 da, .string t] 31)).cell? ⟨w.heap.size, 0, none⟩ = some (.int .i64 3) := by go_simp
  have r1 : (w.alloc (.cells #[.int .i64 3, .bool y, .bool n, .slice ao l.length cap, .int .i64 sc, .int .i64 d, .int .i64 mo, .int .i64 da, .string t] 31)).cell? ⟨w.heap.size, 1, none⟩ = some (.bool y) := by go_simp
  have r2 : (w.alloc (.cells #[.int .i64 3, .bool y, .bool n, .slice ao l.length cap, .int .i64 sc, .int .i64 d, .int .i64 mo, .int .i64 da, .string t] 31)).cell? ⟨w.heap.size, 2, none⟩ = some (.bool n) := by go_simp
  have r3 : (w.alloc (.cells #[.int .i64 3, .bool y, .bool n, .slice ao l.length cap, .int .i64 sc, .int .i64 d, .int .i64 mo, .int .i64 da, .string t] 31)).cell? ⟨w.heap.size, 3, none⟩ = some (.slice ao l.length cap) := by go_simp
  have r4 : (w.alloc (.cells #[.int .i64 3, .bool y, .bool n, .slice ao l.length cap, .int .i64 sc, .int .i64 d, .int .i64 mo, .int .i64 da, .string t] 31)).cell? ⟨w.heap.size, 4, none⟩ = some (.int .i64 sc) := by go_simp
  have r5 : (w.alloc (.cells #[.int .i64 3, .bool y, .bool n, .slice ao l.length cap, .int .i64 sc, .int .i64 d, .int .i64 mo, .int .i64 da, .string t] 31)).cell? ⟨w.heap.size, 5, none⟩ = some (.int .i64 d) := by go_simp
  have r6 : (w.alloc (.cells #[.int .i64 3, .bool y, .bool n, .slice ao l.length cap, .int .i64 sc, .int .i64 d, .int .i64 mo, .int .i64 da, .string t] 31)).cell? ⟨w.heap.size, 6, none⟩ = some (.int .i64 mo) := by go_simp
  have r7 : (w.alloc (.cells #[.int .i64 3, .bool y, .bool n, .slice ao l.length cap, .int .i64 sc, .int .i64 d, .int .i64 mo, .int .i64 da, .string t] 31)).cell? ⟨w.heap.size, 7, none⟩ = some (.int .i64 da) := by go_simp
  have r8 : (w.alloc (.cells #[.int .i64 3, .bool y, .bool n, .slice ao l.length cap, .int .i64 sc, .int .i64 d, .int .i64 mo, .int .i64 da, .string t] 31)).cell? ⟨w.heap.size, 8, none⟩ = some (.string t) := by go_simp
  go_enter Tryz.func33, Tryz.ntmps33
  go_wp2_with fail
  refine (unhide CI _).mono ?_
  rintro e w1 ⟨rfl, hw⟩
  subst hw
  go_wp2_with fail
  refine (unhide CB _).mono ?_
  rintro e w2 ⟨rfl, b2⟩
  have B2 := B0.trans (b2.mono B0.size)
  cases h
  · go_wp2
    go_ret
    exact ⟨by cases g <;> rfl, B2⟩
  · have zr := Nat.lt_of_lt_of_le z0 b2.size
    have q0 := cell_later b2 r0
    have q1 := cell_later b2 r1
    have q2 := cell_later b2 r2
    have q3 := cell_later b2 r3
    have q4 := cell_later b2 r4
    have q5 := cell_later b2 r5
    have q6 := cell_later b2 r6
    have q7 := cell_later b2 r7
    have q8 := cell_later b2 r8
    clear r0 r1 r2 r3 r4 r5 r6 r7 r8 b2 B0 z0 CI CB
    go_wp2_with fail
    refine (unhide CK _ B2).mono ?_
    rintro e w3 ⟨rfl, b3⟩
    go_wp2
    go_ret
    exact ⟨by cases g <;> rfl, by subst b3; exact B2⟩

set_option maxHeartbeats 2000000 in
theorem specL4Ok_4 (w : World) (y n : Bool) (ao : Option Addr) (l : List Int) (cap : Nat) (sc d mo da : Int) (t : ByteArray) (ht : t.size ≤ maxLen) :
    Calls Tryz.prog 33 #[.agg #[.int .i64 4, .bool y, .bool n, .slice ao l.length cap, .int .i64 sc, .int .i64 d, .int .i64 mo, .int .i64 da, .string t]] w fun e w' => e = .returned (.bool (valB 4 y n l sc d mo da t)) ∧ Below w.heap.size w w' := by
  have CI := fun W => inK_any W 4 0 5
  rw [show decide ((0 : Int) ≤ 4 ∧ (4 : Int) ≤ 5) = true by decide] at CI
  have CI := hide CI
  have CB := fun W => bareS_4 W y n ao l.length cap sc d mo da t
  have CK := fun W (b : Below w.heap.size w W) => specL3SpanOk_any W mo da
  have hv : valB 4 y n l sc d mo da t = (decide (SpanIs mo da) && bareB y n (l.length) sc d 0 0 t) := by simp [valB]
  rw [hv]
  generalize bareB y n (l.length) sc d 0 0 t = h at *
  generalize hgg : (decide (SpanIs mo da) : Bool) = g at *
  have CB := hide CB
  have CK := hide CK
  clear hv hgg
  have B0 : Below w.heap.size w (w.alloc (.cells #[.int .i64 4, .bool y, .bool n, .slice ao l.length cap, .int .i64 sc, .int .i64 d, .int .i64 mo, .int .i64 da, .string t] 31)) := (Below.refl _ _).alloc (Nat.le_refl _) _
  have z0 : w.heap.size < (w.alloc (.cells #[.int .i64 4, .bool y, .bool n, .slice ao l.length cap, .int .i64 sc, .int .i64 d, .int .i64 mo, .int .i64 da, .string t] 31)).heap.size := by simp
  have r0 : (w.alloc (.cells #[.int .i64 4, .bool y, .bool n, .slice ao l.length cap, .int .i64 sc, .int .i64 d, .int .i64 mo, .int .i64 da, .string t] 31)).cell? ⟨w.heap.size, 0, none⟩ = some (.int .i64 4) := by go_simp
  have r1 : (w.alloc (.cells #[.int .i64 4, .bool y, .bool n, .slice ao l.length cap, .int .i64 sc, .int .i64 d, .int .i64 mo, .int .i64 da, .string t] 31)).cell? ⟨w.heap.size, 1, none⟩ = some (.bool y) := by go_simp
  have r2 : (w.alloc (.cells #[.int .i64 4, .bool y, .bool n, .slice ao l.length cap, .int .i64 sc, .int .i64 d, .int .i64 mo, .int .i64 da, .string t] 31)).cell? ⟨w.heap.size, 2, none⟩ = some (.bool n) := by go_simp
  have r3 : (w.alloc (.cells #[.int .i64 4, .bool y, .bool n, .slice ao l.length cap, .int .i64 sc, .int .i64 d, .int .i64 mo, .int .i64 da, .string t] 31)).cell? ⟨w.heap.size, 3, none⟩ = some (.slice ao l.length cap) := by go_simp
  have r4 : (w.alloc (.cells #[.int .i64 4, .bool y, .bool n, .slice ao l.length cap, .int .i64 sc, .int .i64 d, .int .i64 mo, .int .i64 da, .string t] 31)).cell? ⟨w.heap.size, 4, none⟩ = some (.int .i64 sc) := by go_simp
  have r5 : (w.alloc (.cells #[.int .i64 4, .bool y, .bool n, .slice ao l.length cap, .int .i64 sc, .int .i64 d, .int .i64 mo, .int .i64 da, .string t] 31)).cell? ⟨w.heap.size, 5, none⟩ = some (.int .i64 d) := by go_simp
  have r6 : (w.alloc (.cells #[.int .i64 4, .bool y, .bool n, .slice ao l.length cap, .int .i64 sc, .int .i64 d, .int .i64 mo, .int .i64 da, .string t] 31)).cell? ⟨w.heap.size, 6, none⟩ = some (.int .i64 mo) := by go_simp
  have r7 : (w.alloc (.cells #[.int .i64 4, .bool y, .bool n, .slice ao l.length cap, .int .i64 sc, .int .i64 d, .int .i64 mo, .int .i64 da, .string t] 31)).cell? ⟨w.heap.size, 7, none⟩ = some (.int .i64 da) := by go_simp
  have r8 : (w.alloc (.cells #[.int .i64 4, .bool y, .bool n, .slice ao l.length cap, .int .i64 sc, .int .i64 d, .int .i64 mo, .int .i64 da, .string t] 31)).cell? ⟨w.heap.size, 8, none⟩ = some (.string t) := by go_simp
  go_enter Tryz.func33, Tryz.ntmps33
  go_wp2_with fail
  refine (unhide CI _).mono ?_
  rintro e w1 ⟨rfl, hw⟩
  subst hw
  go_wp2_with fail
  refine (unhide CB _).mono ?_
  rintro e w2 ⟨rfl, b2⟩
  have B2 := B0.trans (b2.mono B0.size)
  cases h
  · go_wp2
    go_ret
    exact ⟨by cases g <;> rfl, B2⟩
  · have zr := Nat.lt_of_lt_of_le z0 b2.size
    have q0 := cell_later b2 r0
    have q1 := cell_later b2 r1
    have q2 := cell_later b2 r2
    have q3 := cell_later b2 r3
    have q4 := cell_later b2 r4
    have q5 := cell_later b2 r5
    have q6 := cell_later b2 r6
    have q7 := cell_later b2 r7
    have q8 := cell_later b2 r8
    clear r0 r1 r2 r3 r4 r5 r6 r7 r8 b2 B0 z0 CI CB
    go_wp2_with fail
    refine (unhide CK _ B2).mono ?_
    rintro e w3 ⟨rfl, b3⟩
    go_wp2
    go_ret
    exact ⟨by cases g <;> rfl, by subst b3; exact B2.alloc B2.size _⟩

set_option maxHeartbeats 2000000 in
theorem specL4Ok_5 (w : World) (y n : Bool) (ao : Option Addr) (l : List Int) (cap : Nat) (sc d mo da : Int) (t : ByteArray) (ht : t.size ≤ maxLen) :
    Calls Tryz.prog 33 #[.agg #[.int .i64 5, .bool y, .bool n, .slice ao l.length cap, .int .i64 sc, .int .i64 d, .int .i64 mo, .int .i64 da, .string t]] w fun e w' => e = .returned (.bool (valB 5 y n l sc d mo da t)) ∧ Below w.heap.size w w' := by
  have CI := fun W => inK_any W 5 0 5
  rw [show decide ((0 : Int) ≤ 5 ∧ (5 : Int) ≤ 5) = true by decide] at CI
  have CI := hide CI
  have CB := fun W => bareS_5 W y n ao l.length cap sc d mo da t
  have CK := fun W (b : Below w.heap.size w W) => specText_any W t ht
  have hv : valB 5 y n l sc d mo da t = (textB t && bareB y n (l.length) sc d mo da (⟨#[]⟩)) := by simp [valB]
  rw [hv]
  generalize bareB y n (l.length) sc d mo da (⟨#[]⟩) = h at *
  generalize hgg : (textB t : Bool) = g at *
  have CB := hide CB
  have CK := hide CK
  clear hv hgg
  have B0 : Below w.heap.size w (w.alloc (.cells #[.int .i64 5, .bool y, .bool n, .slice ao l.length cap, .int .i64 sc, .int .i64 d, .int .i64 mo, .int .i64 da, .string t] 31)) := (Below.refl _ _).alloc (Nat.le_refl _) _
  have z0 : w.heap.size < (w.alloc (.cells #[.int .i64 5, .bool y, .bool n, .slice ao l.length cap, .int .i64 sc, .int .i64 d, .int .i64 mo, .int .i64 da, .string t] 31)).heap.size := by simp
  have r0 : (w.alloc (.cells #[.int .i64 5, .bool y, .bool n, .slice ao l.length cap, .int .i64 sc, .int .i64 d, .int .i64 mo, .int .i64 da, .string t] 31)).cell? ⟨w.heap.size, 0, none⟩ = some (.int .i64 5) := by go_simp
  have r1 : (w.alloc (.cells #[.int .i64 5, .bool y, .bool n, .slice ao l.length cap, .int .i64 sc, .int .i64 d, .int .i64 mo, .int .i64 da, .string t] 31)).cell? ⟨w.heap.size, 1, none⟩ = some (.bool y) := by go_simp
  have r2 : (w.alloc (.cells #[.int .i64 5, .bool y, .bool n, .slice ao l.length cap, .int .i64 sc, .int .i64 d, .int .i64 mo, .int .i64 da, .string t] 31)).cell? ⟨w.heap.size, 2, none⟩ = some (.bool n) := by go_simp
  have r3 : (w.alloc (.cells #[.int .i64 5, .bool y, .bool n, .slice ao l.length cap, .int .i64 sc, .int .i64 d, .int .i64 mo, .int .i64 da, .string t] 31)).cell? ⟨w.heap.size, 3, none⟩ = some (.slice ao l.length cap) := by go_simp
  have r4 : (w.alloc (.cells #[.int .i64 5, .bool y, .bool n, .slice ao l.length cap, .int .i64 sc, .int .i64 d, .int .i64 mo, .int .i64 da, .string t] 31)).cell? ⟨w.heap.size, 4, none⟩ = some (.int .i64 sc) := by go_simp
  have r5 : (w.alloc (.cells #[.int .i64 5, .bool y, .bool n, .slice ao l.length cap, .int .i64 sc, .int .i64 d, .int .i64 mo, .int .i64 da, .string t] 31)).cell? ⟨w.heap.size, 5, none⟩ = some (.int .i64 d) := by go_simp
  have r6 : (w.alloc (.cells #[.int .i64 5, .bool y, .bool n, .slice ao l.length cap, .int .i64 sc, .int .i64 d, .int .i64 mo, .int .i64 da, .string t] 31)).cell? ⟨w.heap.size, 6, none⟩ = some (.int .i64 mo) := by go_simp
  have r7 : (w.alloc (.cells #[.int .i64 5, .bool y, .bool n, .slice ao l.length cap, .int .i64 sc, .int .i64 d, .int .i64 mo, .int .i64 da, .string t] 31)).cell? ⟨w.heap.size, 7, none⟩ = some (.int .i64 da) := by go_simp
  have r8 : (w.alloc (.cells #[.int .i64 5, .bool y, .bool n, .slice ao l.length cap, .int .i64 sc, .int .i64 d, .int .i64 mo, .int .i64 da, .string t] 31)).cell? ⟨w.heap.size, 8, none⟩ = some (.string t) := by go_simp
  go_enter Tryz.func33, Tryz.ntmps33
  go_wp2_with fail
  refine (unhide CI _).mono ?_
  rintro e w1 ⟨rfl, hw⟩
  subst hw
  go_wp2_with fail
  refine (unhide CB _).mono ?_
  rintro e w2 ⟨rfl, b2⟩
  have B2 := B0.trans (b2.mono B0.size)
  cases h
  · go_wp2
    go_ret
    exact ⟨by cases g <;> rfl, B2⟩
  · have zr := Nat.lt_of_lt_of_le z0 b2.size
    have q0 := cell_later b2 r0
    have q1 := cell_later b2 r1
    have q2 := cell_later b2 r2
    have q3 := cell_later b2 r3
    have q4 := cell_later b2 r4
    have q5 := cell_later b2 r5
    have q6 := cell_later b2 r6
    have q7 := cell_later b2 r7
    have q8 := cell_later b2 r8
    clear r0 r1 r2 r3 r4 r5 r6 r7 r8 b2 B0 z0 CI CB
    go_wp2_with fail
    refine (unhide CK _ B2).mono ?_
    rintro e w3 ⟨rfl, b3⟩
    go_wp2
    go_ret
    exact ⟨by cases g <;> rfl, B2.trans (b3.mono B2.size)⟩

theorem specL4Ok_any (w : World) (k : Int) (y n : Bool) (ao : Option Addr) (l : List Int) (cap : Nat) (sc d mo da : Int) (t : ByteArray) (ht : t.size ≤ maxLen) (hr : Reads w (.slice ao l.length cap) l) :
    Calls Tryz.prog 33 #[.agg #[.int .i64 k, .bool y, .bool n, .slice ao l.length cap, .int .i64 sc, .int .i64 d, .int .i64 mo, .int .i64 da, .string t]] w fun e w' => e = .returned (.bool (valB k y n l sc d mo da t)) ∧ Below w.heap.size w w' := by
  by_cases hk : 0 ≤ k ∧ k ≤ 5
  · have h : k = 0 ∨ k = 1 ∨ k = 2 ∨ k = 3 ∨ k = 4 ∨ k = 5 := by omega
    rcases h with rfl | rfl | rfl | rfl | rfl | rfl
    · exact specL4Ok_0 w y n ao l cap sc d mo da t ht
    · exact specL4Ok_1 w y n ao l cap sc d mo da t ht
    · exact specL4Ok_2 w y n ao l cap sc d mo da t ht hr
    · exact specL4Ok_3 w y n ao l cap sc d mo da t ht
    · exact specL4Ok_4 w y n ao l cap sc d mo da t ht
    · exact specL4Ok_5 w y n ao l cap sc d mo da t ht
  · have CI := fun W => inK_any W k 0 5
    rw [decide_eq_false hk] at CI
    have hv : valB k y n l sc d mo da t = false := by
      unfold valB
      rw [if_neg (by omega), if_neg (by omega), if_neg (by omega), if_neg (by omega), if_neg (by omega), if_neg (by omega)]
    rw [hv]
    have CI := hide CI
    clear hv hk
    have B0 : Below w.heap.size w (w.alloc (.cells #[.int .i64 k, .bool y, .bool n, .slice ao l.length cap, .int .i64 sc, .int .i64 d, .int .i64 mo, .int .i64 da, .string t] 31)) := (Below.refl _ _).alloc (Nat.le_refl _) _
    go_enter Tryz.func33, Tryz.ntmps33
    go_wp2_with fail
    refine (unhide CI _).mono ?_
    rintro e w1 ⟨rfl, hw⟩
    subst hw
    go_wp2
    go_ret
    exact ⟨rfl, B0⟩

end Go.Proofs.YtdklikicngmkbaaGreatDoor
