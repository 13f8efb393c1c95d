/- ValueOk of the program, by a contract. -/
import Derived.Test.YtdklikicngmkbaaGreatDoorVlK
namespace Go.Proofs.YtdklikicngmkbaaGreatDoor
open Go.RowKit
set_option maxRecDepth 100000
set_option linter.unusedSimpArgs false
set_option linter.unusedVariables false

/-- All parts of a value but its kind are nothing. -/
def bareB (y n : Bool) (N : Nat) (sc d mo da : Int) (t : ByteArray) : Bool :=
  (!n && decide (N = 0) && decide (sc = 0)) && !y && decide (d = 0) && (decide (mo = 0) && decide (da = 0)) && t.toList.isEmpty

/-- A value is ok. -/
def valB (k : Int) (y n : Bool) (l : List Int) (sc d mo da : Int) (t : ByteArray) : Bool :=
  if k = 0 then bareB y n (l.length) sc d mo da t
  else if k = 1 then bareB false n (l.length) sc d mo da t
  else if k = 2 then decB n l sc && bareB y false 0 0 d mo da t
  else if k = 3 then decide (1 ≤ d ∧ d ≤ 3652059) && bareB y n (l.length) sc 0 mo da t
  else if k = 4 then decide (SpanIs mo da) && bareB y n (l.length) sc d 0 0 t
  else if k = 5 then textB t && bareB y n (l.length) sc d mo da (⟨#[]⟩)
  else false

set_option maxHeartbeats 2000000 in
theorem bare_any (w : World) (k : Int) (y n : Bool) (ao : Option Addr) (N cap : Nat) (sc d mo da : Int) (t : ByteArray) : Calls Tryz.prog 35 #[.agg #[.int .i64 k, .bool y, .bool n, .slice ao N cap, .int .i64 sc, .int .i64 d, .int .i64 mo, .int .i64 da, .string t]] w fun e w' => e = .returned (.bool (bareB y n N sc d mo da t)) ∧ Below w.heap.size w w' := by
  have B0 : Below w.heap.size w (w.alloc (.cells #[.int .i64 k, .bool y, .bool n, .slice ao N cap, .int .i64 sc, .int .i64 d, .int .i64 mo, .int .i64 da, .string t] 31)) := (Below.refl _ _).alloc (Nat.le_refl _) _
  go_enter Tryz.func35, Tryz.ntmps35
  go_wp2
  all_goals
    go_ret
    refine ⟨?_, (Below.refl _ _).alloc (Nat.le_refl _) _⟩
    simp [bareB, *]

set_option maxHeartbeats 2000000 in
theorem implValueOk_0 (w : World) (y n : Bool) (ao : Option Addr) (l : List Int) (cap : Nat) (sc d mo da : Int) (t : ByteArray) (ht : t.size ≤ maxLen) :
    Calls Tryz.prog 12 #[.agg #[.int .i64 0, .bool y, .bool n, .slice ao l.length cap, .int .i64 sc, .int .i64 d, .int .i64 mo, .int .i64 da, .string t]] w fun e w' => e = .returned (.bool (valB 0 y n l sc d mo da t)) ∧ Below w.heap.size w w' := by
  have hm : ∀ w : World, (method 365 92 (.agg #[]) "loop.example/jetton/impl.ok").run Tryz.prog w = .ok (272, .agg #[]) w := fun _ => by kernel_rfl
  have CO := hide (fun W => opened_0 W y n ao l.length cap sc d mo da t)
  have CB := fun W => bare_any W 0 (y) (n) (ao) (l.length) (cap) (sc) (d) (mo) (da) (t)
  have CK := fun W (b : Below w.heap.size w W) => noneOk W
  have hv : valB 0 y n l sc d mo da t = bareB y n (l.length) sc d mo da t := by simp [valB]
  rw [hv]
  generalize bareB y n (l.length) sc d mo da t = h at *
  have CB := hide CB
  have CK := hide CK
  clear hv
  have B0 : Below w.heap.size w (w.alloc (.cells #[.int .i64 0, .bool y, .bool n, .slice ao l.length cap, .int .i64 sc, .int .i64 d, .int .i64 mo, .int .i64 da, .string t] 31)) := (Below.refl _ _).alloc (Nat.le_refl _) _
  have z0 : w.heap.size < (w.alloc (.cells #[.int .i64 0, .bool y, .bool n, .slice ao l.length cap, .int .i64 sc, .int .i64 d, .int .i64 mo, .int .i64 da, .string t] 31)).heap.size := by simp
  go_enter Tryz.func12, Tryz.ntmps12
  go_wp2_with fail
  refine (unhide CO _).mono ?_
  rintro e w1 ⟨rfl, b1⟩
  have B1 := B0.trans (b1.mono B0.size)
  have B2 := B1.alloc B1.size (.cells #[.int .i64 0, .bool y, .bool n, .slice ao l.length cap, .int .i64 sc, .int .i64 d, .int .i64 mo, .int .i64 da, .string t] 31)
  have zq : w1.heap.size < (w1.alloc (.cells #[.int .i64 0, .bool y, .bool n, .slice ao l.length cap, .int .i64 sc, .int .i64 d, .int .i64 mo, .int .i64 da, .string t] 31)).heap.size := by simp
  have r0 : (w1.alloc (.cells #[.int .i64 0, .bool y, .bool n, .slice ao l.length cap, .int .i64 sc, .int .i64 d, .int .i64 mo, .int .i64 da, .string t] 31)).cell? ⟨w1.heap.size, 0, none⟩ = some (.int .i64 0) := by go_simp
  have r1 : (w1.alloc (.cells #[.int .i64 0, .bool y, .bool n, .slice ao l.length cap, .int .i64 sc, .int .i64 d, .int .i64 mo, .int .i64 da, .string t] 31)).cell? ⟨w1.heap.size, 1, none⟩ = some (.bool y) := by go_simp
  have r2 : (w1.alloc (.cells #[.int .i64 0, .bool y, .bool n, .slice ao l.length cap, .int .i64 sc, .int .i64 d, .int .i64 mo, .int .i64 da, .string t] 31)).cell? ⟨w1.heap.size, 2, none⟩ = some (.bool n) := by go_simp
  have r3 : (w1.alloc (.cells #[.int .i64 0, .bool y, .bool n, .slice ao l.length cap, .int .i64 sc, .int .i64 d, .int .i64 mo, .int .i64 da, .string t] 31)).cell? ⟨w1.heap.size, 3, none⟩ = some (.slice ao l.length cap) := by go_simp
  have r4 : (w1.alloc (.cells #[.int .i64 0, .bool y, .bool n, .slice ao l.length cap, .int .i64 sc, .int .i64 d, .int .i64 mo, .int .i64 da, .string t] 31)).cell? ⟨w1.heap.size, 4, none⟩ = some (.int .i64 sc) := by go_simp
  have r5 : (w1.alloc (.cells #[.int .i64 0, .bool y, .bool n, .slice ao l.length cap, .int .i64 sc, .int .i64 d, .int .i64 mo, .int .i64 da, .string t] 31)).cell? ⟨w1.heap.size, 5, none⟩ = some (.int .i64 d) := by go_simp
  have r6 : (w1.alloc (.cells #[.int .i64 0, .bool y, .bool n, .slice ao l.length cap, .int .i64 sc, .int .i64 d, .int .i64 mo, .int .i64 da, .string t] 31)).cell? ⟨w1.heap.size, 6, none⟩ = some (.int .i64 mo) := by go_simp
  have r7 : (w1.alloc (.cells #[.int .i64 0, .bool y, .bool n, .slice ao l.length cap, .int .i64 sc, .int .i64 d, .int .i64 mo, .int .i64 da, .string t] 31)).cell? ⟨w1.heap.size, 7, none⟩ = some (.int .i64 da) := by go_simp
  have r8 : (w1.alloc (.cells #[.int .i64 0, .bool y, .bool n, .slice ao l.length cap, .int .i64 sc, .int .i64 d, .int .i64 mo, .int .i64 da, .string t] 31)).cell? ⟨w1.heap.size, 8, none⟩ = some (.string t) := by go_simp
  clear b1 B0 z0 CO B1
  go_wp2_with fail
  refine (unhide CK _ B2).mono ?_
  rintro e w2 ⟨rfl, b2⟩
  have q0 := cell_later b2 r0
  have q1 := cell_later b2 r1
  have q2 := cell_later b2 r2
  have q3 := cell_later b2 r3
  have q4 := cell_later b2 r4
  have q5 := cell_later b2 r5
  have q6 := cell_later b2 r6
  have q7 := cell_later b2 r7
  have q8 := cell_later b2 r8
  have B3 := B2.trans (b2.mono B2.size)
  have zr := Nat.lt_of_lt_of_le zq b2.size
  clear r0 r1 r2 r3 r4 r5 r6 r7 r8 b2 CK B2 zq
  go_wp2_with fail
  refine (unhide CB _).mono ?_
  rintro e w3 ⟨rfl, b3⟩
  go_wp2
  go_ret
  exact ⟨rfl, B3.trans (b3.mono B3.size)⟩

set_option maxHeartbeats 2000000 in
theorem implValueOk_1 (w : World) (y n : Bool) (ao : Option Addr) (l : List Int) (cap : Nat) (sc d mo da : Int) (t : ByteArray) (ht : t.size ≤ maxLen) :
    Calls Tryz.prog 12 #[.agg #[.int .i64 1, .bool y, .bool n, .slice ao l.length cap, .int .i64 sc, .int .i64 d, .int .i64 mo, .int .i64 da, .string t]] w fun e w' => e = .returned (.bool (valB 1 y n l sc d mo da t)) ∧ Below w.heap.size w w' := by
  have hm : ∀ w : World, (method 365 93 (.bool y) "loop.example/jetton/impl.ok").run Tryz.prog w = .ok (276, .bool y) w := fun _ => by kernel_rfl
  have CO := hide (fun W => opened_1 W y n ao l.length cap sc d mo da t)
  have CB := fun W => bare_any W 1 (false) (n) (ao) (l.length) (cap) (sc) (d) (mo) (da) (t)
  have CK := fun W (b : Below w.heap.size w W) => boolOk W y
  have hv : valB 1 y n l sc d mo da t = bareB false n (l.length) sc d mo da t := by simp [valB]
  rw [hv]
  generalize bareB false n (l.length) sc d mo da t = h at *
  have CB := hide CB
  have CK := hide CK
  clear hv
  have B0 : Below w.heap.size w (w.alloc (.cells #[.int .i64 1, .bool y, .bool n, .slice ao l.length cap, .int .i64 sc, .int .i64 d, .int .i64 mo, .int .i64 da, .string t] 31)) := (Below.refl _ _).alloc (Nat.le_refl _) _
  have z0 : w.heap.size < (w.alloc (.cells #[.int .i64 1, .bool y, .bool n, .slice ao l.length cap, .int .i64 sc, .int .i64 d, .int .i64 mo, .int .i64 da, .string t] 31)).heap.size := by simp
  go_enter Tryz.func12, Tryz.ntmps12
  go_wp2_with fail
  refine (unhide CO _).mono ?_
  rintro e w1 ⟨rfl, b1⟩
  have B1 := B0.trans (b1.mono B0.size)
  have B2 := B1.alloc B1.size (.cells #[.int .i64 1, .bool false, .bool n, .slice ao l.length cap, .int .i64 sc, .int .i64 d, .int .i64 mo, .int .i64 da, .string t] 31)
  have zq : w1.heap.size < (w1.alloc (.cells #[.int .i64 1, .bool false, .bool n, .slice ao l.length cap, .int .i64 sc, .int .i64 d, .int .i64 mo, .int .i64 da, .string t] 31)).heap.size := by simp
  have r0 : (w1.alloc (.cells #[.int .i64 1, .bool false, .bool n, .slice ao l.length cap, .int .i64 sc, .int .i64 d, .int .i64 mo, .int .i64 da, .string t] 31)).cell? ⟨w1.heap.size, 0, none⟩ = some (.int .i64 1) := by go_simp
  have r1 : (w1.alloc (.cells #[.int .i64 1, .bool false, .bool n, .slice ao l.length cap, .int .i64 sc, .int .i64 d, .int .i64 mo, .int .i64 da, .string t] 31)).cell? ⟨w1.heap.size, 1, none⟩ = some (.bool false) := by go_simp
  have r2 : (w1.alloc (.cells #[.int .i64 1, .bool false, .bool n, .slice ao l.length cap, .int .i64 sc, .int .i64 d, .int .i64 mo, .int .i64 da, .string t] 31)).cell? ⟨w1.heap.size, 2, none⟩ = some (.bool n) := by go_simp
  have r3 : (w1.alloc (.cells #[.int .i64 1, .bool false, .bool n, .slice ao l.length cap, .int .i64 sc, .int .i64 d, .int .i64 mo, .int .i64 da, .string t] 31)).cell? ⟨w1.heap.size, 3, none⟩ = some (.slice ao l.length cap) := by go_simp
  have r4 : (w1.alloc (.cells #[.int .i64 1, .bool false, .bool n, .slice ao l.length cap, .int .i64 sc, .int .i64 d, .int .i64 mo, .int .i64 da, .string t] 31)).cell? ⟨w1.heap.size, 4, none⟩ = some (.int .i64 sc) := by go_simp
  have r5 : (w1.alloc (.cells #[.int .i64 1, .bool false, .bool n, .slice ao l.length cap, .int .i64 sc, .int .i64 d, .int .i64 mo, .int .i64 da, .string t] 31)).cell? ⟨w1.heap.size, 5, none⟩ = some (.int .i64 d) := by go_simp
  have r6 : (w1.alloc (.cells #[.int .i64 1, .bool false, .bool n, .slice ao l.length cap, .int .i64 sc, .int .i64 d, .int .i64 mo, .int .i64 da, .string t] 31)).cell? ⟨w1.heap.size, 6, none⟩ = some (.int .i64 mo) := by go_simp
  have r7 : (w1.alloc (.cells #[.int .i64 1, .bool false, .bool n, .slice ao l.length cap, .int .i64 sc, .int .i64 d, .int .i64 mo, .int .i64 da, .string t] 31)).cell? ⟨w1.heap.size, 7, none⟩ = some (.int .i64 da) := by go_simp
  have r8 : (w1.alloc (.cells #[.int .i64 1, .bool false, .bool n, .slice ao l.length cap, .int .i64 sc, .int .i64 d, .int .i64 mo, .int .i64 da, .string t] 31)).cell? ⟨w1.heap.size, 8, none⟩ = some (.string t) := by go_simp
  clear b1 B0 z0 CO B1
  go_wp2_with fail
  refine (unhide CK _ B2).mono ?_
  rintro e w2 ⟨rfl, b2⟩
  have q0 := cell_later b2 r0
  have q1 := cell_later b2 r1
  have q2 := cell_later b2 r2
  have q3 := cell_later b2 r3
  have q4 := cell_later b2 r4
  have q5 := cell_later b2 r5
  have q6 := cell_later b2 r6
  have q7 := cell_later b2 r7
  have q8 := cell_later b2 r8
  have B3 := B2.trans (b2.mono B2.size)
  have zr := Nat.lt_of_lt_of_le zq b2.size
  clear r0 r1 r2 r3 r4 r5 r6 r7 r8 b2 CK B2 zq
  go_wp2_with fail
  refine (unhide CB _).mono ?_
  rintro e w3 ⟨rfl, b3⟩
  go_wp2
  go_ret
  exact ⟨rfl, B3.trans (b3.mono B3.size)⟩

set_option maxHeartbeats 2000000 in
theorem implValueOk_2 (w : World) (y n : Bool) (ao : Option Addr) (l : List Int) (cap : Nat) (sc d mo da : Int) (t : ByteArray) (ht : t.size ≤ maxLen) (hr : Reads w (.slice ao l.length cap) l) (tt : Tab w) :
    Calls Tryz.prog 12 #[.agg #[.int .i64 2, .bool y, .bool n, .slice ao l.length cap, .int .i64 sc, .int .i64 d, .int .i64 mo, .int .i64 da, .string t]] w fun e w' => e = .returned (.bool (valB 2 y n l sc d mo da t)) ∧ Below w.heap.size w w' := by
  have hm : ∀ w : World, (method 365 94 (.agg #[.bool n, .slice ao l.length cap, .int .i64 sc]) "loop.example/jetton/impl.ok").run Tryz.prog w = .ok (282, .agg #[.bool n, .slice ao l.length cap, .int .i64 sc]) w := fun _ => by kernel_rfl
  have CO := hide (fun W => opened_2 W y n ao l.length cap sc d mo da t)
  have CB := fun W => bare_any W 2 (y) (false) (none) (0) (0) (0) (d) (mo) (da) (t)
  have CK := fun W (b : Below w.heap.size w W) => numOk W n ao l cap sc (hr.later b) (tt.later b)
  have hv : valB 2 y n l sc d mo da t = (decB n l sc && bareB y false 0 0 d mo da t) := by simp [valB]
  rw [hv]
  generalize bareB y false 0 0 d mo da t = h at *
  generalize hgg : (decB n l sc : Bool) = g at *
  have CB := hide CB
  have CK := hide CK
  clear hv hgg hr tt
  have B0 : Below w.heap.size w (w.alloc (.cells #[.int .i64 2, .bool y, .bool n, .slice ao l.length cap, .int .i64 sc, .int .i64 d, .int .i64 mo, .int .i64 da, .string t] 31)) := (Below.refl _ _).alloc (Nat.le_refl _) _
  have z0 : w.heap.size < (w.alloc (.cells #[.int .i64 2, .bool y, .bool n, .slice ao l.length cap, .int .i64 sc, .int .i64 d, .int .i64 mo, .int .i64 da, .string t] 31)).heap.size := by simp
  go_enter Tryz.func12, Tryz.ntmps12
  go_wp2_with fail
  refine (unhide CO _).mono ?_
  rintro e w1 ⟨rfl, b1⟩
  have B1 := B0.trans (b1.mono B0.size)
  have B2 := B1.alloc B1.size (.cells #[.int .i64 2, .bool y, .bool false, .slice none 0 0, .int .i64 0, .int .i64 d, .int .i64 mo, .int .i64 da, .string t] 31)
  have zq : w1.heap.size < (w1.alloc (.cells #[.int .i64 2, .bool y, .bool false, .slice none 0 0, .int .i64 0, .int .i64 d, .int .i64 mo, .int .i64 da, .string t] 31)).heap.size := by simp
  have r0 : (w1.alloc (.cells #[.int .i64 2, .bool y, .bool false, .slice none 0 0, .int .i64 0, .int .i64 d, .int .i64 mo, .int .i64 da, .string t] 31)).cell? ⟨w1.heap.size, 0, none⟩ = some (.int .i64 2) := by go_simp
  have r1 : (w1.alloc (.cells #[.int .i64 2, .bool y, .bool false, .slice none 0 0, .int .i64 0, .int .i64 d, .int .i64 mo, .int .i64 da, .string t] 31)).cell? ⟨w1.heap.size, 1, none⟩ = some (.bool y) := by go_simp
  have r2 : (w1.alloc (.cells #[.int .i64 2, .bool y, .bool false, .slice none 0 0, .int .i64 0, .int .i64 d, .int .i64 mo, .int .i64 da, .string t] 31)).cell? ⟨w1.heap.size, 2, none⟩ = some (.bool false) := by go_simp
  have r3 : (w1.alloc (.cells #[.int .i64 2, .bool y, .bool false, .slice none 0 0, .int .i64 0, .int .i64 d, .int .i64 mo, .int .i64 da, .string t] 31)).cell? ⟨w1.heap.size, 3, none⟩ = some (.slice none 0 0) := by go_simp
  have r4 : (w1.alloc (.cells #[.int .i64 2, .bool y, .bool false, .slice none 0 0, .int .i64 0, .int .i64 d, .int .i64 mo, .int .i64 da, .string t] 31)).cell? ⟨w1.heap.size, 4, none⟩ = some (.int .i64 0) := by go_simp
  have r5 : (w1.alloc (.cells #[.int .i64 2, .bool y, .bool false, .slice none 0 0, .int .i64 0, .int .i64 d, .int .i64 mo, .int .i64 da, .string t] 31)).cell? ⟨w1.heap.size, 5, none⟩ = some (.int .i64 d) := by go_simp
  have r6 : (w1.alloc (.cells #[.int .i64 2, .bool y, .bool false, .slice none 0 0, .int .i64 0, .int .i64 d, .int .i64 mo, .int .i64 da, .string t] 31)).cell? ⟨w1.heap.size, 6, none⟩ = some (.int .i64 mo) := by go_simp
  have r7 : (w1.alloc (.cells #[.int .i64 2, .bool y, .bool false, .slice none 0 0, .int .i64 0, .int .i64 d, .int .i64 mo, .int .i64 da, .string t] 31)).cell? ⟨w1.heap.size, 7, none⟩ = some (.int .i64 da) := by go_simp
  have r8 : (w1.alloc (.cells #[.int .i64 2, .bool y, .bool false, .slice none 0 0, .int .i64 0, .int .i64 d, .int .i64 mo, .int .i64 da, .string t] 31)).cell? ⟨w1.heap.size, 8, none⟩ = some (.string t) := by go_simp
  clear b1 B0 z0 CO B1
  go_wp2_with fail
  refine (unhide CK _ B2).mono ?_
  rintro e w2 ⟨rfl, b2⟩
  have q0 := cell_later b2 r0
  have q1 := cell_later b2 r1
  have q2 := cell_later b2 r2
  have q3 := cell_later b2 r3
  have q4 := cell_later b2 r4
  have q5 := cell_later b2 r5
  have q6 := cell_later b2 r6
  have q7 := cell_later b2 r7
  have q8 := cell_later b2 r8
  have B3 := B2.trans (b2.mono B2.size)
  have zr := Nat.lt_of_lt_of_le zq b2.size
  clear r0 r1 r2 r3 r4 r5 r6 r7 r8 b2 CK B2 zq
  cases g
  · go_wp2
    go_ret
    exact ⟨rfl, B3⟩
  · go_wp2_with fail
    refine (unhide CB _).mono ?_
    rintro e w3 ⟨rfl, b3⟩
    go_wp2
    go_ret
    exact ⟨rfl, B3.trans (b3.mono B3.size)⟩

set_option maxHeartbeats 2000000 in
theorem implValueOk_3 (w : World) (y n : Bool) (ao : Option Addr) (l : List Int) (cap : Nat) (sc d mo da : Int) (t : ByteArray) (ht : t.size ≤ maxLen) :
    Calls Tryz.prog 12 #[.agg #[.int .i64 3, .bool y, .bool n, .slice ao l.length cap, .int .i64 sc, .int .i64 d, .int .i64 mo, .int .i64 da, .string t]] w fun e w' => e = .returned (.bool (valB 3 y n l sc d mo da t)) ∧ Below w.heap.size w w' := by
  have hm : ∀ w : World, (method 365 95 (.int .i64 d) "loop.example/jetton/impl.ok").run Tryz.prog w = .ok (299, .int .i64 d) w := fun _ => by kernel_rfl
  have CO := hide (fun W => opened_3 W y n ao l.length cap sc d mo da t)
  have CB := fun W => bare_any W 3 (y) (n) (ao) (l.length) (cap) (sc) (0) (mo) (da) (t)
  have CK := fun W (b : Below w.heap.size w W) => dayKOk W d
  have hv : valB 3 y n l sc d mo da t = (decide (1 ≤ d ∧ d ≤ 3652059) && bareB y n (l.length) sc 0 mo da t) := by simp [valB]
  rw [hv]
  generalize bareB y n (l.length) sc 0 mo da t = h at *
  generalize hgg : (decide (1 ≤ d ∧ d ≤ 3652059) : Bool) = g at *
  have CB := hide CB
  have CK := hide CK
  clear hv hgg
  have B0 : Below w.heap.size w (w.alloc (.cells #[.int .i64 3, .bool y, .bool n, .slice ao l.length cap, .int .i64 sc, .int .i64 d, .int .i64 mo, .int .i64 da, .string t] 31)) := (Below.refl _ _).alloc (Nat.le_refl _) _
  have z0 : w.heap.size < (w.alloc (.cells #[.int .i64 3, .bool y, .bool n, .slice ao l.length cap, .int .i64 sc, .int .i64 d, .int .i64 mo, .int .i64 da, .string t] 31)).heap.size := by simp
  go_enter Tryz.func12, Tryz.ntmps12
  go_wp2_with fail
  refine (unhide CO _).mono ?_
  rintro e w1 ⟨rfl, b1⟩
  have B1 := B0.trans (b1.mono B0.size)
  have B2 := B1.alloc B1.size (.cells #[.int .i64 3, .bool y, .bool n, .slice ao l.length cap, .int .i64 sc, .int .i64 0, .int .i64 mo, .int .i64 da, .string t] 31)
  have zq : w1.heap.size < (w1.alloc (.cells #[.int .i64 3, .bool y, .bool n, .slice ao l.length cap, .int .i64 sc, .int .i64 0, .int .i64 mo, .int .i64 da, .string t] 31)).heap.size := by simp
  have r0 : (w1.alloc (.cells #[.int .i64 3, .bool y, .bool n, .slice ao l.length cap, .int .i64 sc, .int .i64 0, .int .i64 mo, .int .i64 da, .string t] 31)).cell? ⟨w1.heap.size, 0, none⟩ = some (.int .i64 3) := by go_simp
  have r1 : (w1.alloc (.cells #[.int .i64 3, .bool y, .bool n, .slice ao l.length cap, .int .i64 sc, .int .i64 0, .int .i64 mo, .int .i64 da, .string t] 31)).cell? ⟨w1.heap.size, 1, none⟩ = some (.bool y) := by go_simp
  have r2 : (w1.alloc (.cells #[.int .i64 3, .bool y, .bool n, .slice ao l.length cap, .int .i64 sc, .int .i64 0, .int .i64 mo, .int .i64 da, .string t] 31)).cell? ⟨w1.heap.size, 2, none⟩ = some (.bool n) := by go_simp
  have r3 : (w1.alloc (.cells #[.int .i64 3, .bool y, .bool n, .slice ao l.length cap, .int .i64 sc, .int .i64 0, .int .i64 mo, .int .i64 da, .string t] 31)).cell? ⟨w1.heap.size, 3, none⟩ = some (.slice ao l.length cap) := by go_simp
  have r4 : (w1.alloc (.cells #[.int .i64 3, .bool y, .bool n, .slice ao l.length cap, .int .i64 sc, .int .i64 0, .int .i64 mo, .int .i64 da, .string t] 31)).cell? ⟨w1.heap.size, 4, none⟩ = some (.int .i64 sc) := by go_simp
  have r5 : (w1.alloc (.cells #[.int .i64 3, .bool y, .bool n, .slice ao l.length cap, .int .i64 sc, .int .i64 0, .int .i64 mo, .int .i64 da, .string t] 31)).cell? ⟨w1.heap.size, 5, none⟩ = some (.int .i64 0) := by go_simp
  have r6 : (w1.alloc (.cells #[.int .i64 3, .bool y, .bool n, .slice ao l.length cap, .int .i64 sc, .int .i64 0, .int .i64 mo, .int .i64 da, .string t] 31)).cell? ⟨w1.heap.size, 6, none⟩ = some (.int .i64 mo) := by go_simp
  have r7 : (w1.alloc (.cells #[.int .i64 3, .bool y, .bool n, .slice ao l.length cap, .int .i64 sc, .int .i64 0, .int .i64 mo, .int .i64 da, .string t] 31)).cell? ⟨w1.heap.size, 7, none⟩ = some (.int .i64 da) := by go_simp
  have r8 : (w1.alloc (.cells #[.int .i64 3, .bool y, .bool n, .slice ao l.length cap, .int .i64 sc, .int .i64 0, .int .i64 mo, .int .i64 da, .string t] 31)).cell? ⟨w1.heap.size, 8, none⟩ = some (.string t) := by go_simp
  clear b1 B0 z0 CO B1
  go_wp2_with fail
  refine (unhide CK _ B2).mono ?_
  rintro e w2 ⟨rfl, b2⟩
  have q0 := cell_later b2 r0
  have q1 := cell_later b2 r1
  have q2 := cell_later b2 r2
  have q3 := cell_later b2 r3
  have q4 := cell_later b2 r4
  have q5 := cell_later b2 r5
  have q6 := cell_later b2 r6
  have q7 := cell_later b2 r7
  have q8 := cell_later b2 r8
  have B3 := B2.trans (b2.mono B2.size)
  have zr := Nat.lt_of_lt_of_le zq b2.size
  clear r0 r1 r2 r3 r4 r5 r6 r7 r8 b2 CK B2 zq
  cases g
  · go_wp2
    go_ret
    exact ⟨rfl, B3⟩
  · go_wp2_with fail
    refine (unhide CB _).mono ?_
    rintro e w3 ⟨rfl, b3⟩
    go_wp2
    go_ret
    exact ⟨rfl, B3.trans (b3.mono B3.size)⟩

set_option maxHeartbeats 2000000 in
theorem implValueOk_4 (w : World) (y n : Bool) (ao : Option Addr) (l : List Int) (cap : Nat) (sc d mo da : Int) (t : ByteArray) (ht : t.size ≤ maxLen) :
    Calls Tryz.prog 12 #[.agg #[.int .i64 4, .bool y, .bool n, .slice ao l.length cap, .int .i64 sc, .int .i64 d, .int .i64 mo, .int .i64 da, .string t]] w fun e w' => e = .returned (.bool (valB 4 y n l sc d mo da t)) ∧ Below w.heap.size w w' := by
  have hm : ∀ w : World, (method 365 96 (.agg #[.int .i64 mo, .int .i64 da]) "loop.example/jetton/impl.ok").run Tryz.prog w = .ok (303, .agg #[.int .i64 mo, .int .i64 da]) w := fun _ => by kernel_rfl
  have CO := hide (fun W => opened_4 W y n ao l.length cap sc d mo da t)
  have CB := fun W => bare_any W 4 (y) (n) (ao) (l.length) (cap) (sc) (d) (0) (0) (t)
  have CK := fun W (b : Below w.heap.size w W) => spanKOk W mo da
  have hv : valB 4 y n l sc d mo da t = (decide (SpanIs mo da) && bareB y n (l.length) sc d 0 0 t) := by simp [valB]
  rw [hv]
  generalize bareB y n (l.length) sc d 0 0 t = h at *
  generalize hgg : (decide (SpanIs mo da) : Bool) = g at *
  have CB := hide CB
  have CK := hide CK
  clear hv hgg
  have B0 : Below w.heap.size w (w.alloc (.cells #[.int .i64 4, .bool y, .bool n, .slice ao l.length cap, .int .i64 sc, .int .i64 d, .int .i64 mo, .int .i64 da, .string t] 31)) := (Below.refl _ _).alloc (Nat.le_refl _) _
  have z0 : w.heap.size < (w.alloc (.cells #[.int .i64 4, .bool y, .bool n, .slice ao l.length cap, .int .i64 sc, .int .i64 d, .int .i64 mo, .int .i64 da, .string t] 31)).heap.size := by simp
  go_enter Tryz.func12, Tryz.ntmps12
  go_wp2_with fail
  refine (unhide CO _).mono ?_
  rintro e w1 ⟨rfl, b1⟩
  have B1 := B0.trans (b1.mono B0.size)
  have B2 := B1.alloc B1.size (.cells #[.int .i64 4, .bool y, .bool n, .slice ao l.length cap, .int .i64 sc, .int .i64 d, .int .i64 0, .int .i64 0, .string t] 31)
  have zq : w1.heap.size < (w1.alloc (.cells #[.int .i64 4, .bool y, .bool n, .slice ao l.length cap, .int .i64 sc, .int .i64 d, .int .i64 0, .int .i64 0, .string t] 31)).heap.size := by simp
  have r0 : (w1.alloc (.cells #[.int .i64 4, .bool y, .bool n, .slice ao l.length cap, .int .i64 sc, .int .i64 d, .int .i64 0, .int .i64 0, .string t] 31)).cell? ⟨w1.heap.size, 0, none⟩ = some (.int .i64 4) := by go_simp
  have r1 : (w1.alloc (.cells #[.int .i64 4, .bool y, .bool n, .slice ao l.length cap, .int .i64 sc, .int .i64 d, .int .i64 0, .int .i64 0, .string t] 31)).cell? ⟨w1.heap.size, 1, none⟩ = some (.bool y) := by go_simp
  have r2 : (w1.alloc (.cells #[.int .i64 4, .bool y, .bool n, .slice ao l.length cap, .int .i64 sc, .int .i64 d, .int .i64 0, .int .i64 0, .string t] 31)).cell? ⟨w1.heap.size, 2, none⟩ = some (.bool n) := by go_simp
  have r3 : (w1.alloc (.cells #[.int .i64 4, .bool y, .bool n, .slice ao l.length cap, .int .i64 sc, .int .i64 d, .int .i64 0, .int .i64 0, .string t] 31)).cell? ⟨w1.heap.size, 3, none⟩ = some (.slice ao l.length cap) := by go_simp
  have r4 : (w1.alloc (.cells #[.int .i64 4, .bool y, .bool n, .slice ao l.length cap, .int .i64 sc, .int .i64 d, .int .i64 0, .int .i64 0, .string t] 31)).cell? ⟨w1.heap.size, 4, none⟩ = some (.int .i64 sc) := by go_simp
  have r5 : (w1.alloc (.cells #[.int .i64 4, .bool y, .bool n, .slice ao l.length cap, .int .i64 sc, .int .i64 d, .int .i64 0, .int .i64 0, .string t] 31)).cell? ⟨w1.heap.size, 5, none⟩ = some (.int .i64 d) := by go_simp
  have r6 : (w1.alloc (.cells #[.int .i64 4, .bool y, .bool n, .slice ao l.length cap, .int .i64 sc, .int .i64 d, .int .i64 0, .int .i64 0, .string t] 31)).cell? ⟨w1.heap.size, 6, none⟩ = some (.int .i64 0) := by go_simp
  have r7 : (w1.alloc (.cells #[.int .i64 4, .bool y, .bool n, .slice ao l.length cap, .int .i64 sc, .int .i64 d, .int .i64 0, .int .i64 0, .string t] 31)).cell? ⟨w1.heap.size, 7, none⟩ = some (.int .i64 0) := by go_simp
  have r8 : (w1.alloc (.cells #[.int .i64 4, .bool y, .bool n, .slice ao l.length cap, .int .i64 sc, .int .i64 d, .int .i64 0, .int .i64 0, .string t] 31)).cell? ⟨w1.heap.size, 8, none⟩ = some (.string t) := by go_simp
  clear b1 B0 z0 CO B1
  go_wp2_with fail
  refine (unhide CK _ B2).mono ?_
  rintro e w2 ⟨rfl, b2⟩
  have q0 := cell_later b2 r0
  have q1 := cell_later b2 r1
  have q2 := cell_later b2 r2
  have q3 := cell_later b2 r3
  have q4 := cell_later b2 r4
  have q5 := cell_later b2 r5
  have q6 := cell_later b2 r6
  have q7 := cell_later b2 r7
  have q8 := cell_later b2 r8
  have B3 := B2.trans (b2.mono B2.size)
  have zr := Nat.lt_of_lt_of_le zq b2.size
  clear r0 r1 r2 r3 r4 r5 r6 r7 r8 b2 CK B2 zq
  cases g
  · go_wp2
    go_ret
    exact ⟨rfl, B3⟩
  · go_wp2_with fail
    refine (unhide CB _).mono ?_
    rintro e w3 ⟨rfl, b3⟩
    go_wp2
    go_ret
    exact ⟨rfl, B3.trans (b3.mono B3.size)⟩

set_option maxHeartbeats 2000000 in
theorem implValueOk_5 (w : World) (y n : Bool) (ao : Option Addr) (l : List Int) (cap : Nat) (sc d mo da : Int) (t : ByteArray) (ht : t.size ≤ maxLen) :
    Calls Tryz.prog 12 #[.agg #[.int .i64 5, .bool y, .bool n, .slice ao l.length cap, .int .i64 sc, .int .i64 d, .int .i64 mo, .int .i64 da, .string t]] w fun e w' => e = .returned (.bool (valB 5 y n l sc d mo da t)) ∧ Below w.heap.size w w' := by
  have hm : ∀ w : World, (method 365 97 (.string t) "loop.example/jetton/impl.ok").run Tryz.prog w = .ok (308, .string t) w := fun _ => by kernel_rfl
  have CO := hide (fun W => opened_5 W y n ao l.length cap sc d mo da t)
  have CB := fun W => bare_any W 5 (y) (n) (ao) (l.length) (cap) (sc) (d) (mo) (da) (⟨#[]⟩)
  have CK := fun W (b : Below w.heap.size w W) => textOk W t ht
  have hv : valB 5 y n l sc d mo da t = (textB t && bareB y n (l.length) sc d mo da (⟨#[]⟩)) := by simp [valB]
  rw [hv]
  generalize bareB y n (l.length) sc d mo da (⟨#[]⟩) = h at *
  generalize hgg : (textB t : Bool) = g at *
  have CB := hide CB
  have CK := hide CK
  clear hv hgg
  have B0 : Below w.heap.size w (w.alloc (.cells #[.int .i64 5, .bool y, .bool n, .slice ao l.length cap, .int .i64 sc, .int .i64 d, .int .i64 mo, .int .i64 da, .string t] 31)) := (Below.refl _ _).alloc (Nat.le_refl _) _
  have z0 : w.heap.size < (w.alloc (.cells #[.int .i64 5, .bool y, .bool n, .slice ao l.length cap, .int .i64 sc, .int .i64 d, .int .i64 mo, .int .i64 da, .string t] 31)).heap.size := by simp
  go_enter Tryz.func12, Tryz.ntmps12
  go_wp2_with fail
  refine (unhide CO _).mono ?_
  rintro e w1 ⟨rfl, b1⟩
  have B1 := B0.trans (b1.mono B0.size)
  have B2 := B1.alloc B1.size (.cells #[.int .i64 5, .bool y, .bool n, .slice ao l.length cap, .int .i64 sc, .int .i64 d, .int .i64 mo, .int .i64 da, .string ⟨#[]⟩] 31)
  have zq : w1.heap.size < (w1.alloc (.cells #[.int .i64 5, .bool y, .bool n, .slice ao l.length cap, .int .i64 sc, .int .i64 d, .int .i64 mo, .int .i64 da, .string ⟨#[]⟩] 31)).heap.size := by simp
  have r0 : (w1.alloc (.cells #[.int .i64 5, .bool y, .bool n, .slice ao l.length cap, .int .i64 sc, .int .i64 d, .int .i64 mo, .int .i64 da, .string ⟨#[]⟩] 31)).cell? ⟨w1.heap.size, 0, none⟩ = some (.int .i64 5) := by go_simp
  have r1 : (w1.alloc (.cells #[.int .i64 5, .bool y, .bool n, .slice ao l.length cap, .int .i64 sc, .int .i64 d, .int .i64 mo, .int .i64 da, .string ⟨#[]⟩] 31)).cell? ⟨w1.heap.size, 1, none⟩ = some (.bool y) := by go_simp
  have r2 : (w1.alloc (.cells #[.int .i64 5, .bool y, .bool n, .slice ao l.length cap, .int .i64 sc, .int .i64 d, .int .i64 mo, .int .i64 da, .string ⟨#[]⟩] 31)).cell? ⟨w1.heap.size, 2, none⟩ = some (.bool n) := by go_simp
  have r3 : (w1.alloc (.cells #[.int .i64 5, .bool y, .bool n, .slice ao l.length cap, .int .i64 sc, .int .i64 d, .int .i64 mo, .int .i64 da, .string ⟨#[]⟩] 31)).cell? ⟨w1.heap.size, 3, none⟩ = some (.slice ao l.length cap) := by go_simp
  have r4 : (w1.alloc (.cells #[.int .i64 5, .bool y, .bool n, .slice ao l.length cap, .int .i64 sc, .int .i64 d, .int .i64 mo, .int .i64 da, .string ⟨#[]⟩] 31)).cell? ⟨w1.heap.size, 4, none⟩ = some (.int .i64 sc) := by go_simp
  have r5 : (w1.alloc (.cells #[.int .i64 5, .bool y, .bool n, .slice ao l.length cap, .int .i64 sc, .int .i64 d, .int .i64 mo, .int .i64 da, .string ⟨#[]⟩] 31)).cell? ⟨w1.heap.size, 5, none⟩ = some (.int .i64 d) := by go_simp
  have r6 : (w1.alloc (.cells #[.int .i64 5, .bool y, .bool n, .slice ao l.length cap, .int .i64 sc, .int .i64 d, .int .i64 mo, .int .i64 da, .string ⟨#[]⟩] 31)).cell? ⟨w1.heap.size, 6, none⟩ = some (.int .i64 mo) := by go_simp
  have r7 : (w1.alloc (.cells #[.int .i64 5, .bool y, .bool n, .slice ao l.length cap, .int .i64 sc, .int .i64 d, .int .i64 mo, .int .i64 da, .string ⟨#[]⟩] 31)).cell? ⟨w1.heap.size, 7, none⟩ = some (.int .i64 da) := by go_simp
  have r8 : (w1.alloc (.cells #[.int .i64 5, .bool y, .bool n, .slice ao l.length cap, .int .i64 sc, .int .i64 d, .int .i64 mo, .int .i64 da, .string ⟨#[]⟩] 31)).cell? ⟨w1.heap.size, 8, none⟩ = some (.string ⟨#[]⟩) := by go_simp
  clear b1 B0 z0 CO B1
  go_wp2_with fail
  refine (unhide CK _ B2).mono ?_
  rintro e w2 ⟨rfl, b2⟩
  have q0 := cell_later b2 r0
  have q1 := cell_later b2 r1
  have q2 := cell_later b2 r2
  have q3 := cell_later b2 r3
  have q4 := cell_later b2 r4
  have q5 := cell_later b2 r5
  have q6 := cell_later b2 r6
  have q7 := cell_later b2 r7
  have q8 := cell_later b2 r8
  have B3 := B2.trans (b2.mono B2.size)
  have zr := Nat.lt_of_lt_of_le zq b2.size
  clear r0 r1 r2 r3 r4 r5 r6 r7 r8 b2 CK B2 zq
  cases g
  · go_wp2
    go_ret
    exact ⟨rfl, B3⟩
  · go_wp2_with fail
    refine (unhide CB _).mono ?_
    rintro e w3 ⟨rfl, b3⟩
    go_wp2
    go_ret
    exact ⟨rfl, B3.trans (b3.mono B3.size)⟩

theorem implValueOk_no (w : World) (k : Int) (hk : ¬ (0 ≤ k ∧ k ≤ 5)) (y n : Bool) (ao : Option Addr) (l : List Int) (cap : Nat) (sc d mo da : Int) (t : ByteArray) :
    Calls Tryz.prog 12 #[.agg #[.int .i64 k, .bool y, .bool n, .slice ao l.length cap, .int .i64 sc, .int .i64 d, .int .i64 mo, .int .i64 da, .string t]] w fun e w' => e = .returned (.bool (valB k y n l sc d mo da t)) ∧ Below w.heap.size w w' := by
  have CO := hide (fun W => opened_no W k hk y n ao l.length cap sc d mo da t)
  have hv : valB k y n l sc d mo da t = false := by
    unfold valB
    rw [if_neg (by omega), if_neg (by omega), if_neg (by omega), if_neg (by omega), if_neg (by omega), if_neg (by omega)]
  rw [hv]
  clear hv hk
  have B0 : Below w.heap.size w (w.alloc (.cells #[.int .i64 k, .bool y, .bool n, .slice ao l.length cap, .int .i64 sc, .int .i64 d, .int .i64 mo, .int .i64 da, .string t] 31)) := (Below.refl _ _).alloc (Nat.le_refl _) _
  go_enter Tryz.func12, Tryz.ntmps12
  go_wp2_with fail
  refine (unhide CO _).mono ?_
  rintro e w1 ⟨rfl, b1⟩
  have B1 := B0.trans (b1.mono B0.size)
  have B2 := B1.alloc B1.size (.cells #[.int .i64 k, .bool y, .bool n, .slice ao l.length cap, .int .i64 sc, .int .i64 d, .int .i64 mo, .int .i64 da, .string t] 31)
  clear b1 B0 CO
  go_wp2
  go_ret
  exact ⟨rfl, B2⟩

theorem implValueOk_any (w : World) (k : Int) (y n : Bool) (ao : Option Addr) (l : List Int) (cap : Nat) (sc d mo da : Int) (t : ByteArray) (ht : t.size ≤ maxLen) (hr : Reads w (.slice ao l.length cap) l) (tt : Tab w) :
    Calls Tryz.prog 12 #[.agg #[.int .i64 k, .bool y, .bool n, .slice ao l.length cap, .int .i64 sc, .int .i64 d, .int .i64 mo, .int .i64 da, .string t]] w fun e w' => e = .returned (.bool (valB k y n l sc d mo da t)) ∧ Below w.heap.size w w' := by
  by_cases hk : 0 ≤ k ∧ k ≤ 5
  · have h : k = 0 ∨ k = 1 ∨ k = 2 ∨ k = 3 ∨ k = 4 ∨ k = 5 := by omega
    rcases h with rfl | rfl | rfl | rfl | rfl | rfl
    · exact implValueOk_0 w y n ao l cap sc d mo da t ht
    · exact implValueOk_1 w y n ao l cap sc d mo da t ht
    · exact implValueOk_2 w y n ao l cap sc d mo da t ht hr tt
    · exact implValueOk_3 w y n ao l cap sc d mo da t ht
    · exact implValueOk_4 w y n ao l cap sc d mo da t ht
    · exact implValueOk_5 w y n ao l cap sc d mo da t ht
  · exact implValueOk_no w k hk y n ao l cap sc d mo da t

end Go.Proofs.YtdklikicngmkbaaGreatDoor
