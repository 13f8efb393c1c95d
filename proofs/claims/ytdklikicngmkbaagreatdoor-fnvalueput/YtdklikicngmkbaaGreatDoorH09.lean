/- opened where there is no kind; the methods ok of what a value says. ValueOk of the program, by a contract. -/
import Derived.Test.YtdklikicngmkbaaGreatDoorVlO
import Derived.Test.YtdklikicngmkbaaGreatDoorG08
import Derived.Test.YtdklikicngmkbaaGreatDoorG04
namespace Go.Proofs.YtdklikicngmkbaaGreatDoor
open Go.RowKit
set_option maxRecDepth 100000
set_option linter.unusedSimpArgs false
set_option linter.unusedVariables false

set_option maxHeartbeats 4000000 in
theorem opened_no (w : World) (k : Int) (hk : ¬ (0 ≤ k ∧ k ≤ 5)) (y n : Bool) (ao : Option Addr) (N cap : Nat) (sc d mo da : Int) (t : ByteArray) :
    Calls Tryz.prog 31 #[.agg #[.int .i64 k, .bool y, .bool n, .slice ao N cap, .int .i64 sc, .int .i64 d, .int .i64 mo, .int .i64 da, .string t]] w fun e w' => e = .returned (.tuple #[.nilIface, .agg #[.int .i64 k, .bool y, .bool n, .slice ao N cap, .int .i64 sc, .int .i64 d, .int .i64 mo, .int .i64 da, .string t]]) ∧ Below w.heap.size w w' := by
  obtain ⟨kb, l0, l1, n12, n21, n10, n01⟩ := op3_start w (.cells #[.int .i64 k, .bool y, .bool n, .slice ao N cap, .int .i64 sc, .int .i64 d, .int .i64 mo, .int .i64 da, .string t] 31) (.cells #[.int .i64 0, .bool false, .bool false, .slice none 0 0, .int .i64 0, .int .i64 0, .int .i64 0, .int .i64 0, .string ⟨#[]⟩] 31) (.cells #[.int .i64 k, .bool y, .bool n, .slice ao N cap, .int .i64 sc, .int .i64 d, .int .i64 mo, .int .i64 da, .string t] 31)
  have t0 : (k == 0) = false := by rw [beq_eq_false_iff_ne]; omega
  have t1 : (k == 1) = false := by rw [beq_eq_false_iff_ne]; omega
  have t2 : (k == 2) = false := by rw [beq_eq_false_iff_ne]; omega
  have t3 : (k == 3) = false := by rw [beq_eq_false_iff_ne]; omega
  have t4 : (k == 4) = false := by rw [beq_eq_false_iff_ne]; omega
  have t5 : (k == 5) = false := by rw [beq_eq_false_iff_ne]; omega
  have a0 : (((w.alloc (.cells #[.int .i64 k, .bool y, .bool n, .slice ao N cap, .int .i64 sc, .int .i64 d, .int .i64 mo, .int .i64 da, .string t] 31)).alloc (.cells #[.int .i64 0, .bool false, .bool false, .slice none 0 0, .int .i64 0, .int .i64 0, .int .i64 0, .int .i64 0, .string ⟨#[]⟩] 31)).alloc (.cells #[.int .i64 k, .bool y, .bool n, .slice ao N cap, .int .i64 sc, .int .i64 d, .int .i64 mo, .int .i64 da, .string t] 31)).cell? ⟨w.heap.size + 1 + 1, 0, none⟩ = some (.int .i64 k) := by go_simp
  have z0 : (((w.alloc (.cells #[.int .i64 k, .bool y, .bool n, .slice ao N cap, .int .i64 sc, .int .i64 d, .int .i64 mo, .int .i64 da, .string t] 31)).alloc (.cells #[.int .i64 0, .bool false, .bool false, .slice none 0 0, .int .i64 0, .int .i64 0, .int .i64 0, .int .i64 0, .string ⟨#[]⟩] 31)).alloc (.cells #[.int .i64 k, .bool y, .bool n, .slice ao N cap, .int .i64 sc, .int .i64 d, .int .i64 mo, .int .i64 da, .string t] 31)).cell? ⟨w.heap.size + 1, 0, none⟩ = some (.int .i64 0) := by go_simp
  have f0 : (((w.alloc (.cells #[.int .i64 k, .bool y, .bool n, .slice ao N cap, .int .i64 sc, .int .i64 d, .int .i64 mo, .int .i64 da, .string t] 31)).alloc (.cells #[.int .i64 0, .bool false, .bool false, .slice none 0 0, .int .i64 0, .int .i64 0, .int .i64 0, .int .i64 0, .string ⟨#[]⟩] 31)).alloc (.cells #[.int .i64 k, .bool y, .bool n, .slice ao N cap, .int .i64 sc, .int .i64 d, .int .i64 mo, .int .i64 da, .string t] 31)).frozen? ⟨w.heap.size + 1, 0, none⟩ = false := by go_simp
  have a1 : (((w.alloc (.cells #[.int .i64 k, .bool y, .bool n, .slice ao N cap, .int .i64 sc, .int .i64 d, .int .i64 mo, .int .i64 da, .string t] 31)).alloc (.cells #[.int .i64 0, .bool false, .bool false, .slice none 0 0, .int .i64 0, .int .i64 0, .int .i64 0, .int .i64 0, .string ⟨#[]⟩] 31)).alloc (.cells #[.int .i64 k, .bool y, .bool n, .slice ao N cap, .int .i64 sc, .int .i64 d, .int .i64 mo, .int .i64 da, .string t] 31)).cell? ⟨w.heap.size + 1 + 1, 1, none⟩ = some (.bool y) := by go_simp
  have z1 : (((w.alloc (.cells #[.int .i64 k, .bool y, .bool n, .slice ao N cap, .int .i64 sc, .int .i64 d, .int .i64 mo, .int .i64 da, .string t] 31)).alloc (.cells #[.int .i64 0, .bool false, .bool false, .slice none 0 0, .int .i64 0, .int .i64 0, .int .i64 0, .int .i64 0, .string ⟨#[]⟩] 31)).alloc (.cells #[.int .i64 k, .bool y, .bool n, .slice ao N cap, .int .i64 sc, .int .i64 d, .int .i64 mo, .int .i64 da, .string t] 31)).cell? ⟨w.heap.size + 1, 1, none⟩ = some (.bool false) := by go_simp
  have f1 : (((w.alloc (.cells #[.int .i64 k, .bool y, .bool n, .slice ao N cap, .int .i64 sc, .int .i64 d, .int .i64 mo, .int .i64 da, .string t] 31)).alloc (.cells #[.int .i64 0, .bool false, .bool false, .slice none 0 0, .int .i64 0, .int .i64 0, .int .i64 0, .int .i64 0, .string ⟨#[]⟩] 31)).alloc (.cells #[.int .i64 k, .bool y, .bool n, .slice ao N cap, .int .i64 sc, .int .i64 d, .int .i64 mo, .int .i64 da, .string t] 31)).frozen? ⟨w.heap.size + 1, 1, none⟩ = false := by go_simp
  have a2 : (((w.alloc (.cells #[.int .i64 k, .bool y, .bool n, .slice ao N cap, .int .i64 sc, .int .i64 d, .int .i64 mo, .int .i64 da, .string t] 31)).alloc (.cells #[.int .i64 0, .bool false, .bool false, .slice none 0 0, .int .i64 0, .int .i64 0, .int .i64 0, .int .i64 0, .string ⟨#[]⟩] 31)).alloc (.cells #[.int .i64 k, .bool y, .bool n, .slice ao N cap, .int .i64 sc, .int .i64 d, .int .i64 mo, .int .i64 da, .string t] 31)).cell? ⟨w.heap.size + 1 + 1, 2, none⟩ = some (.bool n) := by go_simp
  have z2 : (((w.alloc (.cells #[.int .i64 k, .bool y, .bool n, .slice ao N cap, .int .i64 sc, .int .i64 d, .int .i64 mo, .int .i64 da, .string t] 31)).alloc (.cells #[.int .i64 0, .bool false, .bool false, .slice none 0 0, .int .i64 0, .int .i64 0, .int .i64 0, .int .i64 0, .string ⟨#[]⟩] 31)).alloc (.cells #[.int .i64 k, .bool y, .bool n, .slice ao N cap, .int .i64 sc, .int .i64 d, .int .i64 mo, .int .i64 da, .string t] 31)).cell? ⟨w.heap.size + 1, 2, none⟩ = some (.bool false) := by go_simp
  have f2 : (((w.alloc (.cells #[.int .i64 k, .bool y, .bool n, .slice ao N cap, .int .i64 sc, .int .i64 d, .int .i64 mo, .int .i64 da, .string t] 31)).alloc (.cells #[.int .i64 0, .bool false, .bool false, .slice none 0 0, .int .i64 0, .int .i64 0, .int .i64 0, .int .i64 0, .string ⟨#[]⟩] 31)).alloc (.cells #[.int .i64 k, .bool y, .bool n, .slice ao N cap, .int .i64 sc, .int .i64 d, .int .i64 mo, .int .i64 da, .string t] 31)).frozen? ⟨w.heap.size + 1, 2, none⟩ = false := by go_simp
  have a3 : (((w.alloc (.cells #[.int .i64 k, .bool y, .bool n, .slice ao N cap, .int .i64 sc, .int .i64 d, .int .i64 mo, .int .i64 da, .string t] 31)).alloc (.cells #[.int .i64 0, .bool false, .bool false, .slice none 0 0, .int .i64 0, .int .i64 0, .int .i64 0, .int .i64 0, .string ⟨#[]⟩] 31)).alloc (.cells #[.int .i64 k, .bool y, .bool n, .slice ao N cap, .int .i64 sc, .int .i64 d, .int .i64 mo, .int .i64 da, .string t] 31)).cell? ⟨w.heap.size + 1 + 1, 3, none⟩ = some (.slice ao N cap) := by go_simp
  have z3 : (((w.alloc (.cells #[.int .i64 k, .bool y, .bool n, .slice ao N cap, .int .i64 sc, .int .i64 d, .int .i64 mo, .int .i64 da, .string t] 31)).alloc (.cells #[.int .i64 0, .bool false, .bool false, .slice none 0 0, .int .i64 0, .int .i64 0, .int .i64 0, .int .i64 0, .string ⟨#[]⟩] 31)).alloc (.cells #[.int .i64 k, .bool y, .bool n, .slice ao N cap, .int .i64 sc, .int .i64 d, .int .i64 mo, .int .i64 da, .string t] 31)).cell? ⟨w.heap.size + 1, 3, none⟩ = some (.slice none 0 0) := by go_simp
  have f3 : (((w.alloc (.cells #[.int .i64 k, .bool y, .bool n, .slice ao N cap, .int .i64 sc, .int .i64 d, .int .i64 mo, .int .i64 da, .string t] 31)).alloc (.cells #[.int .i64 0, .bool false, .bool false, .slice none 0 0, .int .i64 0, .int .i64 0, .int .i64 0, .int .i64 0, .string ⟨#[]⟩] 31)).alloc (.cells #[.int .i64 k, .bool y, .bool n, .slice ao N cap, .int .i64 sc, .int .i64 d, .int .i64 mo, .int .i64 da, .string t] 31)).frozen? ⟨w.heap.size + 1, 3, none⟩ = false := by go_simp
  have a4 : (((w.alloc (.cells #[.int .i64 k, .bool y, .bool n, .slice ao N cap, .int .i64 sc, .int .i64 d, .int .i64 mo, .int .i64 da, .string t] 31)).alloc (.cells #[.int .i64 0, .bool false, .bool false, .slice none 0 0, .int .i64 0, .int .i64 0, .int .i64 0, .int .i64 0, .string ⟨#[]⟩] 31)).alloc (.cells #[.int .i64 k, .bool y, .bool n, .slice ao N cap, .int .i64 sc, .int .i64 d, .int .i64 mo, .int .i64 da, .string t] 31)).cell? ⟨w.heap.size + 1 + 1, 4, none⟩ = some (.int .i64 sc) := by go_simp
  have z4 : (((w.alloc (.cells #[.int .i64 k, .bool y, .bool n, .slice ao N cap, .int .i64 sc, .int .i64 d, .int .i64 mo, .int .i64 da, .string t] 31)).alloc (.cells #[.int .i64 0, .bool false, .bool false, .slice none 0 0, .int .i64 0, .int .i64 0, .int .i64 0, .int .i64 0, .string ⟨#[]⟩] 31)).alloc (.cells #[.int .i64 k, .bool y, .bool n, .slice ao N cap, .int .i64 sc, .int .i64 d, .int .i64 mo, .int .i64 da, .string t] 31)).cell? ⟨w.heap.size + 1, 4, none⟩ = some (.int .i64 0) := by go_simp
  have f4 : (((w.alloc (.cells #[.int .i64 k, .bool y, .bool n, .slice ao N cap, .int .i64 sc, .int .i64 d, .int .i64 mo, .int .i64 da, .string t] 31)).alloc (.cells #[.int .i64 0, .bool false, .bool false, .slice none 0 0, .int .i64 0, .int .i64 0, .int .i64 0, .int .i64 0, .string ⟨#[]⟩] 31)).alloc (.cells #[.int .i64 k, .bool y, .bool n, .slice ao N cap, .int .i64 sc, .int .i64 d, .int .i64 mo, .int .i64 da, .string t] 31)).frozen? ⟨w.heap.size + 1, 4, none⟩ = false := by go_simp
  have a5 : (((w.alloc (.cells #[.int .i64 k, .bool y, .bool n, .slice ao N cap, .int .i64 sc, .int .i64 d, .int .i64 mo, .int .i64 da, .string t] 31)).alloc (.cells #[.int .i64 0, .bool false, .bool false, .slice none 0 0, .int .i64 0, .int .i64 0, .int .i64 0, .int .i64 0, .string ⟨#[]⟩] 31)).alloc (.cells #[.int .i64 k, .bool y, .bool n, .slice ao N cap, .int .i64 sc, .int .i64 d, .int .i64 mo, .int .i64 da, .string t] 31)).cell? ⟨w.heap.size + 1 + 1, 5, none⟩ = some (.int .i64 d) := by go_simp
  have z5 : (((w.alloc (.cells #[.int .i64 k, .bool y, .bool n, .slice ao N cap, .int .i64 sc, .int .i64 d, .int .i64 mo, .int .i64 da, .string t] 31)).alloc (.cells #[.int .i64 0, .bool false, .bool false, .slice none 0 0, .int .i64 0, .int .i64 0, .int .i64 0, .int .i64 0, .string ⟨#[]⟩] 31)).alloc (.cells #[.int .i64 k, .bool y, .bool n, .slice ao N cap, .int .i64 sc, .int .i64 d, .int .i64 mo, .int .i64 da, .string t] 31)).cell? ⟨w.heap.size + 1, 5, none⟩ = some (.int .i64 0) := by go_simp
  have f5 : (((w.alloc (.cells #[.int .i64 k, .bool y, .bool n, .slice ao N cap, .int .i64 sc, .int .i64 d, .int .i64 mo, .int .i64 da, .string t] 31)).alloc (.cells #[.int .i64 0, .bool false, .bool false, .slice none 0 0, .int .i64 0, .int .i64 0, .int .i64 0, .int .i64 0, .string ⟨#[]⟩] 31)).alloc (.cells #[.int .i64 k, .bool y, .bool n, .slice ao N cap, .int .i64 sc, .int .i64 d, .int .i64 mo, .int .i64 da, .string t] 31)).frozen? ⟨w.heap.size + 1, 5, none⟩ = false := by go_simp
  have a6 : (((w.alloc (.cells #[.int .i64 k, .bool y, .bool n, .slice ao N cap, .int .i64 sc, .int .i64 d, .int .i64 mo, .int .i64 da, .string t] 31)).alloc (.cells #[.int .i64 0, .bool false, .bool false, .slice none 0 0, .int .i64 0, .int .i64 0, .int .i64 0, .int .i64 0, .string ⟨#[]⟩] 31)).alloc (.cells #[.int .i64 k, .bool y, .bool n, .slice ao N cap, .int .i64 sc, .int .i64 d, .int .i64 mo, .int .i64 da, .string t] 31)).cell? ⟨w.heap.size + 1 + 1, 6, none⟩ = some (.int .i64 mo) := by go_simp
  have z6 : (((w.alloc (.cells #[.int .i64 k, .bool y, .bool n, .slice ao N cap, .int .i64 sc, .int .i64 d, .int .i64 mo, .int .i64 da, .string t] 31)).alloc (.cells #[.int .i64 0, .bool false, .bool false, .slice none 0 0, .int .i64 0, .int .i64 0, .int .i64 0, .int .i64 0, .string ⟨#[]⟩] 31)).alloc (.cells #[.int .i64 k, .bool y, .bool n, .slice ao N cap, .int .i64 sc, .int .i64 d, .int .i64 mo, .int .i64 da, .string t] 31)).cell? ⟨w.heap.size + 1, 6, none⟩ = some (.int .i64 0) := by go_simp
  have f6 : (((w.alloc (.cells #[.int .i64 k, .bool y, .bool n, .slice ao N cap, .int .i64 sc, .int .i64 d, .int .i64 mo, .int .i64 da, .string t] 31)).alloc (.cells #[.int .i64 0, .bool false, .bool false, .slice none 0 0, .int .i64 0, .int .i64 0, .int .i64 0, .int .i64 0, .string ⟨#[]⟩] 31)).alloc (.cells #[.int .i64 k, .bool y, .bool n, .slice ao N cap, .int .i64 sc, .int .i64 d, .int .i64 mo, .int .i64 da, .string t] 31)).frozen? ⟨w.heap.size + 1, 6, none⟩ = false := by go_simp
  have a7 : (((w.alloc (.cells #[.int .i64 k, .bool y, .bool n, .slice ao N cap, .int .i64 sc, .int .i64 d, .int .i64 mo, .int .i64 da, .string t] 31)).alloc (.cells #[.int .i64 0, .bool false, .bool false, .slice none 0 0, .int .i64 0, .int .i64 0, .int .i64 0, .int .i64 0, .string ⟨#[]⟩] 31)).alloc (.cells #[.int .i64 k, .bool y, .bool n, .slice ao N cap, .int .i64 sc, .int .i64 d, .int .i64 mo, .int .i64 da, .string t] 31)).cell? ⟨w.heap.size + 1 + 1, 7, none⟩ = some (.int .i64 da) := by go_simp
  have z7 : (((w.alloc (.cells #[.int .i64 k, .bool y, .bool n, .slice ao N cap, .int .i64 sc, .int .i64 d, .int .i64 mo, .int .i64 da, .string t] 31)).alloc (.cells #[.int .i64 0, .bool false, .bool false, .slice none 0 0, .int .i64 0, .int .i64 0, .int .i64 0, .int .i64 0, .string ⟨#[]⟩] 31)).alloc (.cells #[.int .i64 k, .bool y, .bool n, .slice ao N cap, .int .i64 sc, .int .i64 d, .int .i64 mo, .int .i64 da, .string t] 31)).cell? ⟨w.heap.size + 1, 7, none⟩ = some (.int .i64 0) := by go_simp
  have f7 : (((w.alloc (.cells #[.int .i64 k, .bool y, .bool n, .slice ao N cap, .int .i64 sc, .int .i64 d, .int .i64 mo, .int .i64 da, .string t] 31)).alloc (.cells #[.int .i64 0, .bool false, .bool false, .slice none 0 0, .int .i64 0, .int .i64 0, .int .i64 0, .int .i64 0, .string ⟨#[]⟩] 31)).alloc (.cells #[.int .i64 k, .bool y, .bool n, .slice ao N cap, .int .i64 sc, .int .i64 d, .int .i64 mo, .int .i64 da, .string t] 31)).frozen? ⟨w.heap.size + 1, 7, none⟩ = false := by go_simp
  have a8 : (((w.alloc (.cells #[.int .i64 k, .bool y, .bool n, .slice ao N cap, .int .i64 sc, .int .i64 d, .int .i64 mo, .int .i64 da, .string t] 31)).alloc (.cells #[.int .i64 0, .bool false, .bool false, .slice none 0 0, .int .i64 0, .int .i64 0, .int .i64 0, .int .i64 0, .string ⟨#[]⟩] 31)).alloc (.cells #[.int .i64 k, .bool y, .bool n, .slice ao N cap, .int .i64 sc, .int .i64 d, .int .i64 mo, .int .i64 da, .string t] 31)).cell? ⟨w.heap.size + 1 + 1, 8, none⟩ = some (.string t) := by go_simp
  have z8 : (((w.alloc (.cells #[.int .i64 k, .bool y, .bool n, .slice ao N cap, .int .i64 sc, .int .i64 d, .int .i64 mo, .int .i64 da, .string t] 31)).alloc (.cells #[.int .i64 0, .bool false, .bool false, .slice none 0 0, .int .i64 0, .int .i64 0, .int .i64 0, .int .i64 0, .string ⟨#[]⟩] 31)).alloc (.cells #[.int .i64 k, .bool y, .bool n, .slice ao N cap, .int .i64 sc, .int .i64 d, .int .i64 mo, .int .i64 da, .string t] 31)).cell? ⟨w.heap.size + 1, 8, none⟩ = some (.string ⟨#[]⟩) := by go_simp
  have f8 : (((w.alloc (.cells #[.int .i64 k, .bool y, .bool n, .slice ao N cap, .int .i64 sc, .int .i64 d, .int .i64 mo, .int .i64 da, .string t] 31)).alloc (.cells #[.int .i64 0, .bool false, .bool false, .slice none 0 0, .int .i64 0, .int .i64 0, .int .i64 0, .int .i64 0, .string ⟨#[]⟩] 31)).alloc (.cells #[.int .i64 k, .bool y, .bool n, .slice ao N cap, .int .i64 sc, .int .i64 d, .int .i64 mo, .int .i64 da, .string t] 31)).frozen? ⟨w.heap.size + 1, 8, none⟩ = false := by go_simp
  clear hk
  go_enter Tryz.func31, Tryz.ntmps31
  go_wp2
  generalize (((w.alloc (.cells #[.int .i64 k, .bool y, .bool n, .slice ao N cap, .int .i64 sc, .int .i64 d, .int .i64 mo, .int .i64 da, .string t] 31)).alloc (.cells #[.int .i64 0, .bool false, .bool false, .slice none 0 0, .int .i64 0, .int .i64 0, .int .i64 0, .int .i64 0, .string ⟨#[]⟩] 31)).alloc (.cells #[.int .i64 k, .bool y, .bool n, .slice ao N cap, .int .i64 sc, .int .i64 d, .int .i64 mo, .int .i64 da, .string t] 31)) = W at *
  generalize hb1 : w.heap.size + 1 = b1 at *
  generalize hb2 : b1 + 1 = b2 at *
  clear hb1 hb2
  (try go_region)
  go_wp2
  have kb9 := set9_below kb l1 (.int .i64 k) (.bool y) (.bool n) (.slice ao N cap) (.int .i64 sc) (.int .i64 d) (.int .i64 mo) (.int .i64 da) (.string t)
  have r0 := set9_at0 z0 (.int .i64 k) (.bool y) (.bool n) (.slice ao N cap) (.int .i64 sc) (.int .i64 d) (.int .i64 mo) (.int .i64 da) (.string t)
  have r1 := set9_at1 z1 (.int .i64 k) (.bool y) (.bool n) (.slice ao N cap) (.int .i64 sc) (.int .i64 d) (.int .i64 mo) (.int .i64 da) (.string t)
  have r2 := set9_at2 z2 (.int .i64 k) (.bool y) (.bool n) (.slice ao N cap) (.int .i64 sc) (.int .i64 d) (.int .i64 mo) (.int .i64 da) (.string t)
  have r3 := set9_at3 z3 (.int .i64 k) (.bool y) (.bool n) (.slice ao N cap) (.int .i64 sc) (.int .i64 d) (.int .i64 mo) (.int .i64 da) (.string t)
  have r4 := set9_at4 z4 (.int .i64 k) (.bool y) (.bool n) (.slice ao N cap) (.int .i64 sc) (.int .i64 d) (.int .i64 mo) (.int .i64 da) (.string t)
  have r5 := set9_at5 z5 (.int .i64 k) (.bool y) (.bool n) (.slice ao N cap) (.int .i64 sc) (.int .i64 d) (.int .i64 mo) (.int .i64 da) (.string t)
  have r6 := set9_at6 z6 (.int .i64 k) (.bool y) (.bool n) (.slice ao N cap) (.int .i64 sc) (.int .i64 d) (.int .i64 mo) (.int .i64 da) (.string t)
  have r7 := set9_at7 z7 (.int .i64 k) (.bool y) (.bool n) (.slice ao N cap) (.int .i64 sc) (.int .i64 d) (.int .i64 mo) (.int .i64 da) (.string t)
  have r8 := set9_at8 z8 (.int .i64 k) (.bool y) (.bool n) (.slice ao N cap) (.int .i64 sc) (.int .i64 d) (.int .i64 mo) (.int .i64 da) (.string t)
  first | change bodyPost _ _ _ _ _ (set9 W b1 (.int .i64 k) (.bool y) (.bool n) (.slice ao N cap) (.int .i64 sc) (.int .i64 d) (.int .i64 mo) (.int .i64 da) (.string t)).drew | change bodyPost _ _ _ _ _ (set9 W b1 (.int .i64 k) (.bool y) (.bool n) (.slice ao N cap) (.int .i64 sc) (.int .i64 d) (.int .i64 mo) (.int .i64 da) (.string t))
  generalize set9 W b1 (.int .i64 k) (.bool y) (.bool n) (.slice ao N cap) (.int .i64 sc) (.int .i64 d) (.int .i64 mo) (.int .i64 da) (.string t) = W9 at *
  clear z0 z1 z2 z3 z4 z5 z6 z7 z8 f0 f1 f2 f3 f4 f5 f6 f7 f8 a0 a1 a2 a3 a4 a5 a6 a7 a8
  refine bodyPost_ret (v := .tuple #[.nilIface, .agg #[.int .i64 k, .bool y, .bool n, .slice ao N cap, .int .i64 sc, .int .i64 d, .int .i64 mo, .int .i64 da, .string t]]) (by simp [results, Tryz.results31, go_sem, r0, r1, r2, r3, r4, r5, r6, r7, r8]) rfl ⟨rfl, by first | exact kb9 | exact kb9.drew⟩

/-- The first bytes of a text may all be told. -/
def TOK (t : ByteArray) (i : Nat) : Prop := ∀ j (h : j < t.size), j < i → 32 ≤ t[j].toNat ∧ t[j].toNat ≤ 126

/-- A text may be a value's. -/
def textB (t : ByteArray) : Bool := (List.range t.size).all (fun j => if h : j < t.size then decide (32 ≤ t[j].toNat) && decide (t[j].toNat ≤ 126) else true) && decide (t.size ≤ 12)

theorem textB_all (t : ByteArray) (h : TOK t t.size) : textB t = decide (t.size ≤ 12) := by
  unfold textB
  rw [show (List.range t.size).all (fun j => if h : j < t.size then decide (32 ≤ t[j].toNat) && decide (t[j].toNat ≤ 126) else true) = true from by
    rw [List.all_eq_true]
    intro j hj
    have hj' : j < t.size := List.mem_range.1 hj
    have := h j hj' hj'
    simp [hj', this.1, this.2], Bool.true_and]

theorem textB_bad (t : ByteArray) (i : Nat) (h : i < t.size) (hb : ¬ (32 ≤ t[i].toNat ∧ t[i].toNat ≤ 126)) : textB t = false := by
  unfold textB
  rw [show (List.range t.size).all (fun j => if h : j < t.size then decide (32 ≤ t[j].toNat) && decide (t[j].toNat ≤ 126) else true) = false from by
    rw [List.all_eq_false]
    refine ⟨i, List.mem_range.2 h, ?_⟩
    simp [h]
    omega, Bool.false_and]

set_option maxHeartbeats 1000000 in
theorem textOk (w : World) (t : ByteArray) (ht : t.size ≤ maxLen) : Calls Tryz.prog 308 #[.string t] w fun e w' => e = .returned (.bool (textB t)) ∧ Below w.heap.size w w' := by
  have HA := hide (textB_all t)
  have HB := hide (textB_bad t)
  generalize textB t = g at *
  unfold maxLen at ht
  go_enter Tryz.func308, Tryz.ntmps308
  go_wp2
  go_loopw [6] (fun ii wr => ∃ i : Nat, ii = .int .i64 i ∧ i ≤ t.size ∧ Hid (TOK t i) ∧ wr = w) (fun ii _ => t.size - (intOf ii).toNat)
  case atStart => exact ⟨0, rfl, Nat.zero_le _, hide (fun j _ h => absurd h (Nat.not_lt_zero _)), rfl⟩
  case round =>
    obtain ⟨i, rfl, hi, hx, rfl⟩ := hrel
    by_cases h : i < t.size
    · have w5 : IntKind.i64.wrap ((i : Int) + 1) = (i : Int) + 1 := by rw [IntKind.wrap_i64]; omega
      have HB2 := hide (unhide HB i h)
      obtain ⟨c, hc⟩ : ∃ c, t[i].toNat = c := ⟨_, rfl⟩
      have HC := hide hc
      by_cases h1 : 32 ≤ c
      · have k1 : decide ((c : Int) < 32) = false := by simp; omega
        by_cases h2 : c ≤ 126
        · have k2 : decide ((126 : Int) < (c : Int)) = false := by simp; omega
          have E := hide (show TOK t (i + 1) from fun j hj hji => by
            by_cases q : j < i
            · exact unhide hx j hj q
            · obtain rfl : j = i := by omega
              rw [unhide HC]
              exact ⟨h1, h2⟩)
          clear h1 h2 hx
          go_wp2
          go_roundw
          case rel => exact ⟨i + 1, by simp, by omega, E, trivial⟩
          case measure => simp only [intOf]; omega
        · have k2 : decide ((126 : Int) < (c : Int)) = true := by simp; omega
          have E := hide (unhide HB2 (by rw [unhide HC]; omega))
          clear h1 h2 hx
          go_wp2
          go_ret
          exact ⟨by rw [unhide E]; rfl, Below.refl _ _⟩
      · have k1 : decide ((c : Int) < 32) = true := by simp; omega
        have E := hide (unhide HB2 (by rw [unhide HC]; omega))
        clear h1 hx
        go_wp2
        go_ret
        exact ⟨by rw [unhide E]; rfl, Below.refl _ _⟩
    · have E := hide (unhide HA (by
        have e : i = t.size := by omega
        have := unhide hx
        rwa [e] at this))
      clear hx
      by_cases hz : t.size ≤ 12
      · have k3 : decide ((t.size : Int) ≤ 12) = true := by simp; omega
        rw [decide_eq_true hz] at E
        clear hz
        go_wp2
        go_ret
        exact ⟨by rw [unhide E]; rfl, Below.refl _ _⟩
      · have k3 : decide ((t.size : Int) ≤ 12) = false := by simp; omega
        rw [decide_eq_false hz] at E
        clear hz
        go_wp2
        go_ret
        exact ⟨by rw [unhide E]; rfl, Below.refl _ _⟩

set_option maxHeartbeats 1000000 in
theorem specText_any (w : World) (t : ByteArray) (ht : t.size ≤ maxLen) : Calls Tryz.prog 67 #[.string t] w fun e w' => e = .returned (.bool (textB t)) ∧ Below w.heap.size w w' := by
  have HA := hide (textB_all t)
  have HB := hide (textB_bad t)
  generalize textB t = g at *
  unfold maxLen at ht
  go_enter Tryz.func67, Tryz.ntmps67
  go_wp2
  go_loopw [3] (fun ii wr => ∃ i : Nat, ii = .int .i64 i ∧ i ≤ t.size ∧ Hid (TOK t i) ∧ wr = w) (fun ii _ => t.size - (intOf ii).toNat)
  case atStart => exact ⟨0, rfl, Nat.zero_le _, hide (fun j _ h => absurd h (Nat.not_lt_zero _)), rfl⟩
  case round =>
    obtain ⟨i, rfl, hi, hx, rfl⟩ := hrel
    by_cases h : i < t.size
    · have w5 : IntKind.i64.wrap ((i : Int) + 1) = (i : Int) + 1 := by rw [IntKind.wrap_i64]; omega
      have HB2 := hide (unhide HB i h)
      obtain ⟨c, hc⟩ : ∃ c, t[i].toNat = c := ⟨_, rfl⟩
      have HC := hide hc
      by_cases h1 : 32 ≤ c
      · have k1 : decide ((c : Int) < 32) = false := by simp; omega
        by_cases h2 : c ≤ 126
        · have k2 : decide ((126 : Int) < (c : Int)) = false := by simp; omega
          have E := hide (show TOK t (i + 1) from fun j hj hji => by
            by_cases q : j < i
            · exact unhide hx j hj q
            · obtain rfl : j = i := by omega
              rw [unhide HC]
              exact ⟨h1, h2⟩)
          clear h1 h2 hx
          go_wp2
          go_roundw
          case rel => exact ⟨i + 1, by simp, by omega, E, trivial⟩
          case measure => simp only [intOf]; omega
        · have k2 : decide ((126 : Int) < (c : Int)) = true := by simp; omega
          have E := hide (unhide HB2 (by rw [unhide HC]; omega))
          clear h1 h2 hx
          go_wp2
          go_ret
          exact ⟨by rw [unhide E]; rfl, Below.refl _ _⟩
      · have k1 : decide ((c : Int) < 32) = true := by simp; omega
        have E := hide (unhide HB2 (by rw [unhide HC]; omega))
        clear h1 hx
        go_wp2
        go_ret
        exact ⟨by rw [unhide E]; rfl, Below.refl _ _⟩
    · have E := hide (unhide HA (by
        have e : i = t.size := by omega
        have := unhide hx
        rwa [e] at this))
      clear hx
      by_cases hz : t.size ≤ 12
      · have k3 : decide ((t.size : Int) ≤ 12) = true := by simp; omega
        rw [decide_eq_true hz] at E
        clear hz
        go_wp2
        go_ret
        exact ⟨by rw [unhide E]; rfl, Below.refl _ _⟩
      · have k3 : decide ((t.size : Int) ≤ 12) = false := by simp; omega
        rw [decide_eq_false hz] at E
        clear hz
        go_wp2
        go_ret
        exact ⟨by rw [unhide E]; rfl, Below.refl _ _⟩


theorem noneOk (w : World) : Calls Tryz.prog 272 #[.agg #[]] w fun e w' => e = .returned (.bool true) ∧ Below w.heap.size w w' := by
  go_enter Tryz.func272, Tryz.ntmps272
  go_wp2
  go_ret
  refine ⟨rfl, ?_⟩
  repeat (first | exact Below.refl _ _ | refine Below.alloc ?_ (by first | exact Nat.le_refl _ | (simp only [World.size_alloc]; omega) | (simp; omega)) _)

theorem boolOk (w : World) (y : Bool) : Calls Tryz.prog 276 #[.bool y] w fun e w' => e = .returned (.bool true) ∧ Below w.heap.size w w' := by
  go_enter Tryz.func276, Tryz.ntmps276
  go_wp2
  go_ret
  refine ⟨rfl, ?_⟩
  repeat (first | exact Below.refl _ _ | refine Below.alloc ?_ (by first | exact Nat.le_refl _ | (simp only [World.size_alloc]; omega) | (simp; omega)) _)

theorem numOk (w : World) (n : Bool) (ao : Option Addr) (l : List Int) (cap : Nat) (sc : Int) (hr : Reads w (.slice ao l.length cap) l) (tt : Tab w) :
    Calls Tryz.prog 282 #[.agg #[.bool n, .slice ao l.length cap, .int .i64 sc]] w fun e w' => e = .returned (.bool (decB n l sc)) ∧ Below w.heap.size w w' := by
  have C := fun W (b : Below w.heap.size w W) => implDecOk_any W n (.slice ao l.length cap) l sc (hr.later b) (tt.later b)
  generalize decB n l sc = g at *
  have C := hide C
  have B0 : Below w.heap.size w (w.alloc (.cells #[.bool n, .slice ao l.length cap, .int .i64 sc] 94)) := (Below.refl _ _).alloc (Nat.le_refl _) _
  go_enter Tryz.func282, Tryz.ntmps282
  go_wp2_with fail
  refine (unhide C _ (by first | exact B0 | exact Below.refl _ _)).mono ?_
  rintro e w1 ⟨rfl, b1⟩
  clear C
  go_wp2
  go_ret
  exact ⟨rfl, by first | exact B0.trans (b1.mono B0.size) | exact b1⟩

theorem dayOkV (w : World) (d : Int) : Calls Tryz.prog 200 #[.int .i64 d] w fun e w' => e = .returned (.bool (decide (1 ≤ d ∧ d ≤ 3652059))) ∧ w' = w := by
  by_cases h : 1 ≤ d
  · by_cases k : d ≤ 3652059
    · rw [decide_eq_true ⟨h, k⟩]
      have h' : decide (1 ≤ d) = true := by simpa using h
      have k' : decide (d ≤ 3652059) = true := by simpa using k
      go_enter Tryz.func200, Tryz.ntmps200
      go_wp2
      go_ret
      exact ⟨rfl, rfl⟩
    · rw [decide_eq_false (fun e => k e.2)]
      have h' : decide (1 ≤ d) = true := by simpa using h
      have k' : decide (d ≤ 3652059) = false := by simpa using k
      go_enter Tryz.func200, Tryz.ntmps200
      go_wp2
      go_ret
      exact ⟨rfl, rfl⟩
  · rw [decide_eq_false (fun e => h e.1)]
    have h' : decide (1 ≤ d) = false := by simpa using h
    go_enter Tryz.func200, Tryz.ntmps200
    go_wp2
    go_ret
    exact ⟨rfl, rfl⟩

theorem dayKOk (w : World) (d : Int) : Calls Tryz.prog 299 #[.int .i64 d] w fun e w' => e = .returned (.bool (decide (1 ≤ d ∧ d ≤ 3652059))) ∧ Below w.heap.size w w' := by
  have C := fun W => dayOkV W d
  generalize decide (1 ≤ d ∧ d ≤ 3652059) = g at *
  have C := hide C
  go_enter Tryz.func299, Tryz.ntmps299
  go_wp2_with fail
  refine (unhide C _).mono ?_
  rintro e w1 ⟨rfl, hw⟩
  subst hw
  go_wp2
  go_ret
  exact ⟨rfl, by first | exact Below.refl _ _ | exact (Below.refl _ _).alloc (Nat.le_refl _) _⟩

theorem spanKOk (w : World) (mo da : Int) : Calls Tryz.prog 303 #[.agg #[.int .i64 mo, .int .i64 da]] w fun e w' => e = .returned (.bool (decide (SpanIs mo da))) ∧ Below w.heap.size w w' := by
  have C := fun W => implSpanOk_any W mo da
  generalize decide (SpanIs mo da) = g at *
  have C := hide C
  go_enter Tryz.func303, Tryz.ntmps303
  go_wp2_with fail
  refine (unhide C _).mono ?_
  rintro e w1 ⟨rfl, hw⟩
  subst hw
  go_wp2
  go_ret
  refine ⟨rfl, ?_⟩
  repeat (first | exact Below.refl _ _ | refine Below.alloc ?_ (by first | exact Nat.le_refl _ | (simp only [World.size_alloc]; omega) | (simp; omega)) _)

end Go.Proofs.YtdklikicngmkbaaGreatDoor

namespace Go.Proofs.YtdklikicngmkbaaGreatDoor
open Go.RowKit
set_option maxRecDepth 100000
set_option linter.unusedSimpArgs false
set_option linter.unusedVariables false

/-- All parts of a value but its kind are nothing. -/
def bareB (y n : Bool) (N : Nat) (sc d mo da : Int) (t : ByteArray) : Bool :=
  (!n && decide (N = 0) && decide (sc = 0)) && !y && decide (d = 0) && (decide (mo = 0) && decide (da = 0)) && t.toList.isEmpty

/-- A value is ok. -/
def valB (k : Int) (y n : Bool) (l : List Int) (sc d mo da : Int) (t : ByteArray) : Bool :=
  if k = 0 then bareB y n (l.length) sc d mo da t
  else if k = 1 then bareB false n (l.length) sc d mo da t
  else if k = 2 then decB n l sc && bareB y false 0 0 d mo da t
  else if k = 3 then decide (1 ≤ d ∧ d ≤ 3652059) && bareB y n (l.length) sc 0 mo da t
  else if k = 4 then decide (SpanIs mo da) && bareB y n (l.length) sc d 0 0 t
  else if k = 5 then textB t && bareB y n (l.length) sc d mo da (⟨#[]⟩)
  else false

set_option maxHeartbeats 2000000 in
theorem bare_any (w : World) (k : Int) (y n : Bool) (ao : Option Addr) (N cap : Nat) (sc d mo da : Int) (t : ByteArray) : Calls Tryz.prog 35 #[.agg #[.int .i64 k, .bool y, .bool n, .slice ao N cap, .int .i64 sc, .int .i64 d, .int .i64 mo, .int .i64 da, .string t]] w fun e w' => e = .returned (.bool (bareB y n N sc d mo da t)) ∧ Below w.heap.size w w' := by
  have B0 : Below w.heap.size w (w.alloc (.cells #[.int .i64 k, .bool y, .bool n, .slice ao N cap, .int .i64 sc, .int .i64 d, .int .i64 mo, .int .i64 da, .string t] 31)) := (Below.refl _ _).alloc (Nat.le_refl _) _
  go_enter Tryz.func35, Tryz.ntmps35
  go_wp2
  all_goals
    go_ret
    refine ⟨?_, (Below.refl _ _).alloc (Nat.le_refl _) _⟩
    simp [bareB, *]

set_option maxHeartbeats 2000000 in
theorem implValueOk_0 (w : World) (y n : Bool) (ao : Option Addr) (l : List Int) (cap : Nat) (sc d mo da : Int) (t : ByteArray) (ht : t.size ≤ maxLen) :
    Calls Tryz.prog 12 #[.agg #[.int .i64 0, .bool y, .bool n, .slice ao l.length cap, .int .i64 sc, .int .i64 d, .int .i64 mo, .int .i64 da, .string t]] w fun e w' => e = .returned (.bool (valB 0 y n l sc d mo da t)) ∧ Below w.heap.size w w' := by
  have hm : ∀ w : World, (method 365 92 (.agg #[]) "loop.example/jetton/impl.ok").run Tryz.prog w = .ok (272, .agg #[]) w := fun _ => by kernel_rfl
  have CO := hide (fun W => opened_0 W y n ao l.length cap sc d mo da t)
  have CB := fun W => bare_any W 0 (y) (n) (ao) (l.length) (cap) (sc) (d) (mo) (da) (t)
  have CK := fun W (b : Below w.heap.size w W) => noneOk W
  have hv : valB 0 y n l sc d mo da t = bareB y n (l.length) sc d mo da t := by simp [valB]
  rw [hv]
  generalize bareB y n (l.length) sc d mo da t = h at *
  have CB := hide CB
  have CK := hide CK
  clear hv
  have B0 : Below w.heap.size w (w.alloc (.cells #[.int .i64 0, .bool y, .bool n, .slice ao l.length cap, .int .i64 sc, .int .i64 d, .int .i64 mo, .int .i64 da, .string t] 31)) := (Below.refl _ _).alloc (Nat.le_refl _) _
  have z0 : w.heap.size < (w.alloc (.cells #[.int .i64 0, .bool y, .bool n, .slice ao l.length cap, .int .i64 sc, .int .i64 d, .int .i64 mo, .int .i64 da, .string t] 31)).heap.size := by simp
  go_enter Tryz.func12, Tryz.ntmps12
  go_wp2_with fail
  refine (unhide CO _).mono ?_
  rintro e w1 ⟨rfl, b1⟩
  have B1 := B0.trans (b1.mono B0.size)
  have B2 := B1.alloc B1.size (.cells #[.int .i64 0, .bool y, .bool n, .slice ao l.length cap, .int .i64 sc, .int .i64 d, .int .i64 mo, .int .i64 da, .string t] 31)
  have zq : w1.heap.size < (w1.alloc (.cells #[.int .i64 0, .bool y, .bool n, .slice ao l.length cap, .int .i64 sc, .int .i64 d, .int .i64 mo, .int .i64 da, .string t] 31)).heap.size := by simp
  have r0 : (w1.alloc (.cells #[.int .i64 0, .bool y, .bool n, .slice ao l.length cap, .int .i64 sc, .int .i64 d, .int .i64 mo, .int .i64 da, .string t] 31)).cell? ⟨w1.heap.size, 0, none⟩ = some (.int .i64 0) := by go_simp
  have r1 : (w1.alloc (.cells #[.int .i64 0, .bool y, .bool n, .slice ao l.length cap, .int .i64 sc, .int .i64 d, .int .i64 mo, .int .i64 da, .string t] 31)).cell? ⟨w1.heap.size, 1, none⟩ = some (.bool y) := by go_simp
  have r2 : (w1.alloc (.cells #[.int .i64 0, .bool y, .bool n, .slice ao l.length cap, .int .i64 sc, .int .i64 d, .int .i64 mo, .int .i64 da, .string t] 31)).cell? ⟨w1.heap.size, 2, none⟩ = some (.bool n) := by go_simp
  have r3 : (w1.alloc (.cells #[.int .i64 0, .bool y, .bool n, .slice ao l.length cap, .int .i64 sc, .int .i64 d, .int .i64 mo, .int .i64 da, .string t] 31)).cell? ⟨w1.heap.size, 3, none⟩ = some (.slice ao l.length cap) := by go_simp
  have r4 : (w1.alloc (.cells #[.int .i64 0, .bool y, .bool n, .slice ao l.length cap, .int .i64 sc, .int .i64 d, .int .i64 mo, .int .i64 da, .string t] 31)).cell? ⟨w1.heap.size, 4, none⟩ = some (.int .i64 sc) := by go_simp
  have r5 : (w1.alloc (.cells #[.int .i64 0, .bool y, .bool n, .slice ao l.length cap, .int .i64 sc, .int .i64 d, .int .i64 mo, .int .i64 da, .string t] 31)).cell? ⟨w1.heap.size, 5, none⟩ = some (.int .i64 d) := by go_simp
  have r6 : (w1.alloc (.cells #[.int .i64 0, .bool y, .bool n, .slice ao l.length cap, .int .i64 sc, .int .i64 d, .int .i64 mo, .int .i64 da, .string t] 31)).cell? ⟨w1.heap.size, 6, none⟩ = some (.int .i64 mo) := by go_simp
  have r7 : (w1.alloc (.cells #[.int .i64 0, .bool y, .bool n, .slice ao l.length cap, .int .i64 sc, .int .i64 d, .int .i64 mo, .int .i64 da, .string t] 31)).cell? ⟨w1.heap.size, 7, none⟩ = some (.int .i64 da) := by go_simp
  have r8 : (w1.alloc (.cells #[.int .i64 0, .bool y, .bool n, .slice ao l.length cap, .int .i64 sc, .int .i64 d, .int .i64 mo, .int .i64 da, .string t] 31)).cell? ⟨w1.heap.size, 8, none⟩ = some (.string t) := by go_simp
  clear b1 B0 z0 CO B1
  go_wp2_with fail
  refine (unhide CK _ B2).mono ?_
  rintro e w2 ⟨rfl, b2⟩
  have q0 := cell_later b2 r0
  have q1 := cell_later b2 r1
  have q2 := cell_later b2 r2
  have q3 := cell_later b2 r3
  have q4 := cell_later b2 r4
  have q5 := cell_later b2 r5
  have q6 := cell_later b2 r6
  have q7 := cell_later b2 r7
  have q8 := cell_later b2 r8
  have B3 := B2.trans (b2.mono B2.size)
  have zr := Nat.lt_of_lt_of_le zq b2.size
  clear r0 r1 r2 r3 r4 r5 r6 r7 r8 b2 CK B2 zq
  go_wp2_with fail
  refine (unhide CB _).mono ?_
  rintro e w3 ⟨rfl, b3⟩
  go_wp2
  go_ret
  exact ⟨rfl, B3.trans (b3.mono B3.size)⟩

set_option maxHeartbeats 2000000 in
theorem implValueOk_1 (w : World) (y n : Bool) (ao : Option Addr) (l : List Int) (cap : Nat) (sc d mo da : Int) (t : ByteArray) (ht : t.size ≤ maxLen) :
    Calls Tryz.prog 12 #[.agg #[.int .i64 1, .bool y, .bool n, .slice ao l.length cap, .int .i64 sc, .int .i64 d, .int .i64 mo, .int .i64 da, .string t]] w fun e w' => e = .returned (.bool (valB 1 y n l sc d mo da t)) ∧ Below w.heap.size w w' := by
  have hm : ∀ w : World, (method 365 93 (.bool y) "loop.example/jetton/impl.ok").run Tryz.prog w = .ok (276, .bool y) w := fun _ => by kernel_rfl
  have CO := hide (fun W => opened_1 W y n ao l.length cap sc d mo da t)
  have CB := fun W => bare_any W 1 (false) (n) (ao) (l.length) (cap) (sc) (d) (mo) (da) (t)
  have CK := fun W (b : Below w.heap.size w W) => boolOk W y
  have hv : valB 1 y n l sc d mo da t = bareB false n (l.length) sc d mo da t := by simp [valB]
  rw [hv]
  generalize bareB false n (l.length) sc d mo da t = h at *
  have CB := hide CB
  have CK := hide CK
  clear hv
  have B0 : Below w.heap.size w (w.alloc (.cells #[.int .i64 1, .bool y, .bool n, .slice ao l.length cap, .int .i64 sc, .int .i64 d, .int .i64 mo, .int .i64 da, .string t] 31)) := (Below.refl _ _).alloc (Nat.le_refl _) _
  have z0 : w.heap.size < (w.alloc (.cells #[.int .i64 1, .bool y, .bool n, .slice ao l.length cap, .int .i64 sc, .int .i64 d, .int .i64 mo, .int .i64 da, .string t] 31)).heap.size := by simp
  go_enter Tryz.func12, Tryz.ntmps12
  go_wp2_with fail
  refine (unhide CO _).mono ?_
  rintro e w1 ⟨rfl, b1⟩
  have B1 := B0.trans (b1.mono B0.size)
  have B2 := B1.alloc B1.size (.cells #[.int .i64 1, .bool false, .bool n, .slice ao l.length cap, .int .i64 sc, .int .i64 d, .int .i64 mo, .int .i64 da, .string t] 31)
  have zq : w1.heap.size < (w1.alloc (.cells #[.int .i64 1, .bool false, .bool n, .slice ao l.length cap, .int .i64 sc, .int .i64 d, .int .i64 mo, .int .i64 da, .string t] 31)).heap.size := by simp
  have r0 : (w1.alloc (.cells #[.int .i64 1, .bool false, .bool n, .slice ao l.length cap, .int .i64 sc, .int .i64 d, .int .i64 mo, .int .i64 da, .string t] 31)).cell? ⟨w1.heap.size, 0, none⟩ = some (.int .i64 1) := by go_simp
  have r1 : (w1.alloc (.cells #[.int .i64 1, .bool false, .bool n, .slice ao l.length cap, .int .i64 sc, .int .i64 d, .int .i64 mo, .int .i64 da, .string t] 31)).cell? ⟨w1.heap.size, 1, none⟩ = some (.bool false) := by go_simp
  have r2 : (w1.alloc (.cells #[.int .i64 1, .bool false, .bool n, .slice ao l.length cap, .int .i64 sc, .int .i64 d, .int .i64 mo, .int .i64 da, .string t] 31)).cell? ⟨w1.heap.size, 2, none⟩ = some (.bool n) := by go_simp
  have r3 : (w1.alloc (.cells #[.int .i64 1, .bool false, .bool n, .slice ao l.length cap, .int .i64 sc, .int .i64 d, .int .i64 mo, .int .i64 da, .string t] 31)).cell? ⟨w1.heap.size, 3, none⟩ = some (.slice ao l.length cap) := by go_simp
  have r4 : (w1.alloc (.cells #[.int .i64 1, .bool false, .bool n, .slice ao l.length cap, .int .i64 sc, .int .i64 d, .int .i64 mo, .int .i64 da, .string t] 31)).cell? ⟨w1.heap.size, 4, none⟩ = some (.int .i64 sc) := by go_simp
  have r5 : (w1.alloc (.cells #[.int .i64 1, .bool false, .bool n, .slice ao l.length cap, .int .i64 sc, .int .i64 d, .int .i64 mo, .int .i64 da, .string t] 31)).cell? ⟨w1.heap.size, 5, none⟩ = some (.int .i64 d) := by go_simp
  have r6 : (w1.alloc (.cells #[.int .i64 1, .bool false, .bool n, .slice ao l.length cap, .int .i64 sc, .int .i64 d, .int .i64 mo, .int .i64 da, .string t] 31)).cell? ⟨w1.heap.size, 6, none⟩ = some (.int .i64 mo) := by go_simp
  have r7 : (w1.alloc (.cells #[.int .i64 1, .bool false, .bool n, .slice ao l.length cap, .int .i64 sc, .int .i64 d, .int .i64 mo, .int .i64 da, .string t] 31)).cell? ⟨w1.heap.size, 7, none⟩ = some (.int .i64 da) := by go_simp
  have r8 : (w1.alloc (.cells #[.int .i64 1, .bool false, .bool n, .slice ao l.length cap, .int .i64 sc, .int .i64 d, .int .i64 mo, .int .i64 da, .string t] 31)).cell? ⟨w1.heap.size, 8, none⟩ = some (.string t) := by go_simp
  clear b1 B0 z0 CO B1
  go_wp2_with fail
  refine (unhide CK _ B2).mono ?_
  rintro e w2 ⟨rfl, b2⟩
  have q0 := cell_later b2 r0
  have q1 := cell_later b2 r1
  have q2 := cell_later b2 r2
  have q3 := cell_later b2 r3
  have q4 := cell_later b2 r4
  have q5 := cell_later b2 r5
  have q6 := cell_later b2 r6
  have q7 := cell_later b2 r7
  have q8 := cell_later b2 r8
  have B3 := B2.trans (b2.mono B2.size)
  have zr := Nat.lt_of_lt_of_le zq b2.size
  clear r0 r1 r2 r3 r4 r5 r6 r7 r8 b2 CK B2 zq
  go_wp2_with fail
  refine (unhide CB _).mono ?_
  rintro e w3 ⟨rfl, b3⟩
  go_wp2
  go_ret
  exact ⟨rfl, B3.trans (b3.mono B3.size)⟩

set_option maxHeartbeats 2000000 in
theorem implValueOk_2 (w : World) (y n : Bool) (ao : Option Addr) (l : List Int) (cap : Nat) (sc d mo da : Int) (t : ByteArray) (ht : t.size ≤ maxLen) (hr : Reads w (.slice ao l.length cap) l) (tt : Tab w) :
    Calls Tryz.prog 12 #[.agg #[.int .i64 2, .bool y, .bool n, .slice ao l.length cap, .int .i64 sc, .int .i64 d, .int .i64 mo, .int .i64 da, .string t]] w fun e w' => e = .returned (.bool (valB 2 y n l sc d mo da t)) ∧ Below w.heap.size w w' := by
  have hm : ∀ w : World, (method 365 94 (.agg #[.bool n, .slice ao l.length cap, .int .i64 sc]) "loop.example/jetton/impl.ok").run Tryz.prog w = .ok (282, .agg #[.bool n, .slice ao l.length cap, .int .i64 sc]) w := fun _ => by kernel_rfl
  have CO := hide (fun W => opened_2 W y n ao l.length cap sc d mo da t)
  have CB := fun W => bare_any W 2 (y) (false) (none) (0) (0) (0) (d) (mo) (da) (t)
  have CK := fun W (b : Below w.heap.size w W) => numOk W n ao l cap sc (hr.later b) (tt.later b)
  have hv : valB 2 y n l sc d mo da t = (decB n l sc && bareB y false 0 0 d mo da t) := by simp [valB]
  rw [hv]
  generalize bareB y false 0 0 d mo da t = h at *
  generalize hgg : (decB n l sc : Bool) = g at *
  have CB := hide CB
  have CK := hide CK
  clear hv hgg hr tt
  have B0 : Below w.heap.size w (w.alloc (.cells #[.int .i64 2, .bool y, .bool n, .slice ao l.length cap, .int .i64 sc, .int .i64 d, .int .i64 mo, .int .i64 da, .string t] 31)) := (Below.refl _ _).alloc (Nat.le_refl _) _
  have z0 : w.heap.size < (w.alloc (.cells #[.int .i64 2, .bool y, .bool n, .slice ao l.length cap, .int .i64 sc, .int .i64 d, .int .i64 mo, .int .i64 da, .string t] 31)).heap.size := by simp
  go_enter Tryz.func12, Tryz.ntmps12
  go_wp2_with fail
  refine (unhide CO _).mono ?_
  rintro e w1 ⟨rfl, b1⟩
  have B1 := B0.trans (b1.mono B0.size)
  have B2 := B1.alloc B1.size (.cells #[.int .i64 2, .bool y, .bool false, .slice none 0 0, .int .i64 0, .int .i64 d, .int .i64 mo, .int .i64 da, .string t] 31)
  have zq : w1.heap.size < (w1.alloc (.cells #[.int .i64 2, .bool y, .bool false, .slice none 0 0, .int .i64 0, .int .i64 d, .int .i64 mo, .int .i64 da, .string t] 31)).heap.size := by simp
  have r0 : (w1.alloc (.cells #[.int .i64 2, .bool y, .bool false, .slice none 0 0, .int .i64 0, .int .i64 d, .int .i64 mo, .int .i64 da, .string t] 31)).cell? ⟨w1.heap.size, 0, none⟩ = some (.int .i64 2) := by go_simp
  have r1 : (w1.alloc (.cells #[.int .i64 2, .bool y, .bool false, .slice none 0 0, .int .i64 0, .int .i64 d, .int .i64 mo, .int .i64 da, .string t] 31)).cell? ⟨w1.heap.size, 1, none⟩ = some (.bool y) := by go_simp
  have r2 : (w1.alloc (.cells #[.int .i64 2, .bool y, .bool false, .slice none 0 0, .int .i64 0, .int .i64 d, .int .i64 mo, .int .i64 da, .string t] 31)).cell? ⟨w1.heap.size, 2, none⟩ = some (.bool false) := by go_simp
  have r3 : (w1.alloc (.cells #[.int .i64 2, .bool y, .bool false, .slice none 0 0, .int .i64 0, .int .i64 d, .int .i64 mo, .int .i64 da, .string t] 31)).cell? ⟨w1.heap.size, 3, none⟩ = some (.slice none 0 0) := by go_simp
  have r4 : (w1.alloc (.cells #[.int .i64 2, .bool y, .bool false, .slice none 0 0, .int .i64 0, .int .i64 d, .int .i64 mo, .int .i64 da, .string t] 31)).cell? ⟨w1.heap.size, 4, none⟩ = some (.int .i64 0) := by go_simp
  have r5 : (w1.alloc (.cells #[.int .i64 2, .bool y, .bool false, .slice none 0 0, .int .i64 0, .int .i64 d, .int .i64 mo, .int .i64 da, .string t] 31)).cell? ⟨w1.heap.size, 5, none⟩ = some (.int .i64 d) := by go_simp
  have r6 : (w1.alloc (.cells #[.int .i64 2, .bool y, .bool false, .slice none 0 0, .int .i64 0, .int .i64 d, .int .i64 mo, .int .i64 da, .string t] 31)).cell? ⟨w1.heap.size, 6, none⟩ = some (.int .i64 mo) := by go_simp
  have r7 : (w1.alloc (.cells #[.int .i64 2, .bool y, .bool false, .slice none 0 0, .int .i64 0, .int .i64 d, .int .i64 mo, .int .i64 da, .string t] 31)).cell? ⟨w1.heap.size, 7, none⟩ = some (.int .i64 da) := by go_simp
  have r8 : (w1.alloc (.cells #[.int .i64 2, .bool y, .bool false, .slice none 0 0, .int .i64 0, .int .i64 d, .int .i64 mo, .int .i64 da, .string t] 31)).cell? ⟨w1.heap.size, 8, none⟩ = some (.string t) := by go_simp
  clear b1 B0 z0 CO B1
  go_wp2_with fail
  refine (unhide CK _ B2).mono ?_
  rintro e w2 ⟨rfl, b2⟩
  have q0 := cell_later b2 r0
  have q1 := cell_later b2 r1
  have q2 := cell_later b2 r2
  have q3 := cell_later b2 r3
  have q4 := cell_later b2 r4
  have q5 := cell_later b2 r5
  have q6 := cell_later b2 r6
  have q7 := cell_later b2 r7
  have q8 := cell_later b2 r8
  have B3 := B2.trans (b2.mono B2.size)
  have zr := Nat.lt_of_lt_of_le zq b2.size
  clear r0 r1 r2 r3 r4 r5 r6 r7 r8 b2 CK B2 zq
  cases g
  · go_wp2
    go_ret
    exact ⟨rfl, B3⟩
  · go_wp2_with fail
    refine (unhide CB _).mono ?_
    rintro e w3 ⟨rfl, b3⟩
    go_wp2
    go_ret
    exact ⟨rfl, B3.trans (b3.mono B3.size)⟩

set_option maxHeartbeats 2000000 in
theorem implValueOk_3 (w : World) (y n : Bool) (ao : Option Addr) (l : List Int) (cap : Nat) (sc d mo da : Int) (t : ByteArray) (ht : t.size ≤ maxLen) :
    Calls Tryz.prog 12 #[.agg #[.int .i64 3, .bool y, .bool n, .slice ao l.length cap, .int .i64 sc, .int .i64 d, .int .i64 mo, .int .i64 da, .string t]] w fun e w' => e = .returned (.bool (valB 3 y n l sc d mo da t)) ∧ Below w.heap.size w w' := by
  have hm : ∀ w : World, (method 365 95 (.int .i64 d) "loop.example/jetton/impl.ok").run Tryz.prog w = .ok (299, .int .i64 d) w := fun _ => by kernel_rfl
  have CO := hide (fun W => opened_3 W y n ao l.length cap sc d mo da t)
  have CB := fun W => bare_any W 3 (y) (n) (ao) (l.length) (cap) (sc) (0) (mo) (da) (t)
  have CK := fun W (b : Below w.heap.size w W) => dayKOk W d
  have hv : valB 3 y n l sc d mo da t = (decide (1 ≤ d ∧ d ≤ 3652059) && bareB y n (l.length) sc 0 mo da t) := by simp [valB]
  rw [hv]
  generalize bareB y n (l.length) sc 0 mo da t = h at *
  generalize hgg : (decide (1 ≤ d ∧ d ≤ 3652059) : Bool) = g at *
  have CB := hide CB
  have CK := hide CK
  clear hv hgg
  have B0 : Below w.heap.size w (w.alloc (.cells #[.int .i64 3, .bool y, .bool n, .slice ao l.length cap, .int .i64 sc, .int .i64 d, .int .i64 mo, .int .i64 da, .string t] 31)) := (Below.refl _ _).alloc (Nat.le_refl _) _
  have z0 : w.heap.size < (w.alloc (.cells #[.int .i64 3, .bool y, .bool n, .slice ao l.length cap, .int .i64 sc, .int .i64 d, .int .i64 mo, .int .i64 da, .string t] 31)).heap.size := by simp
  go_enter Tryz.func12, Tryz.ntmps12
  go_wp2_with fail
  refine (unhide CO _).mono ?_
  rintro e w1 ⟨rfl, b1⟩
  have B1 := B0.trans (b1.mono B0.size)
  have B2 := B1.alloc B1.size (.cells #[.int .i64 3, .bool y, .bool n, .slice ao l.length cap, .int .i64 sc, .int .i64 0, .int .i64 mo, .int .i64 da, .string t] 31)
  have zq : w1.heap.size < (w1.alloc (.cells #[.int .i64 3, .bool y, .bool n, .slice ao l.length cap, .int .i64 sc, .int .i64 0, .int .i64 mo, .int .i64 da, .string t] 31)).heap.size := by simp
  have r0 : (w1.alloc (.cells #[.int .i64 3, .bool y, .bool n, .slice ao l.length cap, .int .i64 sc, .int .i64 0, .int .i64 mo, .int .i64 da, .string t] 31)).cell? ⟨w1.heap.size, 0, none⟩ = some (.int .i64 3) := by go_simp
  have r1 : (w1.alloc (.cells #[.int .i64 3, .bool y, .bool n, .slice ao l.length cap, .int .i64 sc, .int .i64 0, .int .i64 mo, .int .i64 da, .string t] 31)).cell? ⟨w1.heap.size, 1, none⟩ = some (.bool y) := by go_simp
  have r2 : (w1.alloc (.cells #[.int .i64 3, .bool y, .bool n, .slice ao l.length cap, .int .i64 sc, .int .i64 0, .int .i64 mo, .int .i64 da, .string t] 31)).cell? ⟨w1.heap.size, 2, none⟩ = some (.bool n) := by go_simp
  have r3 : (w1.alloc (.cells #[.int .i64 3, .bool y, .bool n, .slice ao l.length cap, .int .i64 sc, .int .i64 0, .int .i64 mo, .int .i64 da, .string t] 31)).cell? ⟨w1.heap.size, 3, none⟩ = some (.slice ao l.length cap) := by go_simp
  have r4 : (w1.alloc (.cells #[.int .i64 3, .bool y, .bool n, .slice ao l.length cap, .int .i64 sc, .int .i64 0, .int .i64 mo, .int .i64 da, .string t] 31)).cell? ⟨w1.heap.size, 4, none⟩ = some (.int .i64 sc) := by go_simp
  have r5 : (w1.alloc (.cells #[.int .i64 3, .bool y, .bool n, .slice ao l.length cap, .int .i64 sc, .int .i64 0, .int .i64 mo, .int .i64 da, .string t] 31)).cell? ⟨w1.heap.size, 5, none⟩ = some (.int .i64 0) := by go_simp
  have r6 : (w1.alloc (.cells #[.int .i64 3, .bool y, .bool n, .slice ao l.length cap, .int .i64 sc, .int .i64 0, .int .i64 mo, .int .i64 da, .string t] 31)).cell? ⟨w1.heap.size, 6, none⟩ = some (.int .i64 mo) := by go_simp
  have r7 : (w1.alloc (.cells #[.int .i64 3, .bool y, .bool n, .slice ao l.length cap, .int .i64 sc, .int .i64 0, .int .i64 mo, .int .i64 da, .string t] 31)).cell? ⟨w1.heap.size, 7, none⟩ = some (.int .i64 da) := by go_simp
  have r8 : (w1.alloc (.cells #[.int .i64 3, .bool y, .bool n, .slice ao l.length cap, .int .i64 sc, .int .i64 0, .int .i64 mo, .int .i64 da, .string t] 31)).cell? ⟨w1.heap.size, 8, none⟩ = some (.string t) := by go_simp
  clear b1 B0 z0 CO B1
  go_wp2_with fail
  refine (unhide CK _ B2).mono ?_
  rintro e w2 ⟨rfl, b2⟩
  have q0 := cell_later b2 r0
  have q1 := cell_later b2 r1
  have q2 := cell_later b2 r2
  have q3 := cell_later b2 r3
  have q4 := cell_later b2 r4
  have q5 := cell_later b2 r5
  have q6 := cell_later b2 r6
  have q7 := cell_later b2 r7
  have q8 := cell_later b2 r8
  have B3 := B2.trans (b2.mono B2.size)
  have zr := Nat.lt_of_lt_of_le zq b2.size
  clear r0 r1 r2 r3 r4 r5 r6 r7 r8 b2 CK B2 zq
  cases g
  · go_wp2
    go_ret
    exact ⟨rfl, B3⟩
  · go_wp2_with fail
    refine (unhide CB _).mono ?_
    rintro e w3 ⟨rfl, b3⟩
    go_wp2
    go_ret
    exact ⟨rfl, B3.trans (b3.mono B3.size)⟩

set_option maxHeartbeats 2000000 in
theorem implValueOk_4 (w : World) (y n : Bool) (ao : Option Addr) (l : List Int) (cap : Nat) (sc d mo da : Int) (t : ByteArray) (ht : t.size ≤ maxLen) :
    Calls Tryz.prog 12 #[.agg #[.int .i64 4, .bool y, .bool n, .slice ao l.length cap, .int .i64 sc, .int .i64 d, .int .i64 mo, .int .i64 da, .string t]] w fun e w' => e = .returned (.bool (valB 4 y n l sc d mo da t)) ∧ Below w.heap.size w w' := by
  have hm : ∀ w : World, (method 365 96 (.agg #[.int .i64 mo, .int .i64 da]) "loop.example/jetton/impl.ok").run Tryz.prog w = .ok (303, .agg #[.int .i64 mo, .int .i64 da]) w := fun _ => by kernel_rfl
  have CO := hide (fun W => opened_4 W y n ao l.length cap sc d mo da t)
  have CB := fun W => bare_any W 4 (y) (n) (ao) (l.length) (cap) (sc) (d) (0) (0) (t)
  have CK := fun W (b : Below w.heap.size w W) => spanKOk W mo da
  have hv : valB 4 y n l sc d mo da t = (decide (SpanIs mo da) && bareB y n (l.length) sc d 0 0 t) := by simp [valB]
  rw [hv]
  generalize bareB y n (l.length) sc d 0 0 t = h at *
  generalize hgg : (decide (SpanIs mo da) : Bool) = g at *
  have CB := hide CB
  have CK := hide CK
  clear hv hgg
  have B0 : Below w.heap.size w (w.alloc (.cells #[.int .i64 4, .bool y, .bool n, .slice ao l.length cap, .int .i64 sc, .int .i64 d, .int .i64 mo, .int .i64 da, .string t] 31)) := (Below.refl _ _).alloc (Nat.le_refl _) _
  have z0 : w.heap.size < (w.alloc (.cells #[.int .i64 4, .bool y, .bool n, .slice ao l.length cap, .int .i64 sc, .int .i64 d, .int .i64 mo, .int .i64 da, .string t] 31)).heap.size := by simp
  go_enter Tryz.func12, Tryz.ntmps12
  go_wp2_with fail
  refine (unhide CO _).mono ?_
  rintro e w1 ⟨rfl, b1⟩
  have B1 := B0.trans (b1.mono B0.size)
  have B2 := B1.alloc B1.size (.cells #[.int .i64 4, .bool y, .bool n, .slice ao l.length cap, .int .i64 sc, .int .i64 d, .int .i64 0, .int .i64 0, .string t] 31)
  have zq : w1.heap.size < (w1.alloc (.cells #[.int .i64 4, .bool y, .bool n, .slice ao l.length cap, .int .i64 sc, .int .i64 d, .int .i64 0, .int .i64 0, .string t] 31)).heap.size := by simp
  have r0 : (w1.alloc (.cells #[.int .i64 4, .bool y, .bool n, .slice ao l.length cap, .int .i64 sc, .int .i64 d, .int .i64 0, .int .i64 0, .string t] 31)).cell? ⟨w1.heap.size, 0, none⟩ = some (.int .i64 4) := by go_simp
  have r1 : (w1.alloc (.cells #[.int .i64 4, .bool y, .bool n, .slice ao l.length cap, .int .i64 sc, .int .i64 d, .int .i64 0, .int .i64 0, .string t] 31)).cell? ⟨w1.heap.size, 1, none⟩ = some (.bool y) := by go_simp
  have r2 : (w1.alloc (.cells #[.int .i64 4, .bool y, .bool n, .slice ao l.length cap, .int .i64 sc, .int .i64 d, .int .i64 0, .int .i64 0, .string t] 31)).cell? ⟨w1.heap.size, 2, none⟩ = some (.bool n) := by go_simp
  have r3 : (w1.alloc (.cells #[.int .i64 4, .bool y, .bool n, .slice ao l.length cap, .int .i64 sc, .int .i64 d, .int .i64 0, .int .i64 0, .string t] 31)).cell? ⟨w1.heap.size, 3, none⟩ = some (.slice ao l.length cap) := by go_simp
  have r4 : (w1.alloc (.cells #[.int .i64 4, .bool y, .bool n, .slice ao l.length cap, .int .i64 sc, .int .i64 d, .int .i64 0, .int .i64 0, .string t] 31)).cell? ⟨w1.heap.size, 4, none⟩ = some (.int .i64 sc) := by go_simp
  have r5 : (w1.alloc (.cells #[.int .i64 4, .bool y, .bool n, .slice ao l.length cap, .int .i64 sc, .int .i64 d, .int .i64 0, .int .i64 0, .string t] 31)).cell? ⟨w1.heap.size, 5, none⟩ = some (.int .i64 d) := by go_simp
  have r6 : (w1.alloc (.cells #[.int .i64 4, .bool y, .bool n, .slice ao l.length cap, .int .i64 sc, .int .i64 d, .int .i64 0, .int .i64 0, .string t] 31)).cell? ⟨w1.heap.size, 6, none⟩ = some (.int .i64 0) := by go_simp
  have r7 : (w1.alloc (.cells #[.int .i64 4, .bool y, .bool n, .slice ao l.length cap, .int .i64 sc, .int .i64 d, .int .i64 0, .int .i64 0, .string t] 31)).cell? ⟨w1.heap.size, 7, none⟩ = some (.int .i64 0) := by go_simp
  have r8 : (w1.alloc (.cells #[.int .i64 4, .bool y, .bool n, .slice ao l.length cap, .int .i64 sc, .int .i64 d, .int .i64 0, .int .i64 0, .string t] 31)).cell? ⟨w1.heap.size, 8, none⟩ = some (.string t) := by go_simp
  clear b1 B0 z0 CO B1
  go_wp2_with fail
  refine (unhide CK _ B2).mono ?_
  rintro e w2 ⟨rfl, b2⟩
  have q0 := cell_later b2 r0
  have q1 := cell_later b2 r1
  have q2 := cell_later b2 r2
  have q3 := cell_later b2 r3
  have q4 := cell_later b2 r4
  have q5 := cell_later b2 r5
  have q6 := cell_later b2 r6
  have q7 := cell_later b2 r7
  have q8 := cell_later b2 r8
  have B3 := B2.trans (b2.mono B2.size)
  have zr := Nat.lt_of_lt_of_le zq b2.size
  clear r0 r1 r2 r3 r4 r5 r6 r7 r8 b2 CK B2 zq
  cases g
  · go_wp2
    go_ret
    exact ⟨rfl, B3⟩
  · go_wp2_with fail
    refine (unhide CB _).mono ?_
    rintro e w3 ⟨rfl, b3⟩
    go_wp2
    go_ret
    exact ⟨rfl, B3.trans (b3.mono B3.size)⟩

set_option maxHeartbeats 2000000 in
theorem implValueOk_5 (w : World) (y n : Bool) (ao : Option Addr) (l : List Int) (cap : Nat) (sc d mo da : Int) (t : ByteArray) (ht : t.size ≤ maxLen) :
    Calls Tryz.prog 12 #[.agg #[.int .i64 5, .bool y, .bool n, .slice ao l.length cap, .int .i64 sc, .int .i64 d, .int .i64 mo, .int .i64 da, .string t]] w fun e w' => e = .returned (.bool (valB 5 y n l sc d mo da t)) ∧ Below w.heap.size w w' := by
  have hm : ∀ w : World, (method 365 97 (.string t) "loop.example/jetton/impl.ok").run Tryz.prog w = .ok (308, .string t) w := fun _ => by kernel_rfl
  have CO := hide (fun W => opened_5 W y n ao l.length cap sc d mo da t)
  have CB := fun W => bare_any W 5 (y) (n) (ao) (l.length) (cap) (sc) (d) (mo) (da) (⟨#[]⟩)
  have CK := fun W (b : Below w.heap.size w W) => textOk W t ht
  have hv : valB 5 y n l sc d mo da t = (textB t && bareB y n (l.length) sc d mo da (⟨#[]⟩)) := by simp [valB]
  rw [hv]
  generalize bareB y n (l.length) sc d mo da (⟨#[]⟩) = h at *
  generalize hgg : (textB t : Bool) = g at *
  have CB := hide CB
  have CK := hide CK
  clear hv hgg
  have B0 : Below w.heap.size w (w.alloc (.cells #[.int .i64 5, .bool y, .bool n, .slice ao l.length cap, .int .i64 sc, .int .i64 d, .int .i64 mo, .int .i64 da, .string t] 31)) := (Below.refl _ _).alloc (Nat.le_refl _) _
  have z0 : w.heap.size < (w.alloc (.cells #[.int .i64 5, .bool y, .bool n, .slice ao l.length cap, .int .i64 sc, .int .i64 d, .int .i64 mo, .int .i64 da, .string t] 31)).heap.size := by simp
  go_enter Tryz.func12, Tryz.ntmps12
  go_wp2_with fail
  refine (unhide CO _).mono ?_
  rintro e w1 ⟨rfl, b1⟩
  have B1 := B0.trans (b1.mono B0.size)
  have B2 := B1.alloc B1.size (.cells #[.int .i64 5, .bool y, .bool n, .slice ao l.length cap, .int .i64 sc, .int .i64 d, .int .i64 mo, .int .i64 da, .string ⟨#[]⟩] 31)
  have zq : w1.heap.size < (w1.alloc (.cells #[.int .i64 5, .bool y, .bool n, .slice ao l.length cap, .int .i64 sc, .int .i64 d, .int .i64 mo, .int .i64 da, .string ⟨#[]⟩] 31)).heap.size := by simp
  have r0 : (w1.alloc (.cells #[.int .i64 5, .bool y, .bool n, .slice ao l.length cap, .int .i64 sc, .int .i64 d, .int .i64 mo, .int .i64 da, .string ⟨#[]⟩] 31)).cell? ⟨w1.heap.size, 0, none⟩ = some (.int .i64 5) := by go_simp
  have r1 : (w1.alloc (.cells #[.int .i64 5, .bool y, .bool n, .slice ao l.length cap, .int .i64 sc, .int .i64 d, .int .i64 mo, .int .i64 da, .string ⟨#[]⟩] 31)).cell? ⟨w1.heap.size, 1, none⟩ = some (.bool y) := by go_simp
  have r2 : (w1.alloc (.cells #[.int .i64 5, .bool y, .bool n, .slice ao l.length cap, .int .i64 sc, .int .i64 d, .int .i64 mo, .int .i64 da, .string ⟨#[]⟩] 31)).cell? ⟨w1.heap.size, 2, none⟩ = some (.bool n) := by go_simp
  have r3 : (w1.alloc (.cells #[.int .i64 5, .bool y, .bool n, .slice ao l.length cap, .int .i64 sc, .int .i64 d, .int .i64 mo, .int .i64 da, .string ⟨#[]⟩] 31)).cell? ⟨w1.heap.size, 3, none⟩ = some (.slice ao l.length cap) := by go_simp
  have r4 : (w1.alloc (.cells #[.int .i64 5, .bool y, .bool n, .slice ao l.length cap, .int .i64 sc, .int .i64 d, .int .i64 mo, .int .i64 da, .string ⟨#[]⟩] 31)).cell? ⟨w1.heap.size, 4, none⟩ = some (.int .i64 sc) := by go_simp
  have r5 : (w1.alloc (.cells #[.int .i64 5, .bool y, .bool n, .slice ao l.length cap, .int .i64 sc, .int .i64 d, .int .i64 mo, .int .i64 da, .string ⟨#[]⟩] 31)).cell? ⟨w1.heap.size, 5, none⟩ = some (.int .i64 d) := by go_simp
  have r6 : (w1.alloc (.cells #[.int .i64 5, .bool y, .bool n, .slice ao l.length cap, .int .i64 sc, .int .i64 d, .int .i64 mo, .int .i64 da, .string ⟨#[]⟩] 31)).cell? ⟨w1.heap.size, 6, none⟩ = some (.int .i64 mo) := by go_simp
  have r7 : (w1.alloc (.cells #[.int .i64 5, .bool y, .bool n, .slice ao l.length cap, .int .i64 sc, .int .i64 d, .int .i64 mo, .int .i64 da, .string ⟨#[]⟩] 31)).cell? ⟨w1.heap.size, 7, none⟩ = some (.int .i64 da) := by go_simp
  have r8 : (w1.alloc (.cells #[.int .i64 5, .bool y, .bool n, .slice ao l.length cap, .int .i64 sc, .int .i64 d, .int .i64 mo, .int .i64 da, .string ⟨#[]⟩] 31)).cell? ⟨w1.heap.size, 8, none⟩ = some (.string ⟨#[]⟩) := by go_simp
  clear b1 B0 z0 CO B1
  go_wp2_with fail
  refine (unhide CK _ B2).mono ?_
  rintro e w2 ⟨rfl, b2⟩
  have q0 := cell_later b2 r0
  have q1 := cell_later b2 r1
  have q2 := cell_later b2 r2
  have q3 := cell_later b2 r3
  have q4 := cell_later b2 r4
  have q5 := cell_later b2 r5
  have q6 := cell_later b2 r6
  have q7 := cell_later b2 r7
  have q8 := cell_later b2 r8
  have B3 := B2.trans (b2.mono B2.size)
  have zr := Nat.lt_of_lt_of_le zq b2.size
  clear r0 r1 r2 r3 r4 r5 r6 r7 r8 b2 CK B2 zq
  cases g
  · go_wp2
    go_ret
    exact ⟨rfl, B3⟩
  · go_wp2_with fail
    refine (unhide CB _).mono ?_
    rintro e w3 ⟨rfl, b3⟩
    go_wp2
    go_ret
    exact ⟨rfl, B3.trans (b3.mono B3.size)⟩

theorem implValueOk_no (w : World) (k : Int) (hk : ¬ (0 ≤ k ∧ k ≤ 5)) (y n : Bool) (ao : Option Addr) (l : List Int) (cap : Nat) (sc d mo da : Int) (t : ByteArray) :
    Calls Tryz.prog 12 #[.agg #[.int .i64 k, .bool y, .bool n, .slice ao l.length cap, .int .i64 sc, .int .i64 d, .int .i64 mo, .int .i64 da, .string t]] w fun e w' => e = .returned (.bool (valB k y n l sc d mo da t)) ∧ Below w.heap.size w w' := by
  have CO := hide (fun W => opened_no W k hk y n ao l.length cap sc d mo da t)
  have hv : valB k y n l sc d mo da t = false := by
    unfold valB
    rw [if_neg (by omega), if_neg (by omega), if_neg (by omega), if_neg (by omega), if_neg (by omega), if_neg (by omega)]
  rw [hv]
  clear hv hk
  have B0 : Below w.heap.size w (w.alloc (.cells #[.int .i64 k, .bool y, .bool n, .slice ao l.length cap, .int .i64 sc, .int .i64 d, .int .i64 mo, .int .i64 da, .string t] 31)) := (Below.refl _ _).alloc (Nat.le_refl _) _
  go_enter Tryz.func12, Tryz.ntmps12
  go_wp2_with fail
  refine (unhide CO _).mono ?_
  rintro e w1 ⟨rfl, b1⟩
  have B1 := B0.trans (b1.mono B0.size)
  have B2 := B1.alloc B1.size (.cells #[.int .i64 k, .bool y, .bool n, .slice ao l.length cap, .int .i64 sc, .int .i64 d, .int .i64 mo, .int .i64 da, .string t] 31)
  clear b1 B0 CO
  go_wp2
  go_ret
  exact ⟨rfl, B2⟩

theorem implValueOk_any (w : World) (k : Int) (y n : Bool) (ao : Option Addr) (l : List Int) (cap : Nat) (sc d mo da : Int) (t : ByteArray) (ht : t.size ≤ maxLen) (hr : Reads w (.slice ao l.length cap) l) (tt : Tab w) :
    Calls Tryz.prog 12 #[.agg #[.int .i64 k, .bool y, .bool n, .slice ao l.length cap, .int .i64 sc, .int .i64 d, .int .i64 mo, .int .i64 da, .string t]] w fun e w' => e = .returned (.bool (valB k y n l sc d mo da t)) ∧ Below w.heap.size w w' := by
  by_cases hk : 0 ≤ k ∧ k ≤ 5
  · have h : k = 0 ∨ k = 1 ∨ k = 2 ∨ k = 3 ∨ k = 4 ∨ k = 5 := by omega
    rcases h with rfl | rfl | rfl | rfl | rfl | rfl
    · exact implValueOk_0 w y n ao l cap sc d mo da t ht
    · exact implValueOk_1 w y n ao l cap sc d mo da t ht
    · exact implValueOk_2 w y n ao l cap sc d mo da t ht hr tt
    · exact implValueOk_3 w y n ao l cap sc d mo da t ht
    · exact implValueOk_4 w y n ao l cap sc d mo da t ht
    · exact implValueOk_5 w y n ao l cap sc d mo da t ht
  · exact implValueOk_no w k hk y n ao l cap sc d mo da t

end Go.Proofs.YtdklikicngmkbaaGreatDoor
