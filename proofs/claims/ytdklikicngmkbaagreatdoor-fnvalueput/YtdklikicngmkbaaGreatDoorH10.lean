/- What a value says, as a text: the methods of the program, by contracts. A value as a text: ValuePut of both, by contracts. -/
import Derived.Test.YtdklikicngmkbaaGreatDoorG15
import Derived.Test.YtdklikicngmkbaaGreatDoorH09
import Derived.Test.YtdklikicngmkbaaGreatDoorG18
namespace Go.Proofs.YtdklikicngmkbaaGreatDoor
open Go.RowKit
set_option maxRecDepth 100000
set_option linter.unusedSimpArgs false
set_option linter.unusedVariables false

theorem dayText (w : World) (d : Int) (tt : Tab w) : Calls Tryz.prog 300 #[.int .i64 d] w fun e w' => e = .returned (.string (dayPutR d)) ∧ Below w.heap.size w w' := by
  have C := hide (fun W (b : Below w.heap.size w W) => implDayPut_any W d (tt.later b))
  go_enter Tryz.func300, Tryz.ntmps300
  go_wp2_with fail
  refine (unhide C _ (by first | exact Below.refl _ _ | exact (Below.refl _ _).alloc (Nat.le_refl _) _)).mono ?_
  rintro e w1 ⟨rfl, b1⟩
  go_wp2
  go_ret
  exact ⟨rfl, by first | exact b1 | exact ((Below.refl _ _).alloc (Nat.le_refl _) _).trans (b1.mono (by simp))⟩

theorem spanText (w : World) (mo da : Int) (tt : Tab w) : Calls Tryz.prog 304 #[.agg #[.int .i64 mo, .int .i64 da]] w fun e w' => e = .returned (.string (spanPutR mo da)) ∧ Below w.heap.size w w' := by
  have C := hide (fun W (b : Below w.heap.size w W) => implSpanPut_any W mo da (tt.later b))
  go_enter Tryz.func304, Tryz.ntmps304
  go_wp2_with fail
  refine (unhide C _ (by first | exact Below.refl _ _ | exact (Below.refl _ _).alloc (Nat.le_refl _) _)).mono ?_
  rintro e w1 ⟨rfl, b1⟩
  go_wp2
  go_ret
  exact ⟨rfl, by first | exact b1 | exact ((Below.refl _ _).alloc (Nat.le_refl _) _).trans (b1.mono (by simp))⟩

theorem numText (w : World) (n : Bool) (ao : Option Addr) (l : List Int) (cap : Nat) (sc : Int) (hr : Reads w (.slice ao l.length cap) l) (tt : Tab w) : Calls Tryz.prog 283 #[.agg #[.bool n, .slice ao l.length cap, .int .i64 sc]] w fun e w' => e = .returned (.string (dputR n l sc)) ∧ Below w.heap.size w w' := by
  have C := hide (fun W (b : Below w.heap.size w W) => implDecPut_any W n (.slice ao l.length cap) l sc (hr.later b) (tt.later b))
  clear hr
  go_enter Tryz.func283, Tryz.ntmps283
  go_wp2_with fail
  refine (unhide C _ (by first | exact Below.refl _ _ | exact (Below.refl _ _).alloc (Nat.le_refl _) _)).mono ?_
  rintro e w1 ⟨rfl, b1⟩
  go_wp2
  go_ret
  exact ⟨rfl, by first | exact b1 | exact ((Below.refl _ _).alloc (Nat.le_refl _) _).trans (b1.mono (by simp))⟩

theorem textText (w : World) (t : ByteArray) : Calls Tryz.prog 309 #[.string t] w fun e w' => e = .returned (.string t) ∧ Below w.heap.size w w' := by
  go_enter Tryz.func309, Tryz.ntmps309
  go_wp2
  go_ret
  exact ⟨rfl, Below.refl _ _⟩

theorem noneText (w : World) : Calls Tryz.prog 273 #[.agg #[]] w fun e w' => e = .returned (.string ⟨#[110, 117, 108, 108]⟩) ∧ Below w.heap.size w w' := by
  go_enter Tryz.func273, Tryz.ntmps273
  go_wp2
  go_ret
  refine ⟨rfl, ?_⟩
  repeat (first | exact Below.refl _ _ | refine Below.alloc ?_ (by first | exact Nat.le_refl _ | (simp only [World.size_alloc]; omega) | (simp; omega)) _)

theorem fmtBool (w : World) (y : Bool) : Calls Tryz.prog 279 #[.bool y] w fun e w' => e = .returned (.string (truT y)) ∧ Below w.heap.size w w' := by
  have C : ∀ W : World, Calls Tryz.prog 280 #[.bool y] W fun e w' => e = .returned (.string (truT y)) ∧ w' = W := by
    intro W
    cases y
    all_goals
      go_enter Tryz.func280, Tryz.ntmps280
      go_wp2
      go_ret
      exact ⟨rfl, rfl⟩
  generalize truT y = T at *
  have C := hide C
  go_enter Tryz.func279, Tryz.ntmps279
  go_wp2_with fail
  refine (unhide C _).mono ?_
  rintro e w1 ⟨rfl, hw⟩
  subst hw
  go_wp2
  go_ret
  exact ⟨rfl, Below.refl _ _⟩

theorem boolText (w : World) (y : Bool) : Calls Tryz.prog 277 #[.bool y] w fun e w' => e = .returned (.string (truT y)) ∧ Below w.heap.size w w' := by
  have C := fun W => fmtBool W y
  generalize truT y = T at *
  have C := hide C
  go_enter Tryz.func277, Tryz.ntmps277
  go_wp2_with fail
  refine (unhide C _).mono ?_
  rintro e w1 ⟨rfl, b1⟩
  go_wp2
  go_ret
  exact ⟨rfl, b1⟩

/-- The longest text that bytealg looks through at once: some number. -/
def Mx (w : World) : Prop := ∃ m : Int, w.cell? ⟨0, 0, none⟩ = some (.int .i64 m)
theorem Mx.later {w w' : World} (h : Mx w) (b : Below w.heap.size w w') : Mx w' := by
  obtain ⟨m, hm⟩ := h
  exact ⟨m, cell_later b hm⟩

/-- A text with each quote in it twice. -/
def repT (t : ByteArray) : ByteArray := ⟨(repB 39 [39, 39] t.data.toList).toArray⟩
theorem repT_size (t : ByteArray) (ht : t.size ≤ 100000 := by assumption) : (repT t).size ≤ 300000 := by
  have h := repB_len 39 [39, 39] t.data.toList
  have hs : t.data.toList.length = t.size := by simp
  have e : (repT t).size = (repB 39 [39, 39] t.data.toList).length := q_size _
  rw [e]
  simp only [List.length_cons, List.length_nil] at h
  omega
theorem quoteT_eq (t : ByteArray) : (⟨#[39]⟩ : ByteArray) ++ repT t ++ ⟨#[39]⟩ = quoteT t := by
  unfold repT quoteT quoL
  rw [show (⟨#[39]⟩ : ByteArray) = ⟨([39] : List UInt8).toArray⟩ from rfl, q_cat, q_cat]
  rfl

theorem count_small (t : ByteArray) : Lib.countB t ⟨#[39]⟩ ≤ t.size := Lib.countB_le ⟨#[39]⟩ (by decide) t.size t (Nat.le_refl _)

theorem repl_any (w : World) (t : ByteArray) (ht : t.size ≤ 100000) (mx : Mx w) : Calls Tryz.prog 61 #[.string t, .string ⟨#[39]⟩, .string ⟨#[39, 39]⟩] w fun e w' => e = .returned (.string (repT t)) ∧ Below w.heap.size w w' := by
  obtain ⟨m, hm⟩ := mx
  have hc := count_small t
  have h := Tryz.strings_ReplaceAll t ⟨#[39]⟩ ⟨#[39, 39]⟩ m w (by omega) hm (by decide) (by rw [show (⟨#[39, 39]⟩ : ByteArray).size = 2 from rfl]; omega)
  refine h.mono ?_
  rintro e w' ⟨rfl, b⟩
  refine ⟨?_, b⟩
  have e := replaceAll_one 39 [39, 39] t.data.toList (by decide)
  exact congrArg (fun l : List UInt8 => Ending.returned (.string ⟨l.toArray⟩)) e

set_option maxHeartbeats 1000000 in
theorem marked_0 (w : World) : Calls Tryz.prog 32 #[.iface 92 (.agg #[])] w fun e w' => e = .returned (.string (⟨#[110, 117, 108, 108]⟩)) ∧ Below w.heap.size w w' := by
  have hm : ∀ w : World, (method 365 92 (.agg #[]) "loop.example/jetton/impl.text").run Tryz.prog w = .ok (273, .agg #[]) w := fun _ => by kernel_rfl
  have ha3 : ∀ w : World, Sem.run Tryz.prog (Instr.typeAssert (.iface 92 (.agg #[])) 60 95 true) w = .ok (.tuple #[.int .i64 0, .bool false]) w := fun _ => by kernel_rfl
  have ha4 : ∀ w : World, Sem.run Tryz.prog (Instr.typeAssert (.iface 92 (.agg #[])) 60 96 true) w = .ok (.tuple #[.agg #[.int .i64 0, .int .i64 0], .bool false]) w := fun _ => by kernel_rfl
  have ha5 : ∀ w : World, Sem.run Tryz.prog (Instr.typeAssert (.iface 92 (.agg #[])) 60 97 true) w = .ok (.tuple #[.string ⟨#[]⟩, .bool false]) w := fun _ => by kernel_rfl
  have C := noneText w
  have C := hide C
  go_enter Tryz.func32, Tryz.ntmps32
  go_wp2_with fail
  refine (unhide C).mono ?_
  rintro e w1 ⟨rfl, b1⟩
  go_wp2
  go_ret
  exact ⟨rfl, b1⟩

set_option maxHeartbeats 1000000 in
theorem marked_1 (w : World) (y : Bool) : Calls Tryz.prog 32 #[.iface 93 (.bool y)] w fun e w' => e = .returned (.string (truT y)) ∧ Below w.heap.size w w' := by
  have hm : ∀ w : World, (method 365 93 (.bool y) "loop.example/jetton/impl.text").run Tryz.prog w = .ok (277, .bool y) w := fun _ => by kernel_rfl
  have ha3 : ∀ w : World, Sem.run Tryz.prog (Instr.typeAssert (.iface 93 (.bool y)) 60 95 true) w = .ok (.tuple #[.int .i64 0, .bool false]) w := fun _ => by kernel_rfl
  have ha4 : ∀ w : World, Sem.run Tryz.prog (Instr.typeAssert (.iface 93 (.bool y)) 60 96 true) w = .ok (.tuple #[.agg #[.int .i64 0, .int .i64 0], .bool false]) w := fun _ => by kernel_rfl
  have ha5 : ∀ w : World, Sem.run Tryz.prog (Instr.typeAssert (.iface 93 (.bool y)) 60 97 true) w = .ok (.tuple #[.string ⟨#[]⟩, .bool false]) w := fun _ => by kernel_rfl
  have C := boolText w y
  generalize truT y = T at *
  have C := hide C
  go_enter Tryz.func32, Tryz.ntmps32
  go_wp2_with fail
  refine (unhide C).mono ?_
  rintro e w1 ⟨rfl, b1⟩
  go_wp2
  go_ret
  exact ⟨rfl, b1⟩

set_option maxHeartbeats 1000000 in
theorem marked_2 (w : World) (n : Bool) (ao : Option Addr) (l : List Int) (cap : Nat) (sc : Int) (hr : Reads w (.slice ao l.length cap) l) (tt : Tab w) : Calls Tryz.prog 32 #[.iface 94 (.agg #[.bool n, .slice ao l.length cap, .int .i64 sc])] w fun e w' => e = .returned (.string (dputR n l sc)) ∧ Below w.heap.size w w' := by
  have hm : ∀ w : World, (method 365 94 (.agg #[.bool n, .slice ao l.length cap, .int .i64 sc]) "loop.example/jetton/impl.text").run Tryz.prog w = .ok (283, .agg #[.bool n, .slice ao l.length cap, .int .i64 sc]) w := fun _ => by kernel_rfl
  have ha3 : ∀ w : World, Sem.run Tryz.prog (Instr.typeAssert (.iface 94 (.agg #[.bool n, .slice ao l.length cap, .int .i64 sc])) 60 95 true) w = .ok (.tuple #[.int .i64 0, .bool false]) w := fun _ => by kernel_rfl
  have ha4 : ∀ w : World, Sem.run Tryz.prog (Instr.typeAssert (.iface 94 (.agg #[.bool n, .slice ao l.length cap, .int .i64 sc])) 60 96 true) w = .ok (.tuple #[.agg #[.int .i64 0, .int .i64 0], .bool false]) w := fun _ => by kernel_rfl
  have ha5 : ∀ w : World, Sem.run Tryz.prog (Instr.typeAssert (.iface 94 (.agg #[.bool n, .slice ao l.length cap, .int .i64 sc])) 60 97 true) w = .ok (.tuple #[.string ⟨#[]⟩, .bool false]) w := fun _ => by kernel_rfl
  have C := numText w n ao l cap sc hr tt
  generalize dputR n l sc = T at *
  have C := hide C
  clear hr
  go_enter Tryz.func32, Tryz.ntmps32
  go_wp2_with fail
  refine (unhide C).mono ?_
  rintro e w1 ⟨rfl, b1⟩
  go_wp2
  go_ret
  exact ⟨rfl, b1⟩

set_option maxHeartbeats 1000000 in
theorem marked_3 (w : World) (d : Int) (hz : ¬ (9223372036854775807 < 1 + (dayPutR d).size)) (tt : Tab w) : Calls Tryz.prog 32 #[.iface 95 (.int .i64 d)] w fun e w' => e = .returned (.string (⟨#[64]⟩ ++ dayPutR d)) ∧ Below w.heap.size w w' := by
  have hm : ∀ w : World, (method 365 95 (.int .i64 d) "loop.example/jetton/impl.text").run Tryz.prog w = .ok (300, .int .i64 d) w := fun _ => by kernel_rfl
  have ha3 : ∀ w : World, Sem.run Tryz.prog (Instr.typeAssert (.iface 95 (.int .i64 d)) 60 95 true) w = .ok (.tuple #[.int .i64 d, .bool true]) w := fun _ => by kernel_rfl
  have C := dayText w d tt
  generalize dayPutR d = T at *
  have C := hide C
  go_enter Tryz.func32, Tryz.ntmps32
  go_wp2_with fail
  refine (unhide C).mono ?_
  rintro e w1 ⟨rfl, b1⟩
  go_wp2
  go_ret
  exact ⟨rfl, b1⟩

set_option maxHeartbeats 1000000 in
theorem marked_4 (w : World) (mo da : Int) (hz : ¬ (9223372036854775807 < 1 + (spanPutR mo da).size)) (tt : Tab w) : Calls Tryz.prog 32 #[.iface 96 (.agg #[.int .i64 mo, .int .i64 da])] w fun e w' => e = .returned (.string (⟨#[35]⟩ ++ spanPutR mo da)) ∧ Below w.heap.size w w' := by
  have hm : ∀ w : World, (method 365 96 (.agg #[.int .i64 mo, .int .i64 da]) "loop.example/jetton/impl.text").run Tryz.prog w = .ok (304, .agg #[.int .i64 mo, .int .i64 da]) w := fun _ => by kernel_rfl
  have ha3 : ∀ w : World, Sem.run Tryz.prog (Instr.typeAssert (.iface 96 (.agg #[.int .i64 mo, .int .i64 da])) 60 95 true) w = .ok (.tuple #[.int .i64 0, .bool false]) w := fun _ => by kernel_rfl
  have ha4 : ∀ w : World, Sem.run Tryz.prog (Instr.typeAssert (.iface 96 (.agg #[.int .i64 mo, .int .i64 da])) 60 96 true) w = .ok (.tuple #[.agg #[.int .i64 mo, .int .i64 da], .bool true]) w := fun _ => by kernel_rfl
  have C := spanText w mo da tt
  generalize spanPutR mo da = T at *
  have C := hide C
  go_enter Tryz.func32, Tryz.ntmps32
  go_wp2_with fail
  refine (unhide C).mono ?_
  rintro e w1 ⟨rfl, b1⟩
  go_wp2
  go_ret
  exact ⟨rfl, b1⟩

set_option maxHeartbeats 1000000 in
theorem marked_5 (w : World) (t : ByteArray) (ht : t.size ≤ 100000) (mx : Mx w) : Calls Tryz.prog 32 #[.iface 97 (.string t)] w fun e w' => e = .returned (.string (quoteT t)) ∧ Below w.heap.size w w' := by
  have hm : ∀ w : World, (method 365 97 (.string t) "loop.example/jetton/impl.text").run Tryz.prog w = .ok (309, .string t) w := fun _ => by kernel_rfl
  have ha3 : ∀ w : World, Sem.run Tryz.prog (Instr.typeAssert (.iface 97 (.string t)) 60 95 true) w = .ok (.tuple #[.int .i64 0, .bool false]) w := fun _ => by kernel_rfl
  have ha4 : ∀ w : World, Sem.run Tryz.prog (Instr.typeAssert (.iface 97 (.string t)) 60 96 true) w = .ok (.tuple #[.agg #[.int .i64 0, .int .i64 0], .bool false]) w := fun _ => by kernel_rfl
  have ha5 : ∀ w : World, Sem.run Tryz.prog (Instr.typeAssert (.iface 97 (.string t)) 60 97 true) w = .ok (.tuple #[.string t, .bool true]) w := fun _ => by kernel_rfl
  have C := textText w t
  have CR := hide (fun W (b : Below w.heap.size w W) => repl_any W t ht (mx.later b))
  have hz1 : ¬ (9223372036854775807 < 1 + (repT t).size) := by have := repT_size t; omega
  have hz2 : ¬ (9223372036854775807 < 1 + (repT t).size + 1) := by have := repT_size t; omega
  have HQ := hide (quoteT_eq t)
  have C := hide C
  go_enter Tryz.func32, Tryz.ntmps32
  go_wp2_with fail
  refine (unhide C).mono ?_
  rintro e w1 ⟨rfl, b1⟩
  go_wp2_with fail
  refine (unhide CR _ b1).mono ?_
  rintro e w2 ⟨rfl, b2⟩
  go_wp2
  go_ret
  exact ⟨by rw [← unhide HQ]; rfl, b1.trans (b2.mono b1.size)⟩

end Go.Proofs.YtdklikicngmkbaaGreatDoor

namespace Go.Proofs.YtdklikicngmkbaaGreatDoor
open Go.RowKit
set_option maxRecDepth 100000
set_option linter.unusedSimpArgs false
set_option linter.unusedVariables false

/-- What ValuePut answers. -/
def valPutR (k : Int) (y n : Bool) (l : List Int) (sc d mo da : Int) (t : ByteArray) : ByteArray :=
  if valB k y n l sc d mo da t = true then putR k y n l sc d mo da t else ⟨#[]⟩

theorem valB_kind {k : Int} {y n : Bool} {l : List Int} {sc d mo da : Int} {t : ByteArray} (h : valB k y n l sc d mo da t = true) : k = 0 ∨ k = 1 ∨ k = 2 ∨ k = 3 ∨ k = 4 ∨ k = 5 := by
  refine Decidable.byContradiction fun hk => ?_
  unfold valB at h
  rw [if_neg (by omega), if_neg (by omega), if_neg (by omega), if_neg (by omega), if_neg (by omega), if_neg (by omega)] at h
  exact Bool.noConfusion h
theorem valB_2 {y n : Bool} {l : List Int} {sc d mo da : Int} {t : ByteArray} (h : valB 2 y n l sc d mo da t = true) : decB n l sc = true := by
  simp [valB] at h
  exact h.1
theorem valB_3 {y n : Bool} {l : List Int} {sc d mo da : Int} {t : ByteArray} (h : valB 3 y n l sc d mo da t = true) : 1 ≤ d ∧ d ≤ 3652059 := by
  simp [valB] at h
  exact h.1
theorem valB_4 {y n : Bool} {l : List Int} {sc d mo da : Int} {t : ByteArray} (h : valB 4 y n l sc d mo da t = true) : SpanIs mo da := by
  simp [valB] at h
  exact h.1
theorem valB_5 {y n : Bool} {l : List Int} {sc d mo da : Int} {t : ByteArray} (h : valB 5 y n l sc d mo da t = true) : t.size ≤ 12 := by
  simp [valB, textB] at h
  exact h.1.2

theorem implValuePut_no (w : World) (k : Int) (y n : Bool) (ao : Option Addr) (l : List Int) (cap : Nat) (sc d mo da : Int) (t : ByteArray) (ht : t.size ≤ maxLen) (hr : Reads w (.slice ao l.length cap) l) (tt : Tab w) (mx : Mx w) (hv : valB k y n l sc d mo da t = false) :
    Calls Tryz.prog 10 #[.agg #[.int .i64 k, .bool y, .bool n, .slice ao l.length cap, .int .i64 sc, .int .i64 d, .int .i64 mo, .int .i64 da, .string t]] w fun e w' => e = .returned (.string ⟨#[]⟩) ∧ Below w.heap.size w w' := by
  have CK := fun W (b : Below w.heap.size w W) => implValueOk_any W k y n ao l cap sc d mo da t ht (hr.later b) (tt.later b)
  simp only [hv] at CK
  clear hv hr
  have CK := hide CK
  have B0 : Below w.heap.size w (w.alloc (.cells #[.int .i64 k, .bool y, .bool n, .slice ao l.length cap, .int .i64 sc, .int .i64 d, .int .i64 mo, .int .i64 da, .string t] 31)) := (Below.refl _ _).alloc (Nat.le_refl _) _
  go_enter Tryz.func10, Tryz.ntmps10
  go_wp2_with fail
  refine (unhide CK _ B0).mono ?_
  rintro e w1 ⟨rfl, b1⟩
  go_wp2
  go_ret
  exact ⟨rfl, B0.trans (b1.mono B0.size)⟩

theorem implValuePut_0 (w : World) (y n : Bool) (ao : Option Addr) (l : List Int) (cap : Nat) (sc d mo da : Int) (t : ByteArray) (ht : t.size ≤ maxLen) (hr : Reads w (.slice ao l.length cap) l) (tt : Tab w) (mx : Mx w) (hv : valB 0 y n l sc d mo da t = true) :
    Calls Tryz.prog 10 #[.agg #[.int .i64 0, .bool y, .bool n, .slice ao l.length cap, .int .i64 sc, .int .i64 d, .int .i64 mo, .int .i64 da, .string t]] w fun e w' => e = .returned (.string (⟨#[110, 117, 108, 108]⟩)) ∧ Below w.heap.size w w' := by
  have CK := fun W (b : Below w.heap.size w W) => implValueOk_any W 0 y n ao l cap sc d mo da t ht (hr.later b) (tt.later b)
  simp only [hv] at CK
  have CO := hide (fun W => opened_0 W y n ao l.length cap sc d mo da t)
  have CM := fun W (b : Below w.heap.size w W) => marked_0 W
  have CM := hide CM
  have CK := hide CK
  clear hv
  have B0 : Below w.heap.size w (w.alloc (.cells #[.int .i64 0, .bool y, .bool n, .slice ao l.length cap, .int .i64 sc, .int .i64 d, .int .i64 mo, .int .i64 da, .string t] 31)) := (Below.refl _ _).alloc (Nat.le_refl _) _
  have z0 : w.heap.size < (w.alloc (.cells #[.int .i64 0, .bool y, .bool n, .slice ao l.length cap, .int .i64 sc, .int .i64 d, .int .i64 mo, .int .i64 da, .string t] 31)).heap.size := by simp
  have r0 : (w.alloc (.cells #[.int .i64 0, .bool y, .bool n, .slice ao l.length cap, .int .i64 sc, .int .i64 d, .int .i64 mo, .int .i64 da, .string t] 31)).cell? ⟨w.heap.size, 0, none⟩ = some (.int .i64 0) := by go_simp
  have r1 : (w.alloc (.cells #[.int .i64 0, .bool y, .bool n, .slice ao l.length cap, .int .i64 sc, .int .i64 d, .int .i64 mo, .int .i64 da, .string t] 31)).cell? ⟨w.heap.size, 1, none⟩ = some (.bool y) := by go_simp
  have r2 : (w.alloc (.cells #[.int .i64 0, .bool y, .bool n, .slice ao l.length cap, .int .i64 sc, .int .i64 d, .int .i64 mo, .int .i64 da, .string t] 31)).cell? ⟨w.heap.size, 2, none⟩ = some (.bool n) := by go_simp
  have r3 : (w.alloc (.cells #[.int .i64 0, .bool y, .bool n, .slice ao l.length cap, .int .i64 sc, .int .i64 d, .int .i64 mo, .int .i64 da, .string t] 31)).cell? ⟨w.heap.size, 3, none⟩ = some (.slice ao l.length cap) := by go_simp
  have r4 : (w.alloc (.cells #[.int .i64 0, .bool y, .bool n, .slice ao l.length cap, .int .i64 sc, .int .i64 d, .int .i64 mo, .int .i64 da, .string t] 31)).cell? ⟨w.heap.size, 4, none⟩ = some (.int .i64 sc) := by go_simp
  have r5 : (w.alloc (.cells #[.int .i64 0, .bool y, .bool n, .slice ao l.length cap, .int .i64 sc, .int .i64 d, .int .i64 mo, .int .i64 da, .string t] 31)).cell? ⟨w.heap.size, 5, none⟩ = some (.int .i64 d) := by go_simp
  have r6 : (w.alloc (.cells #[.int .i64 0, .bool y, .bool n, .slice ao l.length cap, .int .i64 sc, .int .i64 d, .int .i64 mo, .int .i64 da, .string t] 31)).cell? ⟨w.heap.size, 6, none⟩ = some (.int .i64 mo) := by go_simp
  have r7 : (w.alloc (.cells #[.int .i64 0, .bool y, .bool n, .slice ao l.length cap, .int .i64 sc, .int .i64 d, .int .i64 mo, .int .i64 da, .string t] 31)).cell? ⟨w.heap.size, 7, none⟩ = some (.int .i64 da) := by go_simp
  have r8 : (w.alloc (.cells #[.int .i64 0, .bool y, .bool n, .slice ao l.length cap, .int .i64 sc, .int .i64 d, .int .i64 mo, .int .i64 da, .string t] 31)).cell? ⟨w.heap.size, 8, none⟩ = some (.string t) := by go_simp
  go_enter Tryz.func10, Tryz.ntmps10
  go_wp2_with fail
  refine (unhide CK _ B0).mono ?_
  rintro e w1 ⟨rfl, b1⟩
  have B1 := B0.trans (b1.mono B0.size)
  have zr := Nat.lt_of_lt_of_le z0 b1.size
  have q0 := cell_later b1 r0
  have q1 := cell_later b1 r1
  have q2 := cell_later b1 r2
  have q3 := cell_later b1 r3
  have q4 := cell_later b1 r4
  have q5 := cell_later b1 r5
  have q6 := cell_later b1 r6
  have q7 := cell_later b1 r7
  have q8 := cell_later b1 r8
  clear r0 r1 r2 r3 r4 r5 r6 r7 r8 z0 B0 b1 CK
  go_wp2_with fail
  refine (unhide CO _).mono ?_
  rintro e w2 ⟨rfl, b2⟩
  have B2 := B1.trans (b2.mono B1.size)
  clear b2 CO
  go_wp2_with fail
  refine (unhide CM _ (B2.alloc B2.size _)).mono ?_
  rintro e w3 ⟨rfl, b3⟩
  have B3 : Below w.heap.size w w3 := (B2.alloc B2.size _).trans (b3.mono (B2.alloc B2.size _).size)
  go_wp2
  go_ret
  exact ⟨rfl, B3⟩

theorem implValuePut_1 (w : World) (y n : Bool) (ao : Option Addr) (l : List Int) (cap : Nat) (sc d mo da : Int) (t : ByteArray) (ht : t.size ≤ maxLen) (hr : Reads w (.slice ao l.length cap) l) (tt : Tab w) (mx : Mx w) (hv : valB 1 y n l sc d mo da t = true) :
    Calls Tryz.prog 10 #[.agg #[.int .i64 1, .bool y, .bool n, .slice ao l.length cap, .int .i64 sc, .int .i64 d, .int .i64 mo, .int .i64 da, .string t]] w fun e w' => e = .returned (.string (truT y)) ∧ Below w.heap.size w w' := by
  have CK := fun W (b : Below w.heap.size w W) => implValueOk_any W 1 y n ao l cap sc d mo da t ht (hr.later b) (tt.later b)
  simp only [hv] at CK
  have CO := hide (fun W => opened_1 W y n ao l.length cap sc d mo da t)
  have CM := fun W (b : Below w.heap.size w W) => marked_1 W y
  generalize truT y = T at *
  have CM := hide CM
  have CK := hide CK
  clear hv
  have B0 : Below w.heap.size w (w.alloc (.cells #[.int .i64 1, .bool y, .bool n, .slice ao l.length cap, .int .i64 sc, .int .i64 d, .int .i64 mo, .int .i64 da, .string t] 31)) := (Below.refl _ _).alloc (Nat.le_refl _) _
  have z0 : w.heap.size < (w.alloc (.cells #[.int .i64 1, .bool y, .bool n, .slice ao l.length cap, .int .i64 sc, .int .i64 d, .int .i64 mo, .int .i64 da, .string t] 31)).heap.size := by simp
  have r0 : (w.alloc (.cells #[.int .i64 1, .bool y, .bool n, .slice ao l.length cap, .int .i64 sc, .int .i64 d, .int .i64 mo, .int .i64 da, .string t] 31)).cell? ⟨w.heap.size, 0, none⟩ = some (.int .i64 1) := by go_simp
  have r1 : (w.alloc (.cells #[.int .i64 1, .bool y, .bool n, .slice ao l.length cap, .int .i64 sc, .int .i64 d, .int .i64 mo, .int .i64 da, .string t] 31)).cell? ⟨w.heap.size, 1, none⟩ = some (.bool y) := by go_simp
  have r2 : (w.alloc (.cells #[.int .i64 1, .bool y, .bool n, .slice ao l.length cap, .int .i64 sc, .int .i64 d, .int .i64 mo, .int .i64 da, .string t] 31)).cell? ⟨w.heap.size, 2, none⟩ = some (.bool n) := by go_simp
  have r3 : (w.alloc (.cells #[.int .i64 1, .bool y, .bool n, .slice ao l.length cap, .int .i64 sc, .int .i64 d, .int .i64 mo, .int .i64 da, .string t] 31)).cell? ⟨w.heap.size, 3, none⟩ = some (.slice ao l.length cap) := by go_simp
  have r4 : (w.alloc (.cells #[.int .i64 1, .bool y, .bool n, .slice ao l.length cap, .int .i64 sc, .int .i64 d, .int .i64 mo, .int .i64 da, .string t] 31)).cell? ⟨w.heap.size, 4, none⟩ = some (.int .i64 sc) := by go_simp
  have r5 : (w.alloc (.cells #[.int .i64 1, .bool y, .bool n, .slice ao l.length cap, .int .i64 sc, .int .i64 d, .int .i64 mo, .int .i64 da, .string t] 31)).cell? ⟨w.heap.size, 5, none⟩ = some (.int .i64 d) := by go_simp
  have r6 : (w.alloc (.cells #[.int .i64 1, .bool y, .bool n, .slice ao l.length cap, .int .i64 sc, .int .i64 d, .int .i64 mo, .int .i64 da, .string t] 31)).cell? ⟨w.heap.size, 6, none⟩ = some (.int .i64 mo) := by go_simp
  have r7 : (w.alloc (.cells #[.int .i64 1, .bool y, .bool n, .slice ao l.length cap, .int .i64 sc, .int .i64 d, .int .i64 mo, .int .i64 da, .string t] 31)).cell? ⟨w.heap.size, 7, none⟩ = some (.int .i64 da) := by go_simp
  have r8 : (w.alloc (.cells #[.int .i64 1, .bool y, .bool n, .slice ao l.length cap, .int .i64 sc, .int .i64 d, .int .i64 mo, .int .i64 da, .string t] 31)).cell? ⟨w.heap.size, 8, none⟩ = some (.string t) := by go_simp
  go_enter Tryz.func10, Tryz.ntmps10
  go_wp2_with fail
  refine (unhide CK _ B0).mono ?_
  rintro e w1 ⟨rfl, b1⟩
  have B1 := B0.trans (b1.mono B0.size)
  have zr := Nat.lt_of_lt_of_le z0 b1.size
  have q0 := cell_later b1 r0
  have q1 := cell_later b1 r1
  have q2 := cell_later b1 r2
  have q3 := cell_later b1 r3
  have q4 := cell_later b1 r4
  have q5 := cell_later b1 r5
  have q6 := cell_later b1 r6
  have q7 := cell_later b1 r7
  have q8 := cell_later b1 r8
  clear r0 r1 r2 r3 r4 r5 r6 r7 r8 z0 B0 b1 CK
  go_wp2_with fail
  refine (unhide CO _).mono ?_
  rintro e w2 ⟨rfl, b2⟩
  have B2 := B1.trans (b2.mono B1.size)
  clear b2 CO
  go_wp2_with fail
  refine (unhide CM _ (B2.alloc B2.size _)).mono ?_
  rintro e w3 ⟨rfl, b3⟩
  have B3 : Below w.heap.size w w3 := (B2.alloc B2.size _).trans (b3.mono (B2.alloc B2.size _).size)
  go_wp2
  go_ret
  exact ⟨rfl, B3⟩

theorem implValuePut_2 (w : World) (y n : Bool) (ao : Option Addr) (l : List Int) (cap : Nat) (sc d mo da : Int) (t : ByteArray) (ht : t.size ≤ maxLen) (hr : Reads w (.slice ao l.length cap) l) (tt : Tab w) (mx : Mx w) (hv : valB 2 y n l sc d mo da t = true) :
    Calls Tryz.prog 10 #[.agg #[.int .i64 2, .bool y, .bool n, .slice ao l.length cap, .int .i64 sc, .int .i64 d, .int .i64 mo, .int .i64 da, .string t]] w fun e w' => e = .returned (.string (decT n l sc.toNat)) ∧ Below w.heap.size w w' := by
  have hq := valB_2 hv
  have he : dputR n l sc = decT n l sc.toNat := by unfold dputR; rw [if_pos hq]
  have CK := fun W (b : Below w.heap.size w W) => implValueOk_any W 2 y n ao l cap sc d mo da t ht (hr.later b) (tt.later b)
  simp only [hv] at CK
  have CO := hide (fun W => opened_2 W y n ao l.length cap sc d mo da t)
  have CM := fun W (b : Below w.heap.size w W) => marked_2 W n ao l cap sc (hr.later b) (tt.later b)
  simp only [he] at CM
  generalize decT n l sc.toNat = T at *
  have CM := hide CM
  have CK := hide CK
  clear hv
  have B0 : Below w.heap.size w (w.alloc (.cells #[.int .i64 2, .bool y, .bool n, .slice ao l.length cap, .int .i64 sc, .int .i64 d, .int .i64 mo, .int .i64 da, .string t] 31)) := (Below.refl _ _).alloc (Nat.le_refl _) _
  have z0 : w.heap.size < (w.alloc (.cells #[.int .i64 2, .bool y, .bool n, .slice ao l.length cap, .int .i64 sc, .int .i64 d, .int .i64 mo, .int .i64 da, .string t] 31)).heap.size := by simp
  have r0 : (w.alloc (.cells #[.int .i64 2, .bool y, .bool n, .slice ao l.length cap, .int .i64 sc, .int .i64 d, .int .i64 mo, .int .i64 da, .string t] 31)).cell? ⟨w.heap.size, 0, none⟩ = some (.int .i64 2) := by go_simp
  have r1 : (w.alloc (.cells #[.int .i64 2, .bool y, .bool n, .slice ao l.length cap, .int .i64 sc, .int .i64 d, .int .i64 mo, .int .i64 da, .string t] 31)).cell? ⟨w.heap.size, 1, none⟩ = some (.bool y) := by go_simp
  have r2 : (w.alloc (.cells #[.int .i64 2, .bool y, .bool n, .slice ao l.length cap, .int .i64 sc, .int .i64 d, .int .i64 mo, .int .i64 da, .string t] 31)).cell? ⟨w.heap.size, 2, none⟩ = some (.bool n) := by go_simp
  have r3 : (w.alloc (.cells #[.int .i64 2, .bool y, .bool n, .slice ao l.length cap, .int .i64 sc, .int .i64 d, .int .i64 mo, .int .i64 da, .string t] 31)).cell? ⟨w.heap.size, 3, none⟩ = some (.slice ao l.length cap) := by go_simp
  have r4 : (w.alloc (.cells #[.int .i64 2, .bool y, .bool n, .slice ao l.length cap, .int .i64 sc, .int .i64 d, .int .i64 mo, .int .i64 da, .string t] 31)).cell? ⟨w.heap.size, 4, none⟩ = some (.int .i64 sc) := by go_simp
  have r5 : (w.alloc (.cells #[.int .i64 2, .bool y, .bool n, .slice ao l.length cap, .int .i64 sc, .int .i64 d, .int .i64 mo, .int .i64 da, .string t] 31)).cell? ⟨w.heap.size, 5, none⟩ = some (.int .i64 d) := by go_simp
  have r6 : (w.alloc (.cells #[.int .i64 2, .bool y, .bool n, .slice ao l.length cap, .int .i64 sc, .int .i64 d, .int .i64 mo, .int .i64 da, .string t] 31)).cell? ⟨w.heap.size, 6, none⟩ = some (.int .i64 mo) := by go_simp
  have r7 : (w.alloc (.cells #[.int .i64 2, .bool y, .bool n, .slice ao l.length cap, .int .i64 sc, .int .i64 d, .int .i64 mo, .int .i64 da, .string t] 31)).cell? ⟨w.heap.size, 7, none⟩ = some (.int .i64 da) := by go_simp
  have r8 : (w.alloc (.cells #[.int .i64 2, .bool y, .bool n, .slice ao l.length cap, .int .i64 sc, .int .i64 d, .int .i64 mo, .int .i64 da, .string t] 31)).cell? ⟨w.heap.size, 8, none⟩ = some (.string t) := by go_simp
  go_enter Tryz.func10, Tryz.ntmps10
  go_wp2_with fail
  refine (unhide CK _ B0).mono ?_
  rintro e w1 ⟨rfl, b1⟩
  have B1 := B0.trans (b1.mono B0.size)
  have zr := Nat.lt_of_lt_of_le z0 b1.size
  have q0 := cell_later b1 r0
  have q1 := cell_later b1 r1
  have q2 := cell_later b1 r2
  have q3 := cell_later b1 r3
  have q4 := cell_later b1 r4
  have q5 := cell_later b1 r5
  have q6 := cell_later b1 r6
  have q7 := cell_later b1 r7
  have q8 := cell_later b1 r8
  clear r0 r1 r2 r3 r4 r5 r6 r7 r8 z0 B0 b1 CK
  go_wp2_with fail
  refine (unhide CO _).mono ?_
  rintro e w2 ⟨rfl, b2⟩
  have B2 := B1.trans (b2.mono B1.size)
  clear b2 CO
  go_wp2_with fail
  refine (unhide CM _ (B2.alloc B2.size _)).mono ?_
  rintro e w3 ⟨rfl, b3⟩
  have B3 : Below w.heap.size w w3 := (B2.alloc B2.size _).trans (b3.mono (B2.alloc B2.size _).size)
  go_wp2
  go_ret
  exact ⟨rfl, B3⟩

theorem implValuePut_3 (w : World) (y n : Bool) (ao : Option Addr) (l : List Int) (cap : Nat) (sc d mo da : Int) (t : ByteArray) (ht : t.size ≤ maxLen) (hr : Reads w (.slice ao l.length cap) l) (tt : Tab w) (mx : Mx w) (hv : valB 3 y n l sc d mo da t = true) :
    Calls Tryz.prog 10 #[.agg #[.int .i64 3, .bool y, .bool n, .slice ao l.length cap, .int .i64 sc, .int .i64 d, .int .i64 mo, .int .i64 da, .string t]] w fun e w' => e = .returned (.string (⟨#[64]⟩ ++ dayT d)) ∧ Below w.heap.size w w' := by
  have hq := valB_3 hv
  have he : dayPutR d = dayT d := by unfold dayPutR; rw [if_pos (show IsDay d from ⟨hq.1, hq.2⟩)]
  have CK := fun W (b : Below w.heap.size w W) => implValueOk_any W 3 y n ao l cap sc d mo da t ht (hr.later b) (tt.later b)
  simp only [hv] at CK
  have CO := hide (fun W => opened_3 W y n ao l.length cap sc d mo da t)
  have CM := fun W (b : Below w.heap.size w W) => marked_3 W d (by rw [he]; have := dayT_small hq.1 hq.2; omega) (tt.later b)
  simp only [he] at CM
  generalize (⟨#[64]⟩ : ByteArray) ++ dayT d = T at *
  have CM := hide CM
  have CK := hide CK
  clear hv
  have B0 : Below w.heap.size w (w.alloc (.cells #[.int .i64 3, .bool y, .bool n, .slice ao l.length cap, .int .i64 sc, .int .i64 d, .int .i64 mo, .int .i64 da, .string t] 31)) := (Below.refl _ _).alloc (Nat.le_refl _) _
  have z0 : w.heap.size < (w.alloc (.cells #[.int .i64 3, .bool y, .bool n, .slice ao l.length cap, .int .i64 sc, .int .i64 d, .int .i64 mo, .int .i64 da, .string t] 31)).heap.size := by simp
  have r0 : (w.alloc (.cells #[.int .i64 3, .bool y, .bool n, .slice ao l.length cap, .int .i64 sc, .int .i64 d, .int .i64 mo, .int .i64 da, .string t] 31)).cell? ⟨w.heap.size, 0, none⟩ = some (.int .i64 3) := by go_simp
  have r1 : (w.alloc (.cells #[.int .i64 3, .bool y, .bool n, .slice ao l.length cap, .int .i64 sc, .int .i64 d, .int .i64 mo, .int .i64 da, .string t] 31)).cell? ⟨w.heap.size, 1, none⟩ = some (.bool y) := by go_simp
  have r2 : (w.alloc (.cells #[.int .i64 3, .bool y, .bool n, .slice ao l.length cap, .int .i64 sc, .int .i64 d, .int .i64 mo, .int .i64 da, .string t] 31)).cell? ⟨w.heap.size, 2, none⟩ = some (.bool n) := by go_simp
  have r3 : (w.alloc (.cells #[.int .i64 3, .bool y, .bool n, .slice ao l.length cap, .int .i64 sc, .int .i64 d, .int .i64 mo, .int .i64 da, .string t] 31)).cell? ⟨w.heap.size, 3, none⟩ = some (.slice ao l.length cap) := by go_simp
  have r4 : (w.alloc (.cells #[.int .i64 3, .bool y, .bool n, .slice ao l.length cap, .int .i64 sc, .int .i64 d, .int .i64 mo, .int .i64 da, .string t] 31)).cell? ⟨w.heap.size, 4, none⟩ = some (.int .i64 sc) := by go_simp
  have r5 : (w.alloc (.cells #[.int .i64 3, .bool y, .bool n, .slice ao l.length cap, .int .i64 sc, .int .i64 d, .int .i64 mo, .int .i64 da, .string t] 31)).cell? ⟨w.heap.size, 5, none⟩ = some (.int .i64 d) := by go_simp
  have r6 : (w.alloc (.cells #[.int .i64 3, .bool y, .bool n, .slice ao l.length cap, .int .i64 sc, .int .i64 d, .int .i64 mo, .int .i64 da, .string t] 31)).cell? ⟨w.heap.size, 6, none⟩ = some (.int .i64 mo) := by go_simp
  have r7 : (w.alloc (.cells #[.int .i64 3, .bool y, .bool n, .slice ao l.length cap, .int .i64 sc, .int .i64 d, .int .i64 mo, .int .i64 da, .string t] 31)).cell? ⟨w.heap.size, 7, none⟩ = some (.int .i64 da) := by go_simp
  have r8 : (w.alloc (.cells #[.int .i64 3, .bool y, .bool n, .slice ao l.length cap, .int .i64 sc, .int .i64 d, .int .i64 mo, .int .i64 da, .string t] 31)).cell? ⟨w.heap.size, 8, none⟩ = some (.string t) := by go_simp
  go_enter Tryz.func10, Tryz.ntmps10
  go_wp2_with fail
  refine (unhide CK _ B0).mono ?_
  rintro e w1 ⟨rfl, b1⟩
  have B1 := B0.trans (b1.mono B0.size)
  have zr := Nat.lt_of_lt_of_le z0 b1.size
  have q0 := cell_later b1 r0
  have q1 := cell_later b1 r1
  have q2 := cell_later b1 r2
  have q3 := cell_later b1 r3
  have q4 := cell_later b1 r4
  have q5 := cell_later b1 r5
  have q6 := cell_later b1 r6
  have q7 := cell_later b1 r7
  have q8 := cell_later b1 r8
  clear r0 r1 r2 r3 r4 r5 r6 r7 r8 z0 B0 b1 CK
  go_wp2_with fail
  refine (unhide CO _).mono ?_
  rintro e w2 ⟨rfl, b2⟩
  have B2 := B1.trans (b2.mono B1.size)
  clear b2 CO
  go_wp2_with fail
  refine (unhide CM _ (B2.alloc B2.size _)).mono ?_
  rintro e w3 ⟨rfl, b3⟩
  have B3 : Below w.heap.size w w3 := (B2.alloc B2.size _).trans (b3.mono (B2.alloc B2.size _).size)
  go_wp2
  go_ret
  exact ⟨rfl, B3⟩

theorem implValuePut_4 (w : World) (y n : Bool) (ao : Option Addr) (l : List Int) (cap : Nat) (sc d mo da : Int) (t : ByteArray) (ht : t.size ≤ maxLen) (hr : Reads w (.slice ao l.length cap) l) (tt : Tab w) (mx : Mx w) (hv : valB 4 y n l sc d mo da t = true) :
    Calls Tryz.prog 10 #[.agg #[.int .i64 4, .bool y, .bool n, .slice ao l.length cap, .int .i64 sc, .int .i64 d, .int .i64 mo, .int .i64 da, .string t]] w fun e w' => e = .returned (.string (⟨#[35]⟩ ++ spanT mo da)) ∧ Below w.heap.size w w' := by
  have hq := valB_4 hv
  have he : spanPutR mo da = spanT mo da := by unfold spanPutR; rw [if_pos hq]
  have CK := fun W (b : Below w.heap.size w W) => implValueOk_any W 4 y n ao l cap sc d mo da t ht (hr.later b) (tt.later b)
  simp only [hv] at CK
  have CO := hide (fun W => opened_4 W y n ao l.length cap sc d mo da t)
  have CM := fun W (b : Below w.heap.size w W) => marked_4 W mo da (by rw [he]; have := spanT_little hq; omega) (tt.later b)
  simp only [he] at CM
  generalize (⟨#[35]⟩ : ByteArray) ++ spanT mo da = T at *
  have CM := hide CM
  have CK := hide CK
  clear hv
  have B0 : Below w.heap.size w (w.alloc (.cells #[.int .i64 4, .bool y, .bool n, .slice ao l.length cap, .int .i64 sc, .int .i64 d, .int .i64 mo, .int .i64 da, .string t] 31)) := (Below.refl _ _).alloc (Nat.le_refl _) _
  have z0 : w.heap.size < (w.alloc (.cells #[.int .i64 4, .bool y, .bool n, .slice ao l.length cap, .int .i64 sc, .int .i64 d, .int .i64 mo, .int .i64 da, .string t] 31)).heap.size := by simp
  have r0 : (w.alloc (.cells #[.int .i64 4, .bool y, .bool n, .slice ao l.length cap, .int .i64 sc, .int .i64 d, .int .i64 mo, .int .i64 da, .string t] 31)).cell? ⟨w.heap.size, 0, none⟩ = some (.int .i64 4) := by go_simp
  have r1 : (w.alloc (.cells #[.int .i64 4, .bool y, .bool n, .slice ao l.length cap, .int .i64 sc, .int .i64 d, .int .i64 mo, .int .i64 da, .string t] 31)).cell? ⟨w.heap.size, 1, none⟩ = some (.bool y) := by go_simp
  have r2 : (w.alloc (.cells #[.int .i64 4, .bool y, .bool n, .slice ao l.length cap, .int .i64 sc, .int .i64 d, .int .i64 mo, .int .i64 da, .string t] 31)).cell? ⟨w.heap.size, 2, none⟩ = some (.bool n) := by go_simp
  have r3 : (w.alloc (.cells #[.int .i64 4, .bool y, .bool n, .slice ao l.length cap, .int .i64 sc, .int .i64 d, .int .i64 mo, .int .i64 da, .string t] 31)).cell? ⟨w.heap.size, 3, none⟩ = some (.slice ao l.length cap) := by go_simp
  have r4 : (w.alloc (.cells #[.int .i64 4, .bool y, .bool n, .slice ao l.length cap, .int .i64 sc, .int .i64 d, .int .i64 mo, .int .i64 da, .string t] 31)).cell? ⟨w.heap.size, 4, none⟩ = some (.int .i64 sc) := by go_simp
  have r5 : (w.alloc (.cells #[.int .i64 4, .bool y, .bool n, .slice ao l.length cap, .int .i64 sc, .int .i64 d, .int .i64 mo, .int .i64 da, .string t] 31)).cell? ⟨w.heap.size, 5, none⟩ = some (.int .i64 d) := by go_simp
  have r6 : (w.alloc (.cells #[.int .i64 4, .bool y, .bool n, .slice ao l.length cap, .int .i64 sc, .int .i64 d, .int .i64 mo, .int .i64 da, .string t] 31)).cell? ⟨w.heap.size, 6, none⟩ = some (.int .i64 mo) := by go_simp
  have r7 : (w.alloc (.cells #[.int .i64 4, .bool y, .bool n, .slice ao l.length cap, .int .i64 sc, .int .i64 d, .int .i64 mo, .int .i64 da, .string t] 31)).cell? ⟨w.heap.size, 7, none⟩ = some (.int .i64 da) := by go_simp
  have r8 : (w.alloc (.cells #[.int .i64 4, .bool y, .bool n, .slice ao l.length cap, .int .i64 sc, .int .i64 d, .int .i64 mo, .int .i64 da, .string t] 31)).cell? ⟨w.heap.size, 8, none⟩ = some (.string t) := by go_simp
  go_enter Tryz.func10, Tryz.ntmps10
  go_wp2_with fail
  refine (unhide CK _ B0).mono ?_
  rintro e w1 ⟨rfl, b1⟩
  have B1 := B0.trans (b1.mono B0.size)
  have zr := Nat.lt_of_lt_of_le z0 b1.size
  have q0 := cell_later b1 r0
  have q1 := cell_later b1 r1
  have q2 := cell_later b1 r2
  have q3 := cell_later b1 r3
  have q4 := cell_later b1 r4
  have q5 := cell_later b1 r5
  have q6 := cell_later b1 r6
  have q7 := cell_later b1 r7
  have q8 := cell_later b1 r8
  clear r0 r1 r2 r3 r4 r5 r6 r7 r8 z0 B0 b1 CK
  go_wp2_with fail
  refine (unhide CO _).mono ?_
  rintro e w2 ⟨rfl, b2⟩
  have B2 := B1.trans (b2.mono B1.size)
  clear b2 CO
  go_wp2_with fail
  refine (unhide CM _ (B2.alloc B2.size _)).mono ?_
  rintro e w3 ⟨rfl, b3⟩
  have B3 : Below w.heap.size w w3 := (B2.alloc B2.size _).trans (b3.mono (B2.alloc B2.size _).size)
  go_wp2
  go_ret
  exact ⟨rfl, B3⟩

theorem implValuePut_5 (w : World) (y n : Bool) (ao : Option Addr) (l : List Int) (cap : Nat) (sc d mo da : Int) (t : ByteArray) (ht : t.size ≤ maxLen) (hr : Reads w (.slice ao l.length cap) l) (tt : Tab w) (mx : Mx w) (hv : valB 5 y n l sc d mo da t = true) :
    Calls Tryz.prog 10 #[.agg #[.int .i64 5, .bool y, .bool n, .slice ao l.length cap, .int .i64 sc, .int .i64 d, .int .i64 mo, .int .i64 da, .string t]] w fun e w' => e = .returned (.string (quoteT t)) ∧ Below w.heap.size w w' := by
  have hq := valB_5 hv
  have CK := fun W (b : Below w.heap.size w W) => implValueOk_any W 5 y n ao l cap sc d mo da t ht (hr.later b) (tt.later b)
  simp only [hv] at CK
  have CO := hide (fun W => opened_5 W y n ao l.length cap sc d mo da t)
  have CM := fun W (b : Below w.heap.size w W) => marked_5 W t (by omega) (mx.later b)
  generalize quoteT t = T at *
  have CM := hide CM
  have CK := hide CK
  clear hv
  have B0 : Below w.heap.size w (w.alloc (.cells #[.int .i64 5, .bool y, .bool n, .slice ao l.length cap, .int .i64 sc, .int .i64 d, .int .i64 mo, .int .i64 da, .string t] 31)) := (Below.refl _ _).alloc (Nat.le_refl _) _
  have z0 : w.heap.size < (w.alloc (.cells #[.int .i64 5, .bool y, .bool n, .slice ao l.length cap, .int .i64 sc, .int .i64 d, .int .i64 mo, .int .i64 da, .string t] 31)).heap.size := by simp
  have r0 : (w.alloc (.cells #[.int .i64 5, .bool y, .bool n, .slice ao l.length cap, .int .i64 sc, .int .i64 d, .int .i64 mo, .int .i64 da, .string t] 31)).cell? ⟨w.heap.size, 0, none⟩ = some (.int .i64 5) := by go_simp
  have r1 : (w.alloc (.cells #[.int .i64 5, .bool y, .bool n, .slice ao l.length cap, .int .i64 sc, .int .i64 d, .int .i64 mo, .int .i64 da, .string t] 31)).cell? ⟨w.heap.size, 1, none⟩ = some (.bool y) := by go_simp
  have r2 : (w.alloc (.cells #[.int .i64 5, .bool y, .bool n, .slice ao l.length cap, .int .i64 sc, .int .i64 d, .int .i64 mo, .int .i64 da, .string t] 31)).cell? ⟨w.heap.size, 2, none⟩ = some (.bool n) := by go_simp
  have r3 : (w.alloc (.cells #[.int .i64 5, .bool y, .bool n, .slice ao l.length cap, .int .i64 sc, .int .i64 d, .int .i64 mo, .int .i64 da, .string t] 31)).cell? ⟨w.heap.size, 3, none⟩ = some (.slice ao l.length cap) := by go_simp
  have r4 : (w.alloc (.cells #[.int .i64 5, .bool y, .bool n, .slice ao l.length cap, .int .i64 sc, .int .i64 d, .int .i64 mo, .int .i64 da, .string t] 31)).cell? ⟨w.heap.size, 4, none⟩ = some (.int .i64 sc) := by go_simp
  have r5 : (w.alloc (.cells #[.int .i64 5, .bool y, .bool n, .slice ao l.length cap, .int .i64 sc, .int .i64 d, .int .i64 mo, .int .i64 da, .string t] 31)).cell? ⟨w.heap.size, 5, none⟩ = some (.int .i64 d) := by go_simp
  have r6 : (w.alloc (.cells #[.int .i64 5, .bool y, .bool n, .slice ao l.length cap, .int .i64 sc, .int .i64 d, .int .i64 mo, .int .i64 da, .string t] 31)).cell? ⟨w.heap.size, 6, none⟩ = some (.int .i64 mo) := by go_simp
  have r7 : (w.alloc (.cells #[.int .i64 5, .bool y, .bool n, .slice ao l.length cap, .int .i64 sc, .int .i64 d, .int .i64 mo, .int .i64 da, .string t] 31)).cell? ⟨w.heap.size, 7, none⟩ = some (.int .i64 da) := by go_simp
  have r8 : (w.alloc (.cells #[.int .i64 5, .bool y, .bool n, .slice ao l.length cap, .int .i64 sc, .int .i64 d, .int .i64 mo, .int .i64 da, .string t] 31)).cell? ⟨w.heap.size, 8, none⟩ = some (.string t) := by go_simp
  go_enter Tryz.func10, Tryz.ntmps10
  go_wp2_with fail
  refine (unhide CK _ B0).mono ?_
  rintro e w1 ⟨rfl, b1⟩
  have B1 := B0.trans (b1.mono B0.size)
  have zr := Nat.lt_of_lt_of_le z0 b1.size
  have q0 := cell_later b1 r0
  have q1 := cell_later b1 r1
  have q2 := cell_later b1 r2
  have q3 := cell_later b1 r3
  have q4 := cell_later b1 r4
  have q5 := cell_later b1 r5
  have q6 := cell_later b1 r6
  have q7 := cell_later b1 r7
  have q8 := cell_later b1 r8
  clear r0 r1 r2 r3 r4 r5 r6 r7 r8 z0 B0 b1 CK
  go_wp2_with fail
  refine (unhide CO _).mono ?_
  rintro e w2 ⟨rfl, b2⟩
  have B2 := B1.trans (b2.mono B1.size)
  clear b2 CO
  go_wp2_with fail
  refine (unhide CM _ (B2.alloc B2.size _)).mono ?_
  rintro e w3 ⟨rfl, b3⟩
  have B3 : Below w.heap.size w w3 := (B2.alloc B2.size _).trans (b3.mono (B2.alloc B2.size _).size)
  go_wp2
  go_ret
  exact ⟨rfl, B3⟩

theorem implValuePut_any (w : World) (k : Int) (y n : Bool) (ao : Option Addr) (l : List Int) (cap : Nat) (sc d mo da : Int) (t : ByteArray) (ht : t.size ≤ maxLen) (hr : Reads w (.slice ao l.length cap) l) (tt : Tab w) (mx : Mx w) :
    Calls Tryz.prog 10 #[.agg #[.int .i64 k, .bool y, .bool n, .slice ao l.length cap, .int .i64 sc, .int .i64 d, .int .i64 mo, .int .i64 da, .string t]] w fun e w' => e = .returned (.string (valPutR k y n l sc d mo da t)) ∧ Below w.heap.size w w' := by
  unfold valPutR
  cases hv : valB k y n l sc d mo da t
  · rw [if_neg (by simp)]
    exact implValuePut_no w k y n ao l cap sc d mo da t ht hr tt mx hv
  · rw [if_pos rfl]
    unfold putR
    rcases valB_kind hv with rfl | rfl | rfl | rfl | rfl | rfl
    · exact implValuePut_0 w y n ao l cap sc d mo da t ht hr tt mx hv
    · exact implValuePut_1 w y n ao l cap sc d mo da t ht hr tt mx hv
    · exact implValuePut_2 w y n ao l cap sc d mo da t ht hr tt mx hv
    · exact implValuePut_3 w y n ao l cap sc d mo da t ht hr tt mx hv
    · exact implValuePut_4 w y n ao l cap sc d mo da t ht hr tt mx hv
    · exact implValuePut_5 w y n ao l cap sc d mo da t ht hr tt mx hv

theorem specValuePut_no (w : World) (k : Int) (y n : Bool) (ao : Option Addr) (l : List Int) (cap : Nat) (sc d mo da : Int) (t : ByteArray) (ht : t.size ≤ maxLen) (hr : Reads w (.slice ao l.length cap) l) (hv : valB k y n l sc d mo da t = false) :
    Calls Tryz.prog 11 #[.agg #[.int .i64 k, .bool y, .bool n, .slice ao l.length cap, .int .i64 sc, .int .i64 d, .int .i64 mo, .int .i64 da, .string t]] w fun e w' => e = .returned (.string ⟨#[]⟩) ∧ Below w.heap.size w w' := by
  have CK := fun W (b : Below w.heap.size w W) => specL4Ok_any W k y n ao l cap sc d mo da t ht (hr.later b)
  simp only [hv] at CK
  clear hv hr
  have CK := hide CK
  have B0 : Below w.heap.size w (w.alloc (.cells #[.int .i64 k, .bool y, .bool n, .slice ao l.length cap, .int .i64 sc, .int .i64 d, .int .i64 mo, .int .i64 da, .string t] 31)) := (Below.refl _ _).alloc (Nat.le_refl _) _
  go_enter Tryz.func11, Tryz.ntmps11
  go_wp2_with fail
  refine (unhide CK _ B0).mono ?_
  rintro e w1 ⟨rfl, b1⟩
  go_wp2
  go_ret
  exact ⟨rfl, B0.trans (b1.mono B0.size)⟩

theorem specValuePut_0 (w : World) (y n : Bool) (ao : Option Addr) (l : List Int) (cap : Nat) (sc d mo da : Int) (t : ByteArray) (ht : t.size ≤ maxLen) (hr : Reads w (.slice ao l.length cap) l) (hv : valB 0 y n l sc d mo da t = true) :
    Calls Tryz.prog 11 #[.agg #[.int .i64 0, .bool y, .bool n, .slice ao l.length cap, .int .i64 sc, .int .i64 d, .int .i64 mo, .int .i64 da, .string t]] w fun e w' => e = .returned (.string (⟨#[110, 117, 108, 108]⟩)) ∧ Below w.heap.size w w' := by
  have CK := fun W (b : Below w.heap.size w W) => specL4Ok_any W 0 y n ao l cap sc d mo da t ht (hr.later b)
  simp only [hv] at CK
  have CM := fun W (b : Below w.heap.size w W) => l4Put_0 W y n ao l cap sc d mo da t 
  have CM := hide CM
  have CK := hide CK
  clear hv
  have B0 : Below w.heap.size w (w.alloc (.cells #[.int .i64 0, .bool y, .bool n, .slice ao l.length cap, .int .i64 sc, .int .i64 d, .int .i64 mo, .int .i64 da, .string t] 31)) := (Below.refl _ _).alloc (Nat.le_refl _) _
  have z0 : w.heap.size < (w.alloc (.cells #[.int .i64 0, .bool y, .bool n, .slice ao l.length cap, .int .i64 sc, .int .i64 d, .int .i64 mo, .int .i64 da, .string t] 31)).heap.size := by simp
  have r0 : (w.alloc (.cells #[.int .i64 0, .bool y, .bool n, .slice ao l.length cap, .int .i64 sc, .int .i64 d, .int .i64 mo, .int .i64 da, .string t] 31)).cell? ⟨w.heap.size, 0, none⟩ = some (.int .i64 0) := by go_simp
  have r1 : (w.alloc (.cells #[.int .i64 0, .bool y, .bool n, .slice ao l.length cap, .int .i64 sc, .int .i64 d, .int .i64 mo, .int .i64 da, .string t] 31)).cell? ⟨w.heap.size, 1, none⟩ = some (.bool y) := by go_simp
  have r2 : (w.alloc (.cells #[.int .i64 0, .bool y, .bool n, .slice ao l.length cap, .int .i64 sc, .int .i64 d, .int .i64 mo, .int .i64 da, .string t] 31)).cell? ⟨w.heap.size, 2, none⟩ = some (.bool n) := by go_simp
  have r3 : (w.alloc (.cells #[.int .i64 0, .bool y, .bool n, .slice ao l.length cap, .int .i64 sc, .int .i64 d, .int .i64 mo, .int .i64 da, .string t] 31)).cell? ⟨w.heap.size, 3, none⟩ = some (.slice ao l.length cap) := by go_simp
  have r4 : (w.alloc (.cells #[.int .i64 0, .bool y, .bool n, .slice ao l.length cap, .int .i64 sc, .int .i64 d, .int .i64 mo, .int .i64 da, .string t] 31)).cell? ⟨w.heap.size, 4, none⟩ = some (.int .i64 sc) := by go_simp
  have r5 : (w.alloc (.cells #[.int .i64 0, .bool y, .bool n, .slice ao l.length cap, .int .i64 sc, .int .i64 d, .int .i64 mo, .int .i64 da, .string t] 31)).cell? ⟨w.heap.size, 5, none⟩ = some (.int .i64 d) := by go_simp
  have r6 : (w.alloc (.cells #[.int .i64 0, .bool y, .bool n, .slice ao l.length cap, .int .i64 sc, .int .i64 d, .int .i64 mo, .int .i64 da, .string t] 31)).cell? ⟨w.heap.size, 6, none⟩ = some (.int .i64 mo) := by go_simp
  have r7 : (w.alloc (.cells #[.int .i64 0, .bool y, .bool n, .slice ao l.length cap, .int .i64 sc, .int .i64 d, .int .i64 mo, .int .i64 da, .string t] 31)).cell? ⟨w.heap.size, 7, none⟩ = some (.int .i64 da) := by go_simp
  have r8 : (w.alloc (.cells #[.int .i64 0, .bool y, .bool n, .slice ao l.length cap, .int .i64 sc, .int .i64 d, .int .i64 mo, .int .i64 da, .string t] 31)).cell? ⟨w.heap.size, 8, none⟩ = some (.string t) := by go_simp
  go_enter Tryz.func11, Tryz.ntmps11
  go_wp2_with fail
  refine (unhide CK _ B0).mono ?_
  rintro e w1 ⟨rfl, b1⟩
  have B1 := B0.trans (b1.mono B0.size)
  have zr := Nat.lt_of_lt_of_le z0 b1.size
  have q0 := cell_later b1 r0
  have q1 := cell_later b1 r1
  have q2 := cell_later b1 r2
  have q3 := cell_later b1 r3
  have q4 := cell_later b1 r4
  have q5 := cell_later b1 r5
  have q6 := cell_later b1 r6
  have q7 := cell_later b1 r7
  have q8 := cell_later b1 r8
  clear r0 r1 r2 r3 r4 r5 r6 r7 r8 z0 B0 b1 CK
  go_wp2_with fail
  refine (unhide CM _ B1).mono ?_
  rintro e w2 ⟨rfl, b2⟩
  have B2 := B1.trans (b2.mono B1.size)
  go_wp2
  go_ret
  exact ⟨rfl, B2⟩

theorem specValuePut_1 (w : World) (y n : Bool) (ao : Option Addr) (l : List Int) (cap : Nat) (sc d mo da : Int) (t : ByteArray) (ht : t.size ≤ maxLen) (hr : Reads w (.slice ao l.length cap) l) (hv : valB 1 y n l sc d mo da t = true) :
    Calls Tryz.prog 11 #[.agg #[.int .i64 1, .bool y, .bool n, .slice ao l.length cap, .int .i64 sc, .int .i64 d, .int .i64 mo, .int .i64 da, .string t]] w fun e w' => e = .returned (.string (truT y)) ∧ Below w.heap.size w w' := by
  have CK := fun W (b : Below w.heap.size w W) => specL4Ok_any W 1 y n ao l cap sc d mo da t ht (hr.later b)
  simp only [hv] at CK
  have CM := fun W (b : Below w.heap.size w W) => l4Put_1 W y n ao l cap sc d mo da t 
  generalize truT y = T at *
  have CM := hide CM
  have CK := hide CK
  clear hv
  have B0 : Below w.heap.size w (w.alloc (.cells #[.int .i64 1, .bool y, .bool n, .slice ao l.length cap, .int .i64 sc, .int .i64 d, .int .i64 mo, .int .i64 da, .string t] 31)) := (Below.refl _ _).alloc (Nat.le_refl _) _
  have z0 : w.heap.size < (w.alloc (.cells #[.int .i64 1, .bool y, .bool n, .slice ao l.length cap, .int .i64 sc, .int .i64 d, .int .i64 mo, .int .i64 da, .string t] 31)).heap.size := by simp
  have r0 : (w.alloc (.cells #[.int .i64 1, .bool y, .bool n, .slice ao l.length cap, .int .i64 sc, .int .i64 d, .int .i64 mo, .int .i64 da, .string t] 31)).cell? ⟨w.heap.size, 0, none⟩ = some (.int .i64 1) := by go_simp
  have r1 : (w.alloc (.cells #[.int .i64 1, .bool y, .bool n, .slice ao l.length cap, .int .i64 sc, .int .i64 d, .int .i64 mo, .int .i64 da, .string t] 31)).cell? ⟨w.heap.size, 1, none⟩ = some (.bool y) := by go_simp
  have r2 : (w.alloc (.cells #[.int .i64 1, .bool y, .bool n, .slice ao l.length cap, .int .i64 sc, .int .i64 d, .int .i64 mo, .int .i64 da, .string t] 31)).cell? ⟨w.heap.size, 2, none⟩ = some (.bool n) := by go_simp
  have r3 : (w.alloc (.cells #[.int .i64 1, .bool y, .bool n, .slice ao l.length cap, .int .i64 sc, .int .i64 d, .int .i64 mo, .int .i64 da, .string t] 31)).cell? ⟨w.heap.size, 3, none⟩ = some (.slice ao l.length cap) := by go_simp
  have r4 : (w.alloc (.cells #[.int .i64 1, .bool y, .bool n, .slice ao l.length cap, .int .i64 sc, .int .i64 d, .int .i64 mo, .int .i64 da, .string t] 31)).cell? ⟨w.heap.size, 4, none⟩ = some (.int .i64 sc) := by go_simp
  have r5 : (w.alloc (.cells #[.int .i64 1, .bool y, .bool n, .slice ao l.length cap, .int .i64 sc, .int .i64 d, .int .i64 mo, .int .i64 da, .string t] 31)).cell? ⟨w.heap.size, 5, none⟩ = some (.int .i64 d) := by go_simp
  have r6 : (w.alloc (.cells #[.int .i64 1, .bool y, .bool n, .slice ao l.length cap, .int .i64 sc, .int .i64 d, .int .i64 mo, .int .i64 da, .string t] 31)).cell? ⟨w.heap.size, 6, none⟩ = some (.int .i64 mo) := by go_simp
  have r7 : (w.alloc (.cells #[.int .i64 1, .bool y, .bool n, .slice ao l.length cap, .int .i64 sc, .int .i64 d, .int .i64 mo, .int .i64 da, .string t] 31)).cell? ⟨w.heap.size, 7, none⟩ = some (.int .i64 da) := by go_simp
  have r8 : (w.alloc (.cells #[.int .i64 1, .bool y, .bool n, .slice ao l.length cap, .int .i64 sc, .int .i64 d, .int .i64 mo, .int .i64 da, .string t] 31)).cell? ⟨w.heap.size, 8, none⟩ = some (.string t) := by go_simp
  go_enter Tryz.func11, Tryz.ntmps11
  go_wp2_with fail
  refine (unhide CK _ B0).mono ?_
  rintro e w1 ⟨rfl, b1⟩
  have B1 := B0.trans (b1.mono B0.size)
  have zr := Nat.lt_of_lt_of_le z0 b1.size
  have q0 := cell_later b1 r0
  have q1 := cell_later b1 r1
  have q2 := cell_later b1 r2
  have q3 := cell_later b1 r3
  have q4 := cell_later b1 r4
  have q5 := cell_later b1 r5
  have q6 := cell_later b1 r6
  have q7 := cell_later b1 r7
  have q8 := cell_later b1 r8
  clear r0 r1 r2 r3 r4 r5 r6 r7 r8 z0 B0 b1 CK
  go_wp2_with fail
  refine (unhide CM _ B1).mono ?_
  rintro e w2 ⟨rfl, b2⟩
  have B2 := B1.trans (b2.mono B1.size)
  go_wp2
  go_ret
  exact ⟨rfl, B2⟩

theorem specValuePut_2 (w : World) (y n : Bool) (ao : Option Addr) (l : List Int) (cap : Nat) (sc d mo da : Int) (t : ByteArray) (ht : t.size ≤ maxLen) (hr : Reads w (.slice ao l.length cap) l) (hv : valB 2 y n l sc d mo da t = true) :
    Calls Tryz.prog 11 #[.agg #[.int .i64 2, .bool y, .bool n, .slice ao l.length cap, .int .i64 sc, .int .i64 d, .int .i64 mo, .int .i64 da, .string t]] w fun e w' => e = .returned (.string (decT n l sc.toNat)) ∧ Below w.heap.size w w' := by
  have hq := valB_2 hv
  have CK := fun W (b : Below w.heap.size w W) => specL4Ok_any W 2 y n ao l cap sc d mo da t ht (hr.later b)
  simp only [hv] at CK
  have CM := fun W (b : Below w.heap.size w W) => l4Put_2 W y n ao l cap sc d mo da t (hr.later b) hq
  generalize decT n l sc.toNat = T at *
  have CM := hide CM
  have CK := hide CK
  clear hv
  have B0 : Below w.heap.size w (w.alloc (.cells #[.int .i64 2, .bool y, .bool n, .slice ao l.length cap, .int .i64 sc, .int .i64 d, .int .i64 mo, .int .i64 da, .string t] 31)) := (Below.refl _ _).alloc (Nat.le_refl _) _
  have z0 : w.heap.size < (w.alloc (.cells #[.int .i64 2, .bool y, .bool n, .slice ao l.length cap, .int .i64 sc, .int .i64 d, .int .i64 mo, .int .i64 da, .string t] 31)).heap.size := by simp
  have r0 : (w.alloc (.cells #[.int .i64 2, .bool y, .bool n, .slice ao l.length cap, .int .i64 sc, .int .i64 d, .int .i64 mo, .int .i64 da, .string t] 31)).cell? ⟨w.heap.size, 0, none⟩ = some (.int .i64 2) := by go_simp
  have r1 : (w.alloc (.cells #[.int .i64 2, .bool y, .bool n, .slice ao l.length cap, .int .i64 sc, .int .i64 d, .int .i64 mo, .int .i64 da, .string t] 31)).cell? ⟨w.heap.size, 1, none⟩ = some (.bool y) := by go_simp
  have r2 : (w.alloc (.cells #[.int .i64 2, .bool y, .bool n, .slice ao l.length cap, .int .i64 sc, .int .i64 d, .int .i64 mo, .int .i64 da, .string t] 31)).cell? ⟨w.heap.size, 2, none⟩ = some (.bool n) := by go_simp
  have r3 : (w.alloc (.cells #[.int .i64 2, .bool y, .bool n, .slice ao l.length cap, .int .i64 sc, .int .i64 d, .int .i64 mo, .int .i64 da, .string t] 31)).cell? ⟨w.heap.size, 3, none⟩ = some (.slice ao l.length cap) := by go_simp
  have r4 : (w.alloc (.cells #[.int .i64 2, .bool y, .bool n, .slice ao l.length cap, .int .i64 sc, .int .i64 d, .int .i64 mo, .int .i64 da, .string t] 31)).cell? ⟨w.heap.size, 4, none⟩ = some (.int .i64 sc) := by go_simp
  have r5 : (w.alloc (.cells #[.int .i64 2, .bool y, .bool n, .slice ao l.length cap, .int .i64 sc, .int .i64 d, .int .i64 mo, .int .i64 da, .string t] 31)).cell? ⟨w.heap.size, 5, none⟩ = some (.int .i64 d) := by go_simp
  have r6 : (w.alloc (.cells #[.int .i64 2, .bool y, .bool n, .slice ao l.length cap, .int .i64 sc, .int .i64 d, .int .i64 mo, .int .i64 da, .string t] 31)).cell? ⟨w.heap.size, 6, none⟩ = some (.int .i64 mo) := by go_simp
  have r7 : (w.alloc (.cells #[.int .i64 2, .bool y, .bool n, .slice ao l.length cap, .int .i64 sc, .int .i64 d, .int .i64 mo, .int .i64 da, .string t] 31)).cell? ⟨w.heap.size, 7, none⟩ = some (.int .i64 da) := by go_simp
  have r8 : (w.alloc (.cells #[.int .i64 2, .bool y, .bool n, .slice ao l.length cap, .int .i64 sc, .int .i64 d, .int .i64 mo, .int .i64 da, .string t] 31)).cell? ⟨w.heap.size, 8, none⟩ = some (.string t) := by go_simp
  go_enter Tryz.func11, Tryz.ntmps11
  go_wp2_with fail
  refine (unhide CK _ B0).mono ?_
  rintro e w1 ⟨rfl, b1⟩
  have B1 := B0.trans (b1.mono B0.size)
  have zr := Nat.lt_of_lt_of_le z0 b1.size
  have q0 := cell_later b1 r0
  have q1 := cell_later b1 r1
  have q2 := cell_later b1 r2
  have q3 := cell_later b1 r3
  have q4 := cell_later b1 r4
  have q5 := cell_later b1 r5
  have q6 := cell_later b1 r6
  have q7 := cell_later b1 r7
  have q8 := cell_later b1 r8
  clear r0 r1 r2 r3 r4 r5 r6 r7 r8 z0 B0 b1 CK
  go_wp2_with fail
  refine (unhide CM _ B1).mono ?_
  rintro e w2 ⟨rfl, b2⟩
  have B2 := B1.trans (b2.mono B1.size)
  go_wp2
  go_ret
  exact ⟨rfl, B2⟩

theorem specValuePut_3 (w : World) (y n : Bool) (ao : Option Addr) (l : List Int) (cap : Nat) (sc d mo da : Int) (t : ByteArray) (ht : t.size ≤ maxLen) (hr : Reads w (.slice ao l.length cap) l) (hv : valB 3 y n l sc d mo da t = true) :
    Calls Tryz.prog 11 #[.agg #[.int .i64 3, .bool y, .bool n, .slice ao l.length cap, .int .i64 sc, .int .i64 d, .int .i64 mo, .int .i64 da, .string t]] w fun e w' => e = .returned (.string (⟨#[64]⟩ ++ dayT d)) ∧ Below w.heap.size w w' := by
  have hq := valB_3 hv
  have CK := fun W (b : Below w.heap.size w W) => specL4Ok_any W 3 y n ao l cap sc d mo da t ht (hr.later b)
  simp only [hv] at CK
  have CM := fun W (b : Below w.heap.size w W) => l4Put_3 W y n ao l cap sc d mo da t hq.1 hq.2
  generalize (⟨#[64]⟩ : ByteArray) ++ dayT d = T at *
  have CM := hide CM
  have CK := hide CK
  clear hv
  have B0 : Below w.heap.size w (w.alloc (.cells #[.int .i64 3, .bool y, .bool n, .slice ao l.length cap, .int .i64 sc, .int .i64 d, .int .i64 mo, .int .i64 da, .string t] 31)) := (Below.refl _ _).alloc (Nat.le_refl _) _
  have z0 : w.heap.size < (w.alloc (.cells #[.int .i64 3, .bool y, .bool n, .slice ao l.length cap, .int .i64 sc, .int .i64 d, .int .i64 mo, .int .i64 da, .string t] 31)).heap.size := by simp
  have r0 : (w.alloc (.cells #[.int .i64 3, .bool y, .bool n, .slice ao l.length cap, .int .i64 sc, .int .i64 d, .int .i64 mo, .int .i64 da, .string t] 31)).cell? ⟨w.heap.size, 0, none⟩ = some (.int .i64 3) := by go_simp
  have r1 : (w.alloc (.cells #[.int .i64 3, .bool y, .bool n, .slice ao l.length cap, .int .i64 sc, .int .i64 d, .int .i64 mo, .int .i64 da, .string t] 31)).cell? ⟨w.heap.size, 1, none⟩ = some (.bool y) := by go_simp
  have r2 : (w.alloc (.cells #[.int .i64 3, .bool y, .bool n, .slice ao l.length cap, .int .i64 sc, .int .i64 d, .int .i64 mo, .int .i64 da, .string t] 31)).cell? ⟨w.heap.size, 2, none⟩ = some (.bool n) := by go_simp
  have r3 : (w.alloc (.cells #[.int .i64 3, .bool y, .bool n, .slice ao l.length cap, .int .i64 sc, .int .i64 d, .int .i64 mo, .int .i64 da, .string t] 31)).cell? ⟨w.heap.size, 3, none⟩ = some (.slice ao l.length cap) := by go_simp
  have r4 : (w.alloc (.cells #[.int .i64 3, .bool y, .bool n, .slice ao l.length cap, .int .i64 sc, .int .i64 d, .int .i64 mo, .int .i64 da, .string t] 31)).cell? ⟨w.heap.size, 4, none⟩ = some (.int .i64 sc) := by go_simp
  have r5 : (w.alloc (.cells #[.int .i64 3, .bool y, .bool n, .slice ao l.length cap, .int .i64 sc, .int .i64 d, .int .i64 mo, .int .i64 da, .string t] 31)).cell? ⟨w.heap.size, 5, none⟩ = some (.int .i64 d) := by go_simp
  have r6 : (w.alloc (.cells #[.int .i64 3, .bool y, .bool n, .slice ao l.length cap, .int .i64 sc, .int .i64 d, .int .i64 mo, .int .i64 da, .string t] 31)).cell? ⟨w.heap.size, 6, none⟩ = some (.int .i64 mo) := by go_simp
  have r7 : (w.alloc (.cells #[.int .i64 3, .bool y, .bool n, .slice ao l.length cap, .int .i64 sc, .int .i64 d, .int .i64 mo, .int .i64 da, .string t] 31)).cell? ⟨w.heap.size, 7, none⟩ = some (.int .i64 da) := by go_simp
  have r8 : (w.alloc (.cells #[.int .i64 3, .bool y, .bool n, .slice ao l.length cap, .int .i64 sc, .int .i64 d, .int .i64 mo, .int .i64 da, .string t] 31)).cell? ⟨w.heap.size, 8, none⟩ = some (.string t) := by go_simp
  go_enter Tryz.func11, Tryz.ntmps11
  go_wp2_with fail
  refine (unhide CK _ B0).mono ?_
  rintro e w1 ⟨rfl, b1⟩
  have B1 := B0.trans (b1.mono B0.size)
  have zr := Nat.lt_of_lt_of_le z0 b1.size
  have q0 := cell_later b1 r0
  have q1 := cell_later b1 r1
  have q2 := cell_later b1 r2
  have q3 := cell_later b1 r3
  have q4 := cell_later b1 r4
  have q5 := cell_later b1 r5
  have q6 := cell_later b1 r6
  have q7 := cell_later b1 r7
  have q8 := cell_later b1 r8
  clear r0 r1 r2 r3 r4 r5 r6 r7 r8 z0 B0 b1 CK
  go_wp2_with fail
  refine (unhide CM _ B1).mono ?_
  rintro e w2 ⟨rfl, b2⟩
  have B2 := B1.trans (b2.mono B1.size)
  go_wp2
  go_ret
  exact ⟨rfl, B2⟩

theorem specValuePut_4 (w : World) (y n : Bool) (ao : Option Addr) (l : List Int) (cap : Nat) (sc d mo da : Int) (t : ByteArray) (ht : t.size ≤ maxLen) (hr : Reads w (.slice ao l.length cap) l) (hv : valB 4 y n l sc d mo da t = true) :
    Calls Tryz.prog 11 #[.agg #[.int .i64 4, .bool y, .bool n, .slice ao l.length cap, .int .i64 sc, .int .i64 d, .int .i64 mo, .int .i64 da, .string t]] w fun e w' => e = .returned (.string (⟨#[35]⟩ ++ spanT mo da)) ∧ Below w.heap.size w w' := by
  have hq := valB_4 hv
  have CK := fun W (b : Below w.heap.size w W) => specL4Ok_any W 4 y n ao l cap sc d mo da t ht (hr.later b)
  simp only [hv] at CK
  have CM := fun W (b : Below w.heap.size w W) => l4Put_4 W y n ao l cap sc d mo da t hq
  generalize (⟨#[35]⟩ : ByteArray) ++ spanT mo da = T at *
  have CM := hide CM
  have CK := hide CK
  clear hv
  have B0 : Below w.heap.size w (w.alloc (.cells #[.int .i64 4, .bool y, .bool n, .slice ao l.length cap, .int .i64 sc, .int .i64 d, .int .i64 mo, .int .i64 da, .string t] 31)) := (Below.refl _ _).alloc (Nat.le_refl _) _
  have z0 : w.heap.size < (w.alloc (.cells #[.int .i64 4, .bool y, .bool n, .slice ao l.length cap, .int .i64 sc, .int .i64 d, .int .i64 mo, .int .i64 da, .string t] 31)).heap.size := by simp
  have r0 : (w.alloc (.cells #[.int .i64 4, .bool y, .bool n, .slice ao l.length cap, .int .i64 sc, .int .i64 d, .int .i64 mo, .int .i64 da, .string t] 31)).cell? ⟨w.heap.size, 0, none⟩ = some (.int .i64 4) := by go_simp
  have r1 : (w.alloc (.cells #[.int .i64 4, .bool y, .bool n, .slice ao l.length cap, .int .i64 sc, .int .i64 d, .int .i64 mo, .int .i64 da, .string t] 31)).cell? ⟨w.heap.size, 1, none⟩ = some (.bool y) := by go_simp
  have r2 : (w.alloc (.cells #[.int .i64 4, .bool y, .bool n, .slice ao l.length cap, .int .i64 sc, .int .i64 d, .int .i64 mo, .int .i64 da, .string t] 31)).cell? ⟨w.heap.size, 2, none⟩ = some (.bool n) := by go_simp
  have r3 : (w.alloc (.cells #[.int .i64 4, .bool y, .bool n, .slice ao l.length cap, .int .i64 sc, .int .i64 d, .int .i64 mo, .int .i64 da, .string t] 31)).cell? ⟨w.heap.size, 3, none⟩ = some (.slice ao l.length cap) := by go_simp
  have r4 : (w.alloc (.cells #[.int .i64 4, .bool y, .bool n, .slice ao l.length cap, .int .i64 sc, .int .i64 d, .int .i64 mo, .int .i64 da, .string t] 31)).cell? ⟨w.heap.size, 4, none⟩ = some (.int .i64 sc) := by go_simp
  have r5 : (w.alloc (.cells #[.int .i64 4, .bool y, .bool n, .slice ao l.length cap, .int .i64 sc, .int .i64 d, .int .i64 mo, .int .i64 da, .string t] 31)).cell? ⟨w.heap.size, 5, none⟩ = some (.int .i64 d) := by go_simp
  have r6 : (w.alloc (.cells #[.int .i64 4, .bool y, .bool n, .slice ao l.length cap, .int .i64 sc, .int .i64 d, .int .i64 mo, .int .i64 da, .string t] 31)).cell? ⟨w.heap.size, 6, none⟩ = some (.int .i64 mo) := by go_simp
  have r7 : (w.alloc (.cells #[.int .i64 4, .bool y, .bool n, .slice ao l.length cap, .int .i64 sc, .int .i64 d, .int .i64 mo, .int .i64 da, .string t] 31)).cell? ⟨w.heap.size, 7, none⟩ = some (.int .i64 da) := by go_simp
  have r8 : (w.alloc (.cells #[.int .i64 4, .bool y, .bool n, .slice ao l.length cap, .int .i64 sc, .int .i64 d, .int .i64 mo, .int .i64 da, .string t] 31)).cell? ⟨w.heap.size, 8, none⟩ = some (.string t) := by go_simp
  go_enter Tryz.func11, Tryz.ntmps11
  go_wp2_with fail
  refine (unhide CK _ B0).mono ?_
  rintro e w1 ⟨rfl, b1⟩
  have B1 := B0.trans (b1.mono B0.size)
  have zr := Nat.lt_of_lt_of_le z0 b1.size
  have q0 := cell_later b1 r0
  have q1 := cell_later b1 r1
  have q2 := cell_later b1 r2
  have q3 := cell_later b1 r3
  have q4 := cell_later b1 r4
  have q5 := cell_later b1 r5
  have q6 := cell_later b1 r6
  have q7 := cell_later b1 r7
  have q8 := cell_later b1 r8
  clear r0 r1 r2 r3 r4 r5 r6 r7 r8 z0 B0 b1 CK
  go_wp2_with fail
  refine (unhide CM _ B1).mono ?_
  rintro e w2 ⟨rfl, b2⟩
  have B2 := B1.trans (b2.mono B1.size)
  go_wp2
  go_ret
  exact ⟨rfl, B2⟩

theorem specValuePut_5 (w : World) (y n : Bool) (ao : Option Addr) (l : List Int) (cap : Nat) (sc d mo da : Int) (t : ByteArray) (ht : t.size ≤ maxLen) (hr : Reads w (.slice ao l.length cap) l) (hv : valB 5 y n l sc d mo da t = true) :
    Calls Tryz.prog 11 #[.agg #[.int .i64 5, .bool y, .bool n, .slice ao l.length cap, .int .i64 sc, .int .i64 d, .int .i64 mo, .int .i64 da, .string t]] w fun e w' => e = .returned (.string (quoteT t)) ∧ Below w.heap.size w w' := by
  have hq := valB_5 hv
  have CK := fun W (b : Below w.heap.size w W) => specL4Ok_any W 5 y n ao l cap sc d mo da t ht (hr.later b)
  simp only [hv] at CK
  have CM := fun W (b : Below w.heap.size w W) => l4Put_5 W y n ao l cap sc d mo da t (by omega)
  generalize quoteT t = T at *
  have CM := hide CM
  have CK := hide CK
  clear hv
  have B0 : Below w.heap.size w (w.alloc (.cells #[.int .i64 5, .bool y, .bool n, .slice ao l.length cap, .int .i64 sc, .int .i64 d, .int .i64 mo, .int .i64 da, .string t] 31)) := (Below.refl _ _).alloc (Nat.le_refl _) _
  have z0 : w.heap.size < (w.alloc (.cells #[.int .i64 5, .bool y, .bool n, .slice ao l.length cap, .int .i64 sc, .int .i64 d, .int .i64 mo, .int .i64 da, .string t] 31)).heap.size := by simp
  have r0 : (w.alloc (.cells #[.int .i64 5, .bool y, .bool n, .slice ao l.length cap, .int .i64 sc, .int .i64 d, .int .i64 mo, .int .i64 da, .string t] 31)).cell? ⟨w.heap.size, 0, none⟩ = some (.int .i64 5) := by go_simp
  have r1 : (w.alloc (.cells #[.int .i64 5, .bool y, .bool n, .slice ao l.length cap, .int .i64 sc, .int .i64 d, .int .i64 mo, .int .i64 da, .string t] 31)).cell? ⟨w.heap.size, 1, none⟩ = some (.bool y) := by go_simp
  have r2 : (w.alloc (.cells #[.int .i64 5, .bool y, .bool n, .slice ao l.length cap, .int .i64 sc, .int .i64 d, .int .i64 mo, .int .i64 da, .string t] 31)).cell? ⟨w.heap.size, 2, none⟩ = some (.bool n) := by go_simp
  have r3 : (w.alloc (.cells #[.int .i64 5, .bool y, .bool n, .slice ao l.length cap, .int .i64 sc, .int .i64 d, .int .i64 mo, .int .i64 da, .string t] 31)).cell? ⟨w.heap.size, 3, none⟩ = some (.slice ao l.length cap) := by go_simp
  have r4 : (w.alloc (.cells #[.int .i64 5, .bool y, .bool n, .slice ao l.length cap, .int .i64 sc, .int .i64 d, .int .i64 mo, .int .i64 da, .string t] 31)).cell? ⟨w.heap.size, 4, none⟩ = some (.int .i64 sc) := by go_simp
  have r5 : (w.alloc (.cells #[.int .i64 5, .bool y, .bool n, .slice ao l.length cap, .int .i64 sc, .int .i64 d, .int .i64 mo, .int .i64 da, .string t] 31)).cell? ⟨w.heap.size, 5, none⟩ = some (.int .i64 d) := by go_simp
  have r6 : (w.alloc (.cells #[.int .i64 5, .bool y, .bool n, .slice ao l.length cap, .int .i64 sc, .int .i64 d, .int .i64 mo, .int .i64 da, .string t] 31)).cell? ⟨w.heap.size, 6, none⟩ = some (.int .i64 mo) := by go_simp
  have r7 : (w.alloc (.cells #[.int .i64 5, .bool y, .bool n, .slice ao l.length cap, .int .i64 sc, .int .i64 d, .int .i64 mo, .int .i64 da, .string t] 31)).cell? ⟨w.heap.size, 7, none⟩ = some (.int .i64 da) := by go_simp
  have r8 : (w.alloc (.cells #[.int .i64 5, .bool y, .bool n, .slice ao l.length cap, .int .i64 sc, .int .i64 d, .int .i64 mo, .int .i64 da, .string t] 31)).cell? ⟨w.heap.size, 8, none⟩ = some (.string t) := by go_simp
  go_enter Tryz.func11, Tryz.ntmps11
  go_wp2_with fail
  refine (unhide CK _ B0).mono ?_
  rintro e w1 ⟨rfl, b1⟩
  have B1 := B0.trans (b1.mono B0.size)
  have zr := Nat.lt_of_lt_of_le z0 b1.size
  have q0 := cell_later b1 r0
  have q1 := cell_later b1 r1
  have q2 := cell_later b1 r2
  have q3 := cell_later b1 r3
  have q4 := cell_later b1 r4
  have q5 := cell_later b1 r5
  have q6 := cell_later b1 r6
  have q7 := cell_later b1 r7
  have q8 := cell_later b1 r8
  clear r0 r1 r2 r3 r4 r5 r6 r7 r8 z0 B0 b1 CK
  go_wp2_with fail
  refine (unhide CM _ B1).mono ?_
  rintro e w2 ⟨rfl, b2⟩
  have B2 := B1.trans (b2.mono B1.size)
  go_wp2
  go_ret
  exact ⟨rfl, B2⟩

theorem specValuePut_any (w : World) (k : Int) (y n : Bool) (ao : Option Addr) (l : List Int) (cap : Nat) (sc d mo da : Int) (t : ByteArray) (ht : t.size ≤ maxLen) (hr : Reads w (.slice ao l.length cap) l) :
    Calls Tryz.prog 11 #[.agg #[.int .i64 k, .bool y, .bool n, .slice ao l.length cap, .int .i64 sc, .int .i64 d, .int .i64 mo, .int .i64 da, .string t]] w fun e w' => e = .returned (.string (valPutR k y n l sc d mo da t)) ∧ Below w.heap.size w w' := by
  unfold valPutR
  cases hv : valB k y n l sc d mo da t
  · rw [if_neg (by simp)]
    exact specValuePut_no w k y n ao l cap sc d mo da t ht hr hv
  · rw [if_pos rfl]
    unfold putR
    rcases valB_kind hv with rfl | rfl | rfl | rfl | rfl | rfl
    · exact specValuePut_0 w y n ao l cap sc d mo da t ht hr hv
    · exact specValuePut_1 w y n ao l cap sc d mo da t ht hr hv
    · exact specValuePut_2 w y n ao l cap sc d mo da t ht hr hv
    · exact specValuePut_3 w y n ao l cap sc d mo da t ht hr hv
    · exact specValuePut_4 w y n ao l cap sc d mo da t ht hr hv
    · exact specValuePut_5 w y n ao l cap sc d mo da t ht hr hv

end Go.Proofs.YtdklikicngmkbaaGreatDoor
