/- What a value says, as a text: the methods of the program, by contracts. -/
import Derived.Test.YtdklikicngmkbaaGreatDoorG15
import Derived.Test.YtdklikicngmkbaaGreatDoorVlB
import Derived.Test.YtdklikicngmkbaaGreatDoorSgD0
namespace Go.Proofs.YtdklikicngmkbaaGreatDoor
open Go.RowKit
set_option maxRecDepth 100000
set_option linter.unusedSimpArgs false
set_option linter.unusedVariables false

theorem dayText (w : World) (d : Int) (tt : Tab w) : Calls Tryz.prog 300 #[.int .i64 d] w fun e w' => e = .returned (.string (dayPutR d)) ∧ Below w.heap.size w w' := by
  have C := hide (fun W (b : Below w.heap.size w W) => implDayPut_any W d (tt.later b))
  go_enter Tryz.func300, Tryz.ntmps300
  go_wp2_with fail
  refine (unhide C _ (by first | exact Below.refl _ _ | exact (Below.refl _ _).alloc (Nat.le_refl _) _)).mono ?_
  rintro e w1 ⟨rfl, b1⟩
  go_wp2
  go_ret
  exact ⟨rfl, by first | exact b1 | exact ((Below.refl _ _).alloc (Nat.le_refl _) _).trans (b1.mono (by simp))⟩

theorem spanText (w : World) (mo da : Int) (tt : Tab w) : Calls Tryz.prog 304 #[.agg #[.int .i64 mo, .int .i64 da]] w fun e w' => e = .returned (.string (spanPutR mo da)) ∧ Below w.heap.size w w' := by
  have C := hide (fun W (b : Below w.heap.size w W) => implSpanPut_any W mo da (tt.later b))
  go_enter Tryz.func304, Tryz.ntmps304
  go_wp2_with fail
  refine (unhide C _ (by first | exact Below.refl _ _ | exact (Below.refl _ _).alloc (Nat.le_refl _) _)).mono ?_
  rintro e w1 ⟨rfl, b1⟩
  go_wp2
  go_ret
  exact ⟨rfl, by first | exact b1 | exact ((Below.refl _ _).alloc (Nat.le_refl _) _).trans (b1.mono (by simp))⟩

theorem numText (w : World) (n : Bool) (ao : Option Addr) (l : List Int) (cap : Nat) (sc : Int) (hr : Reads w (.slice ao l.length cap) l) (tt : Tab w) : Calls Tryz.prog 283 #[.agg #[.bool n, .slice ao l.length cap, .int .i64 sc]] w fun e w' => e = .returned (.string (dputR n l sc)) ∧ Below w.heap.size w w' := by
  have C := hide (fun W (b : Below w.heap.size w W) => implDecPut_any W n (.slice ao l.length cap) l sc (hr.later b) (tt.later b))
  clear hr
  go_enter Tryz.func283, Tryz.ntmps283
  go_wp2_with fail
  refine (unhide C _ (by first | exact Below.refl _ _ | exact (Below.refl _ _).alloc (Nat.le_refl _) _)).mono ?_
  rintro e w1 ⟨rfl, b1⟩
  go_wp2
  go_ret
  exact ⟨rfl, by first | exact b1 | exact ((Below.refl _ _).alloc (Nat.le_refl _) _).trans (b1.mono (by simp))⟩

theorem textText (w : World) (t : ByteArray) : Calls Tryz.prog 309 #[.string t] w fun e w' => e = .returned (.string t) ∧ Below w.heap.size w w' := by
  go_enter Tryz.func309, Tryz.ntmps309
  go_wp2
  go_ret
  exact ⟨rfl, Below.refl _ _⟩

theorem noneText (w : World) : Calls Tryz.prog 273 #[.agg #[]] w fun e w' => e = .returned (.string ⟨#[110, 117, 108, 108]⟩) ∧ Below w.heap.size w w' := by
  go_enter Tryz.func273, Tryz.ntmps273
  go_wp2
  go_ret
  refine ⟨rfl, ?_⟩
  repeat (first | exact Below.refl _ _ | refine Below.alloc ?_ (by first | exact Nat.le_refl _ | (simp only [World.size_alloc]; omega) | (simp; omega)) _)

theorem fmtBool (w : World) (y : Bool) : Calls Tryz.prog 279 #[.bool y] w fun e w' => e = .returned (.string (truT y)) ∧ Below w.heap.size w w' := by
  have C : ∀ W : World, Calls Tryz.prog 280 #[.bool y] W fun e w' => e = .returned (.string (truT y)) ∧ w' = W := by
    intro W
    cases y
    all_goals
      go_enter Tryz.func280, Tryz.ntmps280
      go_wp2
      go_ret
      exact ⟨rfl, rfl⟩
  generalize truT y = T at *
  have C := hide C
  go_enter Tryz.func279, Tryz.ntmps279
  go_wp2_with fail
  refine (unhide C _).mono ?_
  rintro e w1 ⟨rfl, hw⟩
  subst hw
  go_wp2
  go_ret
  exact ⟨rfl, Below.refl _ _⟩

theorem boolText (w : World) (y : Bool) : Calls Tryz.prog 277 #[.bool y] w fun e w' => e = .returned (.string (truT y)) ∧ Below w.heap.size w w' := by
  have C := fun W => fmtBool W y
  generalize truT y = T at *
  have C := hide C
  go_enter Tryz.func277, Tryz.ntmps277
  go_wp2_with fail
  refine (unhide C _).mono ?_
  rintro e w1 ⟨rfl, b1⟩
  go_wp2
  go_ret
  exact ⟨rfl, b1⟩

/-- The longest text that bytealg looks through at once: some number. -/
def Mx (w : World) : Prop := ∃ m : Int, w.cell? ⟨0, 0, none⟩ = some (.int .i64 m)
theorem Mx.later {w w' : World} (h : Mx w) (b : Below w.heap.size w w') : Mx w' := by
  obtain ⟨m, hm⟩ := h
  exact ⟨m, cell_later b hm⟩

/-- A text with each quote in it twice. -/
def repT (t : ByteArray) : ByteArray := ⟨(repB 39 [39, 39] t.data.toList).toArray⟩
theorem repT_size (t : ByteArray) (ht : t.size ≤ 100000 := by assumption) : (repT t).size ≤ 300000 := by
  have h := repB_len 39 [39, 39] t.data.toList
  have hs : t.data.toList.length = t.size := by simp
  have e : (repT t).size = (repB 39 [39, 39] t.data.toList).length := q_size _
  rw [e]
  simp only [List.length_cons, List.length_nil] at h
  omega
theorem quoteT_eq (t : ByteArray) : (⟨#[39]⟩ : ByteArray) ++ repT t ++ ⟨#[39]⟩ = quoteT t := by
  unfold repT quoteT quoL
  rw [show (⟨#[39]⟩ : ByteArray) = ⟨([39] : List UInt8).toArray⟩ from rfl, q_cat, q_cat]
  rfl

theorem count_small (t : ByteArray) : Lib.countB t ⟨#[39]⟩ ≤ t.size := Lib.countB_le ⟨#[39]⟩ (by decide) t.size t (Nat.le_refl _)

theorem repl_any (w : World) (t : ByteArray) (ht : t.size ≤ 100000) (mx : Mx w) : Calls Tryz.prog 61 #[.string t, .string ⟨#[39]⟩, .string ⟨#[39, 39]⟩] w fun e w' => e = .returned (.string (repT t)) ∧ Below w.heap.size w w' := by
  obtain ⟨m, hm⟩ := mx
  have hc := count_small t
  have h := Tryz.strings_ReplaceAll t ⟨#[39]⟩ ⟨#[39, 39]⟩ m w (by omega) hm (by decide) (by rw [show (⟨#[39, 39]⟩ : ByteArray).size = 2 from rfl]; omega)
  refine h.mono ?_
  rintro e w' ⟨rfl, b⟩
  refine ⟨?_, b⟩
  have e := replaceAll_one 39 [39, 39] t.data.toList (by decide)
  exact congrArg (fun l : List UInt8 => Ending.returned (.string ⟨l.toArray⟩)) e

set_option maxHeartbeats 1000000 in
theorem marked_0 (w : World) : Calls Tryz.prog 32 #[.iface 92 (.agg #[])] w fun e w' => e = .returned (.string (⟨#[110, 117, 108, 108]⟩)) ∧ Below w.heap.size w w' := by
  have hm : ∀ w : World, (method 365 92 (.agg #[]) "loop.example/jetton/impl.text").run Tryz.prog w = .ok (273, .agg #[]) w := fun _ => by kernel_rfl
  have ha3 : ∀ w : World, Sem.run Tryz.prog (Instr.typeAssert (.iface 92 (.agg #[])) 60 95 true) w = .ok (.tuple #[.int .i64 0, .bool false]) w := fun _ => by kernel_rfl
  have ha4 : ∀ w : World, Sem.run Tryz.prog (Instr.typeAssert (.iface 92 (.agg #[])) 60 96 true) w = .ok (.tuple #[.agg #[.int .i64 0, .int .i64 0], .bool false]) w := fun _ => by kernel_rfl
  have ha5 : ∀ w : World, Sem.run Tryz.prog (Instr.typeAssert (.iface 92 (.agg #[])) 60 97 true) w = .ok (.tuple #[.string ⟨#[]⟩, .bool false]) w := fun _ => by kernel_rfl
  have C := noneText w
  have C := hide C
  go_enter Tryz.func32, Tryz.ntmps32
  go_wp2_with fail
  refine (unhide C).mono ?_
  rintro e w1 ⟨rfl, b1⟩
  go_wp2
  go_ret
  exact ⟨rfl, b1⟩

set_option maxHeartbeats 1000000 in
theorem marked_1 (w : World) (y : Bool) : Calls Tryz.prog 32 #[.iface 93 (.bool y)] w fun e w' => e = .returned (.string (truT y)) ∧ Below w.heap.size w w' := by
  have hm : ∀ w : World, (method 365 93 (.bool y) "loop.example/jetton/impl.text").run Tryz.prog w = .ok (277, .bool y) w := fun _ => by kernel_rfl
  have ha3 : ∀ w : World, Sem.run Tryz.prog (Instr.typeAssert (.iface 93 (.bool y)) 60 95 true) w = .ok (.tuple #[.int .i64 0, .bool false]) w := fun _ => by kernel_rfl
  have ha4 : ∀ w : World, Sem.run Tryz.prog (Instr.typeAssert (.iface 93 (.bool y)) 60 96 true) w = .ok (.tuple #[.agg #[.int .i64 0, .int .i64 0], .bool false]) w := fun _ => by kernel_rfl
  have ha5 : ∀ w : World, Sem.run Tryz.prog (Instr.typeAssert (.iface 93 (.bool y)) 60 97 true) w = .ok (.tuple #[.string ⟨#[]⟩, .bool false]) w := fun _ => by kernel_rfl
  have C := boolText w y
  generalize truT y = T at *
  have C := hide C
  go_enter Tryz.func32, Tryz.ntmps32
  go_wp2_with fail
  refine (unhide C).mono ?_
  rintro e w1 ⟨rfl, b1⟩
  go_wp2
  go_ret
  exact ⟨rfl, b1⟩

set_option maxHeartbeats 1000000 in
theorem marked_2 (w : World) (n : Bool) (ao : Option Addr) (l : List Int) (cap : Nat) (sc : Int) (hr : Reads w (.slice ao l.length cap) l) (tt : Tab w) : Calls Tryz.prog 32 #[.iface 94 (.agg #[.bool n, .slice ao l.length cap, .int .i64 sc])] w fun e w' => e = .returned (.string (dputR n l sc)) ∧ Below w.heap.size w w' := by
  have hm : ∀ w : World, (method 365 94 (.agg #[.bool n, .slice ao l.length cap, .int .i64 sc]) "loop.example/jetton/impl.text").run Tryz.prog w = .ok (283, .agg #[.bool n, .slice ao l.length cap, .int .i64 sc]) w := fun _ => by kernel_rfl
  have ha3 : ∀ w : World, Sem.run Tryz.prog (Instr.typeAssert (.iface 94 (.agg #[.bool n, .slice ao l.length cap, .int .i64 sc])) 60 95 true) w = .ok (.tuple #[.int .i64 0, .bool false]) w := fun _ => by kernel_rfl
  have ha4 : ∀ w : World, Sem.run Tryz.prog (Instr.typeAssert (.iface 94 (.agg #[.bool n, .slice ao l.length cap, .int .i64 sc])) 60 96 true) w = .ok (.tuple #[.agg #[.int .i64 0, .int .i64 0], .bool false]) w := fun _ => by kernel_rfl
  have ha5 : ∀ w : World, Sem.run Tryz.prog (Instr.typeAssert (.iface 94 (.agg #[.bool n, .slice ao l.length cap, .int .i64 sc])) 60 97 true) w = .ok (.tuple #[.string ⟨#[]⟩, .bool false]) w := fun _ => by kernel_rfl
  have C := numText w n ao l cap sc hr tt
  generalize dputR n l sc = T at *
  have C := hide C
  clear hr
  go_enter Tryz.func32, Tryz.ntmps32
  go_wp2_with fail
  refine (unhide C).mono ?_
  rintro e w1 ⟨rfl, b1⟩
  go_wp2
  go_ret
  exact ⟨rfl, b1⟩

set_option maxHeartbeats 1000000 in
theorem marked_3 (w : World) (d : Int) (hz : ¬ (9223372036854775807 < 1 + (dayPutR d).size)) (tt : Tab w) : Calls Tryz.prog 32 #[.iface 95 (.int .i64 d)] w fun e w' => e = .returned (.string (⟨#[64]⟩ ++ dayPutR d)) ∧ Below w.heap.size w w' := by
  have hm : ∀ w : World, (method 365 95 (.int .i64 d) "loop.example/jetton/impl.text").run Tryz.prog w = .ok (300, .int .i64 d) w := fun _ => by kernel_rfl
  have ha3 : ∀ w : World, Sem.run Tryz.prog (Instr.typeAssert (.iface 95 (.int .i64 d)) 60 95 true) w = .ok (.tuple #[.int .i64 d, .bool true]) w := fun _ => by kernel_rfl
  have C := dayText w d tt
  generalize dayPutR d = T at *
  have C := hide C
  go_enter Tryz.func32, Tryz.ntmps32
  go_wp2_with fail
  refine (unhide C).mono ?_
  rintro e w1 ⟨rfl, b1⟩
  go_wp2
  go_ret
  exact ⟨rfl, b1⟩

set_option maxHeartbeats 1000000 in
theorem marked_4 (w : World) (mo da : Int) (hz : ¬ (9223372036854775807 < 1 + (spanPutR mo da).size)) (tt : Tab w) : Calls Tryz.prog 32 #[.iface 96 (.agg #[.int .i64 mo, .int .i64 da])] w fun e w' => e = .returned (.string (⟨#[35]⟩ ++ spanPutR mo da)) ∧ Below w.heap.size w w' := by
  have hm : ∀ w : World, (method 365 96 (.agg #[.int .i64 mo, .int .i64 da]) "loop.example/jetton/impl.text").run Tryz.prog w = .ok (304, .agg #[.int .i64 mo, .int .i64 da]) w := fun _ => by kernel_rfl
  have ha3 : ∀ w : World, Sem.run Tryz.prog (Instr.typeAssert (.iface 96 (.agg #[.int .i64 mo, .int .i64 da])) 60 95 true) w = .ok (.tuple #[.int .i64 0, .bool false]) w := fun _ => by kernel_rfl
  have ha4 : ∀ w : World, Sem.run Tryz.prog (Instr.typeAssert (.iface 96 (.agg #[.int .i64 mo, .int .i64 da])) 60 96 true) w = .ok (.tuple #[.agg #[.int .i64 mo, .int .i64 da], .bool true]) w := fun _ => by kernel_rfl
  have C := spanText w mo da tt
  generalize spanPutR mo da = T at *
  have C := hide C
  go_enter Tryz.func32, Tryz.ntmps32
  go_wp2_with fail
  refine (unhide C).mono ?_
  rintro e w1 ⟨rfl, b1⟩
  go_wp2
  go_ret
  exact ⟨rfl, b1⟩

set_option maxHeartbeats 1000000 in
theorem marked_5 (w : World) (t : ByteArray) (ht : t.size ≤ 100000) (mx : Mx w) : Calls Tryz.prog 32 #[.iface 97 (.string t)] w fun e w' => e = .returned (.string (quoteT t)) ∧ Below w.heap.size w w' := by
  have hm : ∀ w : World, (method 365 97 (.string t) "loop.example/jetton/impl.text").run Tryz.prog w = .ok (309, .string t) w := fun _ => by kernel_rfl
  have ha3 : ∀ w : World, Sem.run Tryz.prog (Instr.typeAssert (.iface 97 (.string t)) 60 95 true) w = .ok (.tuple #[.int .i64 0, .bool false]) w := fun _ => by kernel_rfl
  have ha4 : ∀ w : World, Sem.run Tryz.prog (Instr.typeAssert (.iface 97 (.string t)) 60 96 true) w = .ok (.tuple #[.agg #[.int .i64 0, .int .i64 0], .bool false]) w := fun _ => by kernel_rfl
  have ha5 : ∀ w : World, Sem.run Tryz.prog (Instr.typeAssert (.iface 97 (.string t)) 60 97 true) w = .ok (.tuple #[.string t, .bool true]) w := fun _ => by kernel_rfl
  have C := textText w t
  have CR := hide (fun W (b : Below w.heap.size w W) => repl_any W t ht (mx.later b))
  have hz1 : ¬ (9223372036854775807 < 1 + (repT t).size) := by have := repT_size t; omega
  have hz2 : ¬ (9223372036854775807 < 1 + (repT t).size + 1) := by have := repT_size t; omega
  have HQ := hide (quoteT_eq t)
  have C := hide C
  go_enter Tryz.func32, Tryz.ntmps32
  go_wp2_with fail
  refine (unhide C).mono ?_
  rintro e w1 ⟨rfl, b1⟩
  go_wp2_with fail
  refine (unhide CR _ b1).mono ?_
  rintro e w2 ⟨rfl, b2⟩
  go_wp2
  go_ret
  exact ⟨by rw [← unhide HQ]; rfl, b1.trans (b2.mono b1.size)⟩

end Go.Proofs.YtdklikicngmkbaaGreatDoor
