/- The law FnExactValueGet: its walk. -/
import Derived.Test.YtdklikicngmkbaaGreatDoorG29
import Derived.Test.YtdklikicngmkbaaGreatDoorVgW
import Derived.Test.YtdklikicngmkbaaGreatDoorG09
namespace Go.Proofs.YtdklikicngmkbaaGreatDoor
open Go.RowKit
set_option linter.unusedSimpArgs false
set_option linter.unusedVariables false

set_option maxHeartbeats 8000000 in
set_option maxRecDepth 100000 in
theorem xValueGet_walk (w : World) (s : ByteArray) (hs : s.size ≤ maxLen) (tt : Tab w) (he : Er w) (mx : Mx w) :
    Calls Tryz.prog 8 #[.string s] w fun e w' => e = .returned (.bool true) ∧ Below w.heap.size w w' := by
  by_cases hl : (1048576 : Int) < s.size
  · have t0 : decide ((1048576 : Int) < s.size) = true := by simpa using hl
    unfold maxLen at hs
    go_enter Tryz.func8, Tryz.ntmps8
    go_wp2
    go_ret
    exact ⟨rfl, Below.refl _ _⟩
  have t0 : decide ((1048576 : Int) < s.size) = false := by simpa using hl
  have hz : s.size ≤ 2000000 := by omega
  have CS := hide (fun W => specValueGet_any W s hz)
  have CI := hide (fun W (b : Below w.heap.size w W) => implValueGet_any W s hz (tt.later b) (he.later b) (mx.later b))
  unfold maxLen at hs
  clear hl hz
  go_enter Tryz.func8, Tryz.ntmps8
  go_wp2_with fail
  refine (unhide CS _).mono ?_
  rintro e w1 ⟨⟨k, y, n, l, sc, d, mo, da, t⟩, aw, cw, ok, rfl, ow, b1, hcs⟩
  have HS := hide hcs
  have W1 := V9.new w1 (.int .i64 k) (.bool y) (.bool n) (.slice aw l.length cw) (.int .i64 sc) (.int .i64 d) (.int .i64 mo) (.int .i64 da) (.string t) 31
  have bA := (Below.refl w1.heap.size w1).alloc (Nat.le_refl _) (.cells #[.int .i64 k, .bool y, .bool n, .slice aw l.length cw, .int .i64 sc, .int .i64 d, .int .i64 mo, .int .i64 da, .string t] 31)
  have B1 := b1.trans (bA.mono b1.size)
  have ow1 := ow.later bA
  have lw := ow.lt
  have y1 := b1.size
  clear b1 bA ow hcs
  go_wp2_with fail
  refine (unhide CI _ B1).mono ?_
  rintro e w2 ⟨U, ag, cg, ok2, rfl, og, b2, hci⟩
  obtain ⟨eU, eo, hlen, -⟩ := gv_same (unhide HS) hci
  subst eU eo
  simp only at hlen og
  have W2 := W1.later b2
  have B2 := B1.trans (b2.mono B1.size)
  have ow2 := ow1.later b2
  have y2 := b2.size
  simp only [World.size_alloc] at y2
  have og := og.mono (B' := w1.heap.size + 1) (by simp)
  have lg := og.lt
  clear b2 W1 B1 ow1 hci
  have hok : (!(ok2 == ok2)) = false := by cases ok2 <;> rfl
  have hok2 : (ok2 != ok2) = false := by cases ok2 <;> rfl
  have hq0 : (0 : Int) ≤ 1 + l.length := by omega
  have hq1 : ((1 + l.length : Int) != 1 + l.length) = false := by simp
  have hq2 : ((1 + l.length : Int) == 1 + l.length) = true := by simp
  have G2 := V9.new w2 (.int .i64 k) (.bool y) (.bool n) (.slice ag l.length cg) (.int .i64 sc) (.int .i64 d) (.int .i64 mo) (.int .i64 da) (.string t) 31
  have bA := (Below.refl w2.heap.size w2).alloc (Nat.le_refl _) (.cells #[.int .i64 k, .bool y, .bool n, .slice ag l.length cg, .int .i64 sc, .int .i64 d, .int .i64 mo, .int .i64 da, .string t] 31)
  have W3 := W2.later bA
  have B3 := B2.trans (bA.mono B2.size)
  have ow3 := ow2.later bA
  have og3 := og.later bA
  obtain ⟨p0, p1, p2, p3, p4, p5, p6, p7, p8, -, -, -, -, -, -, -, -, -, pz⟩ := id W3
  go_wp2_with fail
  clear p0 p1 p2 p3 p4 p5 p6 p7 p8 pz bA W2 B2 ow2 og
  refine (eqValue_same _ k y n _ _ l _ _ sc d mo da t og3.reads ow3.reads).mono ?_
  rintro e w4 ⟨rfl, b4⟩
  have W4 := W3.later b4
  have G4 := G2.later b4
  have B4 := B3.trans (b4.mono B3.size)
  have ow4 := ow3.later b4
  have og4 := og3.later b4
  clear b4 W3 G2 B3 ow3 og3
  obtain ⟨q0, q1, q2, q3, q4, q5, q6, q7, q8, -, -, -, -, -, -, -, -, -, qz⟩ := id G4
  go_wp2_with fail
  refine (markValue_any _ (w1.heap.size + 1) k y n ag l cg sc d mo da t 1 og4 (by omega) (by omega) (by omega)).mono ?_
  rintro e w5 ⟨rfl, og5, g5⟩
  have hbG : ∀ j, (Value.slice ag l.length cg).ownBlock = some j → w1.heap.size + 1 ≤ j ∧ j < w2.heap.size := lg
  have W5 := W4.grown g5 (fun e => by have := hbG _ e.symm; omega)
  have G5 := G4.grown g5 (fun e => by have := hbG _ e.symm; omega)
  have ow5 := ow4.grown g5 (fun j hj e => by have := hbG _ e.symm; have := (lw j hj).2; omega)
  have B5 := below_grown2 B4 g5 (fun j hj => by have := hbG j hj; omega)
  clear g5 W4 G4 B4 ow4 og4 q0 q1 q2 q3 q4 q5 q6 q7 q8 qz
  obtain ⟨q0, q1, q2, q3, q4, q5, q6, q7, q8, -, -, -, -, -, -, -, -, -, qz⟩ := id G5
  go_wp2_with fail
  refine (heldValue_any _ k y n _ sc d mo da t 1 l.length og5.reads (by omega) (by omega) (by omega)).mono ?_
  rintro e w6 ⟨rfl, b6⟩
  have W6 := W5.later b6
  have G6 := G5.later b6
  have B6 := B5.trans (b6.mono B5.size)
  have ow6 := ow5.later b6
  have og6 := og5.later b6
  clear b6 W5 G5 B5 ow5 og5 q0 q1 q2 q3 q4 q5 q6 q7 q8 qz
  go_wp2_with fail
  refine (unhide CI _ B6).mono ?_
  rintro e w7 ⟨U, ah, ch, ok3, rfl, oh, b7, hci⟩
  obtain ⟨eU, eo, -, -⟩ := gv_same (unhide HS) hci
  subst eU eo
  simp only at oh
  have W7 := W6.later b7
  have G7 := G6.later b7
  have B7 := B6.trans (b7.mono B6.size)
  have ow7 := ow6.later b7
  have og7 := og6.later b7
  have H7 := V9.new w7 (.int .i64 k) (.bool y) (.bool n) (.slice ah l.length ch) (.int .i64 sc) (.int .i64 d) (.int .i64 mo) (.int .i64 da) (.string t) 31
  have bA := (Below.refl w7.heap.size w7).alloc (Nat.le_refl _) (.cells #[.int .i64 k, .bool y, .bool n, .slice ah l.length ch, .int .i64 sc, .int .i64 d, .int .i64 mo, .int .i64 da, .string t] 31)
  have W8 := W7.later bA
  have G8 := G7.later bA
  have B8 := B7.trans (bA.mono B7.size)
  have ow8 := ow7.later bA
  have og8 := og7.later bA
  have oh8 := oh.later bA
  clear b7 W6 G6 B6 ow6 og6 hci bA W7 G7 B7 ow7 og7
  obtain ⟨p0, p1, p2, p3, p4, p5, p6, p7, p8, -, -, -, -, -, -, -, -, -, pz⟩ := id W8
  go_wp2_with fail
  refine (eqValue_same _ k y n _ _ l _ _ sc d mo da t oh8.reads ow8.reads).mono ?_
  rintro e w9 ⟨rfl, b9⟩
  have G9 := G8.later b9
  have B9 := B8.trans (b9.mono B8.size)
  have og9 := og8.later b9
  clear b9 W8 G8 B8 ow8 og8 H7 oh8 p0 p1 p2 p3 p4 p5 p6 p7 p8 pz
  obtain ⟨q0, q1, q2, q3, q4, q5, q6, q7, q8, -, -, -, -, -, -, -, -, -, qz⟩ := id G9
  go_wp2_with fail
  refine (heldValue_any _ k y n _ sc d mo da t 1 l.length og9.reads (by omega) (by omega) (by omega)).mono ?_
  rintro e wa ⟨rfl, ba⟩
  have Ba := B9.trans (ba.mono B9.size)
  clear ba G9 B9 og9 q0 q1 q2 q3 q4 q5 q6 q7 q8 qz
  go_wp2
  go_ret
  exact ⟨rfl, Ba⟩

end Go.Proofs.YtdklikicngmkbaaGreatDoor
