/- The law laws.FnExactDecGet: its walk. -/
import Derived.Test.YtoadmnonpgkpmaaDoorStt3
import Derived.Test.YtoadmnonpgkpmaaDoorLawE0
import Derived.Test.YtoadmnonpgkpmaaDoorDgC
namespace Go.Proofs.YtoadmnonpgkpmaaDoor
open Go.RowKit

theorem xDecGet_len (n : Bool) (wh pt : ByteArray) (fd : Bool) : (dgetR n wh pt fd).2.1.length ≤ 16 := by
  cases h : dgetOk n wh pt fd
  · rw [dget_no h]
    simp
  · rw [dget_yes h]
    unfold dgetOk at h
    rw [Bool.and_eq_true] at h
    exact (decB_iff.1 h.2).1.1

set_option maxHeartbeats 4000000 in
set_option maxRecDepth 100000 in
theorem xDecGet_walk (w : World) (s : ByteArray) (hs : s.size ≤ maxLen) (tt : Tab w) :
    Calls Tryd.prog 3 #[.string s] w fun e w' => e = .returned (.bool true) ∧ Below w.heap.size w w' := by
  by_cases hl : (1048576 : Int) < s.size
  · have t0 : decide ((1048576 : Int) < s.size) = true := by simpa using hl
    unfold maxLen at hs
    go_enter Tryd.func3, Tryd.ntmps3
    go_wp2
    go_ret
    exact ⟨rfl, Below.refl _ _⟩
  have t0 : decide ((1048576 : Int) < s.size) = false := by simpa using hl
  obtain ⟨d, hd⟩ := dot_is (restB s)
  have CS := hide (fun W => specDecGet_any W s d hd hs)
  have CI := hide (fun W (k : Below w.heap.size w W) => implDecGet_any W s d hd hs (tt.later k))
  have hlen := xDecGet_len (negB s) ((restB s).extract 0 d) (partOf (restB s) d) (decide (d < (restB s).size))
  unfold maxLen at hs
  clear hl hd
  generalize dgetR (negB s) ((restB s).extract 0 d) (partOf (restB s) d) (decide (d < (restB s).size)) = O at *
  obtain ⟨og, ol, os, ok⟩ := O
  simp only at hlen
  have hok : (!(ok == ok)) = false := by cases ok <;> rfl
  have hq0 : (0 : Int) ≤ 1 + ol.length := by omega
  have hq1 : ((1 + ol.length : Int) != 1 + ol.length) = false := by simp
  have S0 : Stt w w [] [] := ⟨Below.refl _ _, by simp, by simp⟩
  · go_enter Tryd.func3, Tryd.ntmps3
    go_wp2_with fail
    refine (unhide CS _).mono ?_
    rintro e w1 ⟨aw, cw, rfl, ow1, b1⟩
    have S1 := (S0.own b1 ow1).box3 (.bool og) (.slice aw ol.length cw) (.int .i64 os) 26
    simp only [List.nil_append] at S1
    have y1 := b1.size
    clear b1 ow1 S0
    go_wp2_with fail
    refine (unhide CI _ S1.below).mono ?_
    rintro e w2 ⟨ag, cg, rfl, og2, b2⟩
    have S2 := S1.own b2 og2
    simp only [List.nil_append, List.cons_append, World.size_alloc] at S2
    have y2 := b2.size
    simp only [World.size_alloc] at y2
    clear b2 og2 S1
    have cW0 : w2.cell? ⟨w1.heap.size, 0, none⟩ = some (.bool og) := S2.cells (w1.heap.size, 0, .bool og) (by simp)
    have cW1 : w2.cell? ⟨w1.heap.size, 1, none⟩ = some (.slice aw ol.length cw) := S2.cells (w1.heap.size, 1, .slice aw ol.length cw) (by simp)
    have cW2 : w2.cell? ⟨w1.heap.size, 2, none⟩ = some (.int .i64 os) := S2.cells (w1.heap.size, 2, .int .i64 os) (by simp)
    have zW : w1.heap.size < w2.heap.size := S2.blk (c := (w1.heap.size, 0, .bool og)) (by simp)
    go_wp2_with fail
    have S2b := S2.box3 (.bool og) (.slice ag ol.length cg) (.int .i64 os) 26
    simp only [List.nil_append, List.cons_append] at S2b
    refine (eqDec_same _ og _ _ ol os (S2b.owns (w1.heap.size + 1, w2.heap.size, .slice ag ol.length cg, ol) (by simp)).1.reads (S2b.owns (w.heap.size, w1.heap.size, .slice aw ol.length cw, ol) (by simp)).1.reads).mono ?_
    rintro e w3 ⟨rfl, b3⟩
    have S3 := S2b.later b3
    clear b3 S2b S2
    clear cW0 cW1 cW2 zW
    have cG0 : w3.cell? ⟨w2.heap.size, 0, none⟩ = some (.bool og) := S3.cells (w2.heap.size, 0, .bool og) (by simp)
    have cG1 : w3.cell? ⟨w2.heap.size, 1, none⟩ = some (.slice ag ol.length cg) := S3.cells (w2.heap.size, 1, .slice ag ol.length cg) (by simp)
    have cG2 : w3.cell? ⟨w2.heap.size, 2, none⟩ = some (.int .i64 os) := S3.cells (w2.heap.size, 2, .int .i64 os) (by simp)
    have zG : w2.heap.size < w3.heap.size := S3.blk (c := (w2.heap.size, 0, .bool og)) (by simp)
    go_wp2_with fail
    refine (markDec_any w3 _ og _ ol os 1 (S3.owns (w1.heap.size + 1, w2.heap.size, .slice ag ol.length cg, ol) (by simp)).1 (by omega) (by omega) (by omega)).mono ?_
    rintro e w4 ⟨rfl, o4, g4⟩
    have S4 := Stt.mark (os1 := [(w.heap.size, w1.heap.size, .slice aw ol.length cw, ol)]) (os2 := []) (B := w1.heap.size + 1) (E := w2.heap.size) S3 o4 g4 (by intro c hc; simp only [List.mem_cons, List.not_mem_nil, or_false] at hc; rcases hc with rfl | rfl | rfl | rfl | rfl | rfl <;> simp only <;> omega) (by intro o ho; simp only [List.mem_cons, List.not_mem_nil, or_false] at ho; rcases ho with rfl; simp only; omega) (by intro o ho; cases ho)
    simp only [List.nil_append, List.cons_append] at S4
    clear o4 g4 S3
    clear cG0 cG1 cG2 zG
    have cG0 : w4.cell? ⟨w2.heap.size, 0, none⟩ = some (.bool og) := S4.cells (w2.heap.size, 0, .bool og) (by simp)
    have cG1 : w4.cell? ⟨w2.heap.size, 1, none⟩ = some (.slice ag ol.length cg) := S4.cells (w2.heap.size, 1, .slice ag ol.length cg) (by simp)
    have cG2 : w4.cell? ⟨w2.heap.size, 2, none⟩ = some (.int .i64 os) := S4.cells (w2.heap.size, 2, .int .i64 os) (by simp)
    have zG : w2.heap.size < w4.heap.size := S4.blk (c := (w2.heap.size, 0, .bool og)) (by simp)
    have hm4 := (S4.owns (w1.heap.size + 1, w2.heap.size, .slice ag ol.length cg, marks 1 ol.length) (by simp)).1.reads
    go_wp2_with fail
    refine (heldDec_any w4 og _ os 1 ol.length hm4 (by omega) (by omega) (by omega)).mono ?_
    rintro e w5 ⟨rfl, b5⟩
    have S5 := S4.later b5
    clear b5 S4 hm4
    clear cG0 cG1 cG2 zG
    go_wp2_with fail
    refine (unhide CI _ S5.below).mono ?_
    rintro e w6 ⟨ah, ch, rfl, oh6, b6⟩
    have S6 := S5.own b6 oh6
    simp only [List.nil_append, List.cons_append] at S6
    clear b6 oh6 S5
    have cW0 : w6.cell? ⟨w1.heap.size, 0, none⟩ = some (.bool og) := S6.cells (w1.heap.size, 0, .bool og) (by simp)
    have cW1 : w6.cell? ⟨w1.heap.size, 1, none⟩ = some (.slice aw ol.length cw) := S6.cells (w1.heap.size, 1, .slice aw ol.length cw) (by simp)
    have cW2 : w6.cell? ⟨w1.heap.size, 2, none⟩ = some (.int .i64 os) := S6.cells (w1.heap.size, 2, .int .i64 os) (by simp)
    have zW : w1.heap.size < w6.heap.size := S6.blk (c := (w1.heap.size, 0, .bool og)) (by simp)
    go_wp2_with fail
    have S6b := S6.box3 (.bool og) (.slice ah ol.length ch) (.int .i64 os) 26
    simp only [List.nil_append, List.cons_append] at S6b
    refine (eqDec_same _ og _ _ ol os (S6b.owns (w5.heap.size, w6.heap.size, .slice ah ol.length ch, ol) (by simp)).1.reads (S6b.owns (w.heap.size, w1.heap.size, .slice aw ol.length cw, ol) (by simp)).1.reads).mono ?_
    rintro e w7 ⟨rfl, b7⟩
    have S7 := S6b.later b7
    clear b7 S6b S6
    clear cW0 cW1 cW2 zW
    have cG0 : w7.cell? ⟨w2.heap.size, 0, none⟩ = some (.bool og) := S7.cells (w2.heap.size, 0, .bool og) (by simp)
    have cG1 : w7.cell? ⟨w2.heap.size, 1, none⟩ = some (.slice ag ol.length cg) := S7.cells (w2.heap.size, 1, .slice ag ol.length cg) (by simp)
    have cG2 : w7.cell? ⟨w2.heap.size, 2, none⟩ = some (.int .i64 os) := S7.cells (w2.heap.size, 2, .int .i64 os) (by simp)
    have zG : w2.heap.size < w7.heap.size := S7.blk (c := (w2.heap.size, 0, .bool og)) (by simp)
    have hm7 := (S7.owns (w1.heap.size + 1, w2.heap.size, .slice ag ol.length cg, marks 1 ol.length) (by simp)).1.reads
    go_wp2_with fail
    refine (heldDec_any w7 og _ os 1 ol.length hm7 (by omega) (by omega) (by omega)).mono ?_
    rintro e w8 ⟨rfl, b8⟩
    have S8 := S7.later b8
    clear b8 S7 hm7
    clear cG0 cG1 cG2 zG
    go_wp2
    go_ret
    exact ⟨rfl, S8.below⟩

end Go.Proofs.YtoadmnonpgkpmaaDoor
