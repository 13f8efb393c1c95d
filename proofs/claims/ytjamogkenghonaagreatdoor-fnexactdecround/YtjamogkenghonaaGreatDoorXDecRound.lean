/- The law FnExactDecRound: its walk. -/
import Derived.Test.YtjamogkenghonaaGreatDoorGc
import Derived.Test.YtjamogkenghonaaGreatDoorEbS
import Derived.Test.YtjamogkenghonaaGreatDoorGd
import Derived.Test.YtjamogkenghonaaGreatDoorRqR
import Derived.Deep.RegionHeld
import Derived.Deep.DeepCutAuto
namespace Go.Proofs.YtjamogkenghonaaGreatDoor
open Go.RowKit

set_option maxHeartbeats 4000000 in
set_option maxRecDepth 100000 in
theorem xDecRound_walk (w : World) (p : Bool) (u : Value) (l : List Int) (sa sc md : Int) (hu : Reads w u l) (tt : Tab w) (hd : Hd w) :
    Calls Tryz.prog 7 #[.agg #[.bool p, u, .int .i64 sa], .int .i64 sc, .int .i64 md] w fun e w' => e = .returned (.bool true) ∧ Below w.heap.size w w' := by
  have CS := hide (fun W s (hs : Reads W s l) => specDecRound_any W p s l sa sc md hs)
  have CI := hide (fun W s (hs : Reads W s l) (k : Below w.heap.size w W) => implDecRound_any W p s l sa sc md hs (tt.later k) (hd.later k))
  have hlen := xDecRound_len p l sa sc md
  generalize droundR p l sa sc md = O at *
  obtain ⟨og, ol, os, oc⟩ := O
  simp only at hlen
  have TA := hide (fun W (h : Below w.heap.size w W) (hl : l.length ≤ 1048576) => toDec_any W p u l sa (hu.later h) hl)
  have ZA := hide (fun W (h : Below w.heap.size w W) => szDec_any W p u l sa 1048576 (hu.later h) (by omega) (by omega))
  have hok : (oc != oc) = false := by simp
  have hq0 : (0 : Int) ≤ 1 + ol.length := by omega
  have hq1 : ((1 + ol.length : Int) != 1 + ol.length) = false := by simp
  obtain ⟨ao, b1, off, cap, rfl, hu0⟩ := id hu
  clear hu0 hu
  have S0 : Stt w (w.alloc (.cells #[.bool p, .slice ao l.length cap, .int .i64 sa] 26)) [(w.heap.size, 0, .bool p), (w.heap.size, 1, .slice ao l.length cap), (w.heap.size, 2, .int .i64 sa)] [] := by
    have h : Stt w w [] [] := ⟨Below.refl _ _, by simp, by simp⟩
    have h2 := h.box3 (.bool p) (.slice ao l.length cap) (.int .i64 sa) 26
    simpa using h2
  by_cases hl1 : (1048576 : Int) < l.length
  · go_enter Tryz.func7, Tryz.ntmps7
    go_wp2_with fail
    refine (unhide ZA _ S0.below).mono ?_
    rw [if_pos (by omega)]
    rintro e w1 ⟨rfl, b1⟩
    have S1 := S0.later b1
    clear b1
    go_wp2
    go_ret
    exact ⟨rfl, S1.below⟩
  · have h0 : (0 : Int) ≤ 1048576 - l.length := by omega
    have hla : l.length ≤ 1048576 := by omega
    go_enter Tryz.func7, Tryz.ntmps7
    go_wp2_with fail
    refine (unhide ZA _ S0.below).mono ?_
    rw [if_neg (by omega)]
    rintro e w2 ⟨rfl, b1⟩
    have S2 := S0.later b1
    clear b1 S0
    have cA0 : w2.cell? ⟨w.heap.size, 0, none⟩ = some (.bool p) := S2.cells (w.heap.size, 0, .bool p) (by simp)
    have cA1 : w2.cell? ⟨w.heap.size, 1, none⟩ = some (.slice ao l.length cap) := S2.cells (w.heap.size, 1, .slice ao l.length cap) (by simp)
    have cA2 : w2.cell? ⟨w.heap.size, 2, none⟩ = some (.int .i64 sa) := S2.cells (w.heap.size, 2, .int .i64 sa) (by simp)
    -- TAIL
    clear cA0 cA1 cA2
    have cA0 : w2.cell? ⟨w.heap.size, 0, none⟩ = some (.bool p) := S2.cells (w.heap.size, 0, .bool p) (by simp)
    have cA1 : w2.cell? ⟨w.heap.size, 1, none⟩ = some (.slice ao l.length cap) := S2.cells (w.heap.size, 1, .slice ao l.length cap) (by simp)
    have cA2 : w2.cell? ⟨w.heap.size, 2, none⟩ = some (.int .i64 sa) := S2.cells (w.heap.size, 2, .int .i64 sa) (by simp)
    have zA : w.heap.size < w2.heap.size := S2.blk (c := (w.heap.size, 0, .bool p)) (by simp)
    go_wp2_with fail
    refine (unhide TA _ S2.below hla).mono ?_
    rintro e w3 ⟨a3, c3, rfl, o3, b3⟩
    have S3 := S2.later b3
    have zw2 : w.heap.size < w2.heap.size := S2.blk (c := (w.heap.size, 0, .bool p)) (by simp)
    have y3 := b3.size
    clear b3 S2
    clear cA0 cA1 cA2 zA
    go_wp2_with fail
    refine (unhide CS _ _ o3.reads).mono ?_
    rintro e w4 ⟨aw, cw, rfl, ow4, b4⟩
    have S4 := S3.own b4 ow4
    simp only [List.nil_append] at S4
    have y4 := b4.size
    clear b4 ow4 o3 S3
    have cA0 : w4.cell? ⟨w.heap.size, 0, none⟩ = some (.bool p) := S4.cells (w.heap.size, 0, .bool p) (by simp)
    have cA1 : w4.cell? ⟨w.heap.size, 1, none⟩ = some (.slice ao l.length cap) := S4.cells (w.heap.size, 1, .slice ao l.length cap) (by simp)
    have cA2 : w4.cell? ⟨w.heap.size, 2, none⟩ = some (.int .i64 sa) := S4.cells (w.heap.size, 2, .int .i64 sa) (by simp)
    have zA : w.heap.size < w4.heap.size := S4.blk (c := (w.heap.size, 0, .bool p)) (by simp)
    have S4b := S4.box3 (.bool og) (.slice aw ol.length cw) (.int .i64 os) 30
    simp only [List.nil_append, List.cons_append] at S4b
    go_wp2_with fail
    refine (unhide TA _ S4b.below hla).mono ?_
    rintro e w5 ⟨ax, cx, rfl, ox5, b5⟩
    have S5 := S4b.own b5 ox5
    simp only [List.nil_append, List.cons_append, World.size_alloc] at S5
    have y5 := b5.size
    simp only [World.size_alloc] at y5
    clear b5 ox5 S4b S4
    clear cA0 cA1 cA2 zA
    have S5b := S5.box3 (.bool p) (.slice ax l.length cx) (.int .i64 sa) 30
    simp only [List.nil_append, List.cons_append] at S5b
    go_wp2_with fail
    refine (unhide CI _ _ (S5b.owns (w4.heap.size + 1, w5.heap.size, .slice ax l.length cx, l) (by simp)).1.reads S5b.below).mono ?_
    rintro e w6 ⟨ag, cg, rfl, og6, b6⟩
    have S6 := S5b.own b6 og6
    simp only [List.nil_append, List.cons_append, World.size_alloc] at S6
    have y6 := b6.size
    simp only [World.size_alloc] at y6
    clear b6 og6 S5b S5
    have cW0 : w6.cell? ⟨w4.heap.size, 0, none⟩ = some (.bool og) := S6.cells (w4.heap.size, 0, .bool og) (by simp)
    have cW1 : w6.cell? ⟨w4.heap.size, 1, none⟩ = some (.slice aw ol.length cw) := S6.cells (w4.heap.size, 1, .slice aw ol.length cw) (by simp)
    have cW2 : w6.cell? ⟨w4.heap.size, 2, none⟩ = some (.int .i64 os) := S6.cells (w4.heap.size, 2, .int .i64 os) (by simp)
    have zW : w4.heap.size < w6.heap.size := S6.blk (c := (w4.heap.size, 0, .bool og)) (by simp)
    have S6b := S6.box3 (.bool og) (.slice ag ol.length cg) (.int .i64 os) 30
    simp only [List.nil_append, List.cons_append] at S6b
    go_wp2_with fail
    refine (eqDec_same _ og _ _ ol os (S6b.owns (w5.heap.size + 1, w6.heap.size, .slice ag ol.length cg, ol) (by simp)).1.reads (S6b.owns (w3.heap.size, w4.heap.size, .slice aw ol.length cw, ol) (by simp)).1.reads).mono ?_
    rintro e w7 ⟨rfl, b7⟩
    have S7 := S6b.later b7
    have y7 := b7.size
    simp only [World.size_alloc] at y7
    clear b7 S6b S6
    clear cW0 cW1 cW2 zW
    have cX0 : w7.cell? ⟨w5.heap.size, 0, none⟩ = some (.bool p) := S7.cells (w5.heap.size, 0, .bool p) (by simp)
    have cX1 : w7.cell? ⟨w5.heap.size, 1, none⟩ = some (.slice ax l.length cx) := S7.cells (w5.heap.size, 1, .slice ax l.length cx) (by simp)
    have cX2 : w7.cell? ⟨w5.heap.size, 2, none⟩ = some (.int .i64 sa) := S7.cells (w5.heap.size, 2, .int .i64 sa) (by simp)
    have zX : w5.heap.size < w7.heap.size := S7.blk (c := (w5.heap.size, 0, .bool p)) (by simp)
    have cA0 : w7.cell? ⟨w.heap.size, 0, none⟩ = some (.bool p) := S7.cells (w.heap.size, 0, .bool p) (by simp)
    have cA1 : w7.cell? ⟨w.heap.size, 1, none⟩ = some (.slice ao l.length cap) := S7.cells (w.heap.size, 1, .slice ao l.length cap) (by simp)
    have cA2 : w7.cell? ⟨w.heap.size, 2, none⟩ = some (.int .i64 sa) := S7.cells (w.heap.size, 2, .int .i64 sa) (by simp)
    have zA : w.heap.size < w7.heap.size := S7.blk (c := (w.heap.size, 0, .bool p)) (by simp)
    have stabP : ∀ w' : World, Below w7.heap.size w7 w' → (w'.cell? ⟨w5.heap.size, 0, none⟩ = some (.bool p) ∧ w'.cell? ⟨w5.heap.size, 1, none⟩ = some (.slice ax l.length cx) ∧ w'.cell? ⟨w5.heap.size, 2, none⟩ = some (.int .i64 sa) ∧ w'.cell? ⟨w.heap.size, 0, none⟩ = some (.bool p) ∧ w'.cell? ⟨w.heap.size, 1, none⟩ = some (.slice ao l.length cap) ∧ w'.cell? ⟨w.heap.size, 2, none⟩ = some (.int .i64 sa)) := fun w' h => ⟨(S7.later h).cells (w5.heap.size, 0, .bool p) (by simp), (S7.later h).cells (w5.heap.size, 1, .slice ax l.length cx) (by simp), (S7.later h).cells (w5.heap.size, 2, .int .i64 sa) (by simp), (S7.later h).cells (w.heap.size, 0, .bool p) (by simp), (S7.later h).cells (w.heap.size, 1, .slice ao l.length cap) (by simp), (S7.later h).cells (w.heap.size, 2, .int .i64 sa) (by simp)⟩
    have StabP := hide stabP
    have oxP := (S7.owns (w4.heap.size + 1, w5.heap.size, .slice ax l.length cx, l) (by simp)).1
    clear stabP
    go_wp2
    go_region_held (fun w' => w'.cell? ⟨w5.heap.size, 0, none⟩ = some (.bool p) ∧ w'.cell? ⟨w5.heap.size, 1, none⟩ = some (.slice ax l.length cx) ∧ w'.cell? ⟨w5.heap.size, 2, none⟩ = some (.int .i64 sa) ∧ w'.cell? ⟨w.heap.size, 0, none⟩ = some (.bool p) ∧ w'.cell? ⟨w.heap.size, 1, none⟩ = some (.slice ao l.length cap) ∧ w'.cell? ⟨w.heap.size, 2, none⟩ = some (.int .i64 sa))
      (first | with_reducible exact unhide StabP _ (Below.refl _ _).drew | (refine unhide StabP _ ?_; assumption))
      (first
        | (go_at_call 10; refine (unhide TA _ ?_ hla).mono ?_; exact S7.drew.below; rintro e w8 ⟨a9, c9, rfl, o9, b9⟩; have BXP : Below w7.heap.size w7 w8 := (Below.refl _ _).drew.trans b9; have oyP := oxP.later BXP)
        | (go_at_call 12; refine (eqDec_same _ p _ _ l sa ?_ ?_).mono ?_; exact oyP.reads; exact o9.reads; rintro e w9 ⟨rfl, b10⟩; have BYP := BXP.trans (b10.mono BXP.size)))
    have S9 := S7.later BYP
    have y9 := BYP.size
    clear BXP BYP b9 b10 o9 oxP oyP StabP
    clear S7
    clear cX0 cX1 cX2 zX
    clear cA0 cA1 cA2 zA
    have cX0 : w9.cell? ⟨w5.heap.size, 0, none⟩ = some (.bool p) := S9.cells (w5.heap.size, 0, .bool p) (by simp)
    have cX1 : w9.cell? ⟨w5.heap.size, 1, none⟩ = some (.slice ax l.length cx) := S9.cells (w5.heap.size, 1, .slice ax l.length cx) (by simp)
    have cX2 : w9.cell? ⟨w5.heap.size, 2, none⟩ = some (.int .i64 sa) := S9.cells (w5.heap.size, 2, .int .i64 sa) (by simp)
    have zX : w5.heap.size < w9.heap.size := S9.blk (c := (w5.heap.size, 0, .bool p)) (by simp)
    have v2 := zw2
    go_wp2_with fail
    refine (markDec_any w9 _ p _ l sa 1 (S9.owns (w4.heap.size + 1, w5.heap.size, .slice ax l.length cx, l) (by simp)).1 hla (by omega) (by omega)).mono ?_
    rintro e w10 ⟨rfl, o10, g10⟩
    have S10 := Stt.mark (os1 := [(w3.heap.size, w4.heap.size, .slice aw ol.length cw, ol)]) (os2 := [(w5.heap.size + 1, w6.heap.size, .slice ag ol.length cg, ol)]) (B := w4.heap.size + 1) (E := w5.heap.size) S9 o10 g10 (by intro c hc; simp only [List.mem_cons, List.not_mem_nil, or_false] at hc; rcases hc with rfl | rfl | rfl | rfl | rfl | rfl | rfl | rfl | rfl | rfl | rfl | rfl <;> simp only <;> omega) (by intro o ho; simp only [List.mem_cons, List.not_mem_nil, or_false] at ho; rcases ho with rfl <;> simp only <;> omega) (by intro o ho; simp only [List.mem_cons, List.not_mem_nil, or_false] at ho; rcases ho with rfl <;> simp only <;> omega)
    simp only [List.nil_append, List.cons_append] at S10
    have yyw10 := g10.size
    clear o10 g10 S9
    clear cX0 cX1 cX2 zX
    have cG0 : w10.cell? ⟨w6.heap.size, 0, none⟩ = some (.bool og) := S10.cells (w6.heap.size, 0, .bool og) (by simp)
    have cG1 : w10.cell? ⟨w6.heap.size, 1, none⟩ = some (.slice ag ol.length cg) := S10.cells (w6.heap.size, 1, .slice ag ol.length cg) (by simp)
    have cG2 : w10.cell? ⟨w6.heap.size, 2, none⟩ = some (.int .i64 os) := S10.cells (w6.heap.size, 2, .int .i64 os) (by simp)
    have zG : w6.heap.size < w10.heap.size := S10.blk (c := (w6.heap.size, 0, .bool og)) (by simp)
    have cW0 : w10.cell? ⟨w4.heap.size, 0, none⟩ = some (.bool og) := S10.cells (w4.heap.size, 0, .bool og) (by simp)
    have cW1 : w10.cell? ⟨w4.heap.size, 1, none⟩ = some (.slice aw ol.length cw) := S10.cells (w4.heap.size, 1, .slice aw ol.length cw) (by simp)
    have cW2 : w10.cell? ⟨w4.heap.size, 2, none⟩ = some (.int .i64 os) := S10.cells (w4.heap.size, 2, .int .i64 os) (by simp)
    have zW : w4.heap.size < w10.heap.size := S10.blk (c := (w4.heap.size, 0, .bool og)) (by simp)
    have h16 : (0 : Int) ≤ 1 + l.length := by omega
    go_wp2_with fail
    refine (eqDec_same _ og _ _ ol os (S10.owns (w5.heap.size + 1, w6.heap.size, .slice ag ol.length cg, ol) (by simp)).1.reads (S10.owns (w3.heap.size, w4.heap.size, .slice aw ol.length cw, ol) (by simp)).1.reads).mono ?_
    rintro e w11 ⟨rfl, b11⟩
    have S11 := S10.later b11
    clear b11 S10
    clear cG0 cG1 cG2 zG
    clear cW0 cW1 cW2 zW
    have cG0 : w11.cell? ⟨w6.heap.size, 0, none⟩ = some (.bool og) := S11.cells (w6.heap.size, 0, .bool og) (by simp)
    have cG1 : w11.cell? ⟨w6.heap.size, 1, none⟩ = some (.slice ag ol.length cg) := S11.cells (w6.heap.size, 1, .slice ag ol.length cg) (by simp)
    have cG2 : w11.cell? ⟨w6.heap.size, 2, none⟩ = some (.int .i64 os) := S11.cells (w6.heap.size, 2, .int .i64 os) (by simp)
    have zG : w6.heap.size < w11.heap.size := S11.blk (c := (w6.heap.size, 0, .bool og)) (by simp)
    go_wp2_with fail
    refine (markDec_any w11 _ og _ ol os 1 (S11.owns (w5.heap.size + 1, w6.heap.size, .slice ag ol.length cg, ol) (by simp)).1 (by omega) (by omega) (by omega)).mono ?_
    rintro e w12 ⟨rfl, o12, g12⟩
    have S12 := Stt.mark (os1 := [(w3.heap.size, w4.heap.size, .slice aw ol.length cw, ol), (w4.heap.size + 1, w5.heap.size, .slice ax l.length cx, marks 1 l.length)]) (os2 := []) (B := w5.heap.size + 1) (E := w6.heap.size) S11 o12 g12 (by intro c hc; simp only [List.mem_cons, List.not_mem_nil, or_false] at hc; rcases hc with rfl | rfl | rfl | rfl | rfl | rfl | rfl | rfl | rfl | rfl | rfl | rfl <;> simp only <;> omega) (by intro o ho; simp only [List.mem_cons, List.not_mem_nil, or_false] at ho; rcases ho with rfl | rfl <;> simp only <;> omega) (by intro o ho; cases ho)
    simp only [List.nil_append, List.cons_append] at S12
    have yyw12 := g12.size
    clear o12 g12 S11
    clear cG0 cG1 cG2 zG
    have cG0 : w12.cell? ⟨w6.heap.size, 0, none⟩ = some (.bool og) := S12.cells (w6.heap.size, 0, .bool og) (by simp)
    have cG1 : w12.cell? ⟨w6.heap.size, 1, none⟩ = some (.slice ag ol.length cg) := S12.cells (w6.heap.size, 1, .slice ag ol.length cg) (by simp)
    have cG2 : w12.cell? ⟨w6.heap.size, 2, none⟩ = some (.int .i64 os) := S12.cells (w6.heap.size, 2, .int .i64 os) (by simp)
    have zG : w6.heap.size < w12.heap.size := S12.blk (c := (w6.heap.size, 0, .bool og)) (by simp)
    have hm12 := (S12.owns (w5.heap.size + 1, w6.heap.size, .slice ag ol.length cg, marks 1 ol.length) (by simp)).1.reads
    go_wp2_with fail
    refine (heldDec_any w12 og _ os 1 ol.length hm12 (by omega) (by omega) (by omega)).mono ?_
    rintro e w13 ⟨rfl, b13⟩
    have S13 := S12.later b13
    clear b13 S12 hm12
    clear cG0 cG1 cG2 zG
    have cA0 : w13.cell? ⟨w.heap.size, 0, none⟩ = some (.bool p) := S13.cells (w.heap.size, 0, .bool p) (by simp)
    have cA1 : w13.cell? ⟨w.heap.size, 1, none⟩ = some (.slice ao l.length cap) := S13.cells (w.heap.size, 1, .slice ao l.length cap) (by simp)
    have cA2 : w13.cell? ⟨w.heap.size, 2, none⟩ = some (.int .i64 sa) := S13.cells (w.heap.size, 2, .int .i64 sa) (by simp)
    have zA : w.heap.size < w13.heap.size := S13.blk (c := (w.heap.size, 0, .bool p)) (by simp)
    go_wp2_with fail
    refine (unhide TA _ S13.below hla).mono ?_
    rintro e w14 ⟨a14, c14, rfl, o14, b14⟩
    have S14 := S13.later b14
    clear b14 S13
    clear cA0 cA1 cA2 zA
    go_wp2_with fail
    refine (unhide CI _ _ o14.reads S14.below).mono ?_
    rintro e w15 ⟨ah, ch, rfl, oh15, b15⟩
    have S15 := S14.own b15 oh15
    simp only [List.nil_append, List.cons_append] at S15
    clear b15 oh15 o14 S14
    have cW0 : w15.cell? ⟨w4.heap.size, 0, none⟩ = some (.bool og) := S15.cells (w4.heap.size, 0, .bool og) (by simp)
    have cW1 : w15.cell? ⟨w4.heap.size, 1, none⟩ = some (.slice aw ol.length cw) := S15.cells (w4.heap.size, 1, .slice aw ol.length cw) (by simp)
    have cW2 : w15.cell? ⟨w4.heap.size, 2, none⟩ = some (.int .i64 os) := S15.cells (w4.heap.size, 2, .int .i64 os) (by simp)
    have zW : w4.heap.size < w15.heap.size := S15.blk (c := (w4.heap.size, 0, .bool og)) (by simp)
    have S15b := S15.box3 (.bool og) (.slice ah ol.length ch) (.int .i64 os) 30
    simp only [List.nil_append, List.cons_append] at S15b
    go_wp2_with fail
    refine (eqDec_same _ og _ _ ol os (S15b.owns (w14.heap.size, w15.heap.size, .slice ah ol.length ch, ol) (by simp)).1.reads (S15b.owns (w3.heap.size, w4.heap.size, .slice aw ol.length cw, ol) (by simp)).1.reads).mono ?_
    rintro e w16 ⟨rfl, b16⟩
    have S16 := S15b.later b16
    clear b16 S15b S15
    clear cW0 cW1 cW2 zW
    have cG0 : w16.cell? ⟨w6.heap.size, 0, none⟩ = some (.bool og) := S16.cells (w6.heap.size, 0, .bool og) (by simp)
    have cG1 : w16.cell? ⟨w6.heap.size, 1, none⟩ = some (.slice ag ol.length cg) := S16.cells (w6.heap.size, 1, .slice ag ol.length cg) (by simp)
    have cG2 : w16.cell? ⟨w6.heap.size, 2, none⟩ = some (.int .i64 os) := S16.cells (w6.heap.size, 2, .int .i64 os) (by simp)
    have zG : w6.heap.size < w16.heap.size := S16.blk (c := (w6.heap.size, 0, .bool og)) (by simp)
    have hm16 := (S16.owns (w5.heap.size + 1, w6.heap.size, .slice ag ol.length cg, marks 1 ol.length) (by simp)).1.reads
    go_wp2_with fail
    refine (heldDec_any w16 og _ os 1 ol.length hm16 (by omega) (by omega) (by omega)).mono ?_
    rintro e w17 ⟨rfl, b17⟩
    have S17 := S16.later b17
    clear b17 S16 hm16
    clear cG0 cG1 cG2 zG
    go_wp2
    go_ret
    exact ⟨rfl, S17.below⟩

end Go.Proofs.YtjamogkenghonaaGreatDoor
