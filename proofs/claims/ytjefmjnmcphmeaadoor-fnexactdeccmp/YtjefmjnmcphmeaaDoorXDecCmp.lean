/- The law laws.FnExactDecCmp: its walk. -/
import Derived.Test.YtjefmjnmcphmeaaDoorStt3
import Derived.Test.YtjefmjnmcphmeaaDoorLawD
import Derived.Test.YtjefmjnmcphmeaaDoorDcC
import Derived.Deep.RegionHeld
namespace Go.Proofs.YtjefmjnmcphmeaaDoor
open Go.RowKit

set_option maxHeartbeats 4000000 in
set_option maxRecDepth 100000 in
theorem xDecCmp_walk (w : World) (p q : Bool) (u v : Value) (l m : List Int) (sa sb : Int) (hu : Reads w u l) (hv : Reads w v m) (tt : Tab w) :
    Calls Tryd.prog 3 #[.agg #[.bool p, u, .int .i64 sa], .agg #[.bool q, v, .int .i64 sb]] w fun e w' => e = .returned (.bool true) ∧ Below w.heap.size w w' := by
  have CS := hide (fun W s t (hs : Reads W s l) (ht : Reads W t m) => specDecCmp_any W p q s t l m sa sb hs ht)
  have CI := hide (fun W s t (hs : Reads W s l) (ht : Reads W t m) (k : Below w.heap.size w W) => implDecCmp_any W p q s t l m sa sb hs ht (tt.later k))
  generalize dcmpR p l sa q m sb = r at *
  have TA := hide (fun W (h : Below w.heap.size w W) (hl : l.length ≤ 1048576) => toDec_any W p u l sa (hu.later h) hl)
  have TB := hide (fun W (h : Below w.heap.size w W) (hl : m.length ≤ 1048576) => toDec_any W q v m sb (hv.later h) hl)
  have ZA := hide (fun W (h : Below w.heap.size w W) => szDec_any W p u l sa 1048576 (hu.later h) (by omega) (by omega))
  have ZB := hide (fun W (h : Below w.heap.size w W) left (h0 : 0 ≤ left) (h1 : left ≤ 1048576) => szDec_any W q v m sb left (hv.later h) h0 h1)
  have hrr : (r != r) = false := by simp
  obtain ⟨ao, b1, off, cap, rfl, hu0⟩ := id hu
  obtain ⟨ao', b2, off', cap', rfl, hv0⟩ := id hv
  clear hu0 hv0 hu hv
  have S0 : Stt w ((w.alloc (.cells #[.bool p, .slice ao l.length cap, .int .i64 sa] 26)).alloc (.cells #[.bool q, .slice ao' m.length cap', .int .i64 sb] 26)) [(w.heap.size, 0, .bool p), (w.heap.size, 1, .slice ao l.length cap), (w.heap.size, 2, .int .i64 sa), (w.heap.size + 1, 0, .bool q), (w.heap.size + 1, 1, .slice ao' m.length cap'), (w.heap.size + 1, 2, .int .i64 sb)] [] := by
    have h : Stt w w [] [] := ⟨Below.refl _ _, by simp, by simp⟩
    have h2 := (h.box3 (.bool p) (.slice ao l.length cap) (.int .i64 sa) 26).box3 (.bool q) (.slice ao' m.length cap') (.int .i64 sb) 26
    simpa using h2
  by_cases hl1 : (1048576 : Int) < l.length
  · go_enter Tryd.func3, Tryd.ntmps3
    go_wp2_with fail
    refine (unhide ZA _ S0.below).mono ?_
    rw [if_pos (by omega)]
    rintro e w1 ⟨rfl, b1⟩
    have S1 := S0.later b1
    clear b1
    go_wp2
    go_ret
    exact ⟨rfl, S1.below⟩
  by_cases hl2 : (1048576 : Int) - l.length < m.length
  · have h0 : (0 : Int) ≤ 1048576 - l.length := by omega
    go_enter Tryd.func3, Tryd.ntmps3
    go_wp2_with fail
    refine (unhide ZA _ S0.below).mono ?_
    rw [if_neg (by omega)]
    rintro e w1 ⟨rfl, b1⟩
    have S1 := S0.later b1
    have cB0 : w1.cell? ⟨w.heap.size + 1, 0, none⟩ = some (.bool q) := S1.cells (w.heap.size + 1, 0, .bool q) (by simp)
    have cB1 : w1.cell? ⟨w.heap.size + 1, 1, none⟩ = some (.slice ao' m.length cap') := S1.cells (w.heap.size + 1, 1, .slice ao' m.length cap') (by simp)
    have cB2 : w1.cell? ⟨w.heap.size + 1, 2, none⟩ = some (.int .i64 sb) := S1.cells (w.heap.size + 1, 2, .int .i64 sb) (by simp)
    have zB : w.heap.size + 1 < w1.heap.size := S1.blk (c := (w.heap.size + 1, 0, .bool q)) (by simp)
    clear b1
    go_wp2_with fail
    refine (unhide ZB _ S1.below _ (by omega) (by omega)).mono ?_
    rw [if_pos (by omega)]
    rintro e w2 ⟨rfl, b2⟩
    have S2 := S1.later b2
    clear b2
    go_wp2
    go_ret
    exact ⟨rfl, S2.below⟩
  · have h0 : (0 : Int) ≤ 1048576 - l.length := by omega
    have h00 : (0 : Int) ≤ 1048576 - l.length - m.length := by omega
    have hla : l.length ≤ 1048576 := by omega
    have hlb : m.length ≤ 1048576 := by omega
    go_enter Tryd.func3, Tryd.ntmps3
    go_wp2_with fail
    refine (unhide ZA _ S0.below).mono ?_
    rw [if_neg (by omega)]
    rintro e w1 ⟨rfl, b1⟩
    have S1 := S0.later b1
    have cB0 : w1.cell? ⟨w.heap.size + 1, 0, none⟩ = some (.bool q) := S1.cells (w.heap.size + 1, 0, .bool q) (by simp)
    have cB1 : w1.cell? ⟨w.heap.size + 1, 1, none⟩ = some (.slice ao' m.length cap') := S1.cells (w.heap.size + 1, 1, .slice ao' m.length cap') (by simp)
    have cB2 : w1.cell? ⟨w.heap.size + 1, 2, none⟩ = some (.int .i64 sb) := S1.cells (w.heap.size + 1, 2, .int .i64 sb) (by simp)
    have zB : w.heap.size + 1 < w1.heap.size := S1.blk (c := (w.heap.size + 1, 0, .bool q)) (by simp)
    clear b1
    go_wp2_with fail
    refine (unhide ZB _ S1.below _ (by omega) (by omega)).mono ?_
    rw [if_neg (by omega)]
    rintro e w2 ⟨rfl, b2⟩
    have S2 := S1.later b2
    clear b2 ZA ZB S0 S1
    clear cB0 cB1 cB2 zB
    have cA0 : w2.cell? ⟨w.heap.size, 0, none⟩ = some (.bool p) := S2.cells (w.heap.size, 0, .bool p) (by simp)
    have cA1 : w2.cell? ⟨w.heap.size, 1, none⟩ = some (.slice ao l.length cap) := S2.cells (w.heap.size, 1, .slice ao l.length cap) (by simp)
    have cA2 : w2.cell? ⟨w.heap.size, 2, none⟩ = some (.int .i64 sa) := S2.cells (w.heap.size, 2, .int .i64 sa) (by simp)
    have zA : w.heap.size < w2.heap.size := S2.blk (c := (w.heap.size, 0, .bool p)) (by simp)
    have cB0 : w2.cell? ⟨w.heap.size + 1, 0, none⟩ = some (.bool q) := S2.cells (w.heap.size + 1, 0, .bool q) (by simp)
    have cB1 : w2.cell? ⟨w.heap.size + 1, 1, none⟩ = some (.slice ao' m.length cap') := S2.cells (w.heap.size + 1, 1, .slice ao' m.length cap') (by simp)
    have cB2 : w2.cell? ⟨w.heap.size + 1, 2, none⟩ = some (.int .i64 sb) := S2.cells (w.heap.size + 1, 2, .int .i64 sb) (by simp)
    have zB : w.heap.size + 1 < w2.heap.size := S2.blk (c := (w.heap.size + 1, 0, .bool q)) (by simp)
    have stab : ∀ w' : World, Below w2.heap.size w2 w' → (w'.cell? ⟨w.heap.size, 0, none⟩ = some (.bool p) ∧ w'.cell? ⟨w.heap.size, 1, none⟩ = some (.slice ao l.length cap) ∧ w'.cell? ⟨w.heap.size, 2, none⟩ = some (.int .i64 sa) ∧ w'.cell? ⟨w.heap.size + 1, 0, none⟩ = some (.bool q) ∧ w'.cell? ⟨w.heap.size + 1, 1, none⟩ = some (.slice ao' m.length cap') ∧ w'.cell? ⟨w.heap.size + 1, 2, none⟩ = some (.int .i64 sb)) := fun w' h => ⟨(S2.later h).cells (w.heap.size, 0, .bool p) (by simp), (S2.later h).cells (w.heap.size, 1, .slice ao l.length cap) (by simp), (S2.later h).cells (w.heap.size, 2, .int .i64 sa) (by simp), (S2.later h).cells (w.heap.size + 1, 0, .bool q) (by simp), (S2.later h).cells (w.heap.size + 1, 1, .slice ao' m.length cap') (by simp), (S2.later h).cells (w.heap.size + 1, 2, .int .i64 sb) (by simp)⟩
    have Stab := hide stab
    clear stab
    go_wp2
    go_region_held (fun w' => w'.cell? ⟨w.heap.size, 0, none⟩ = some (.bool p) ∧ w'.cell? ⟨w.heap.size, 1, none⟩ = some (.slice ao l.length cap) ∧ w'.cell? ⟨w.heap.size, 2, none⟩ = some (.int .i64 sa) ∧ w'.cell? ⟨w.heap.size + 1, 0, none⟩ = some (.bool q) ∧ w'.cell? ⟨w.heap.size + 1, 1, none⟩ = some (.slice ao' m.length cap') ∧ w'.cell? ⟨w.heap.size + 1, 2, none⟩ = some (.int .i64 sb))
      (first | exact unhide Stab _ (Below.refl _ _).drew | (refine unhide Stab _ ?_; assumption))
      (first
        | (go_at_call_of 8 (Value.slice ao l.length cap); refine (unhide TA _ ?_ hla).mono ?_; exact S2.drew.below; rintro e w3 ⟨a3, c3, rfl, o3, b3⟩; have BW3 : Below w2.heap.size w2 w3 := (Below.refl _ _).drew.trans b3; have S3 := S2.later BW3)
        | (go_at_call_of 8 (Value.slice ao' m.length cap'); refine (unhide TB _ ?_ hlb).mono ?_; exact S3.below; rintro e w4 ⟨a4, c4, rfl, o4, b4⟩; have BW4 : Below w2.heap.size w2 w4 := BW3.trans (b4.mono BW3.size); have o3' := o3.later b4)
        | (go_at_call 7; refine (unhide CS _ _ _ o3'.reads o4.reads).mono ?_; rintro e wc ⟨rfl, b5⟩; have BW5 : Below w2.heap.size w2 wc := BW4.trans (b5.mono BW4.size)))
    have S6 := S2.later BW5
    clear BW3 BW4 BW5 b3 b4 b5 o3 o4 o3' S3 Stab
    clear cA0 cA1 cA2 zA cB0 cB1 cB2 zB
    clear S2
    have cA0 : wc.cell? ⟨w.heap.size, 0, none⟩ = some (.bool p) := S6.cells (w.heap.size, 0, .bool p) (by simp)
    have cA1 : wc.cell? ⟨w.heap.size, 1, none⟩ = some (.slice ao l.length cap) := S6.cells (w.heap.size, 1, .slice ao l.length cap) (by simp)
    have cA2 : wc.cell? ⟨w.heap.size, 2, none⟩ = some (.int .i64 sa) := S6.cells (w.heap.size, 2, .int .i64 sa) (by simp)
    have zA : w.heap.size < wc.heap.size := S6.blk (c := (w.heap.size, 0, .bool p)) (by simp)
    go_wp2_with fail
    refine (unhide TA _ S6.below hla).mono ?_
    rintro e w7 ⟨ax, cx, rfl, ox7, b7⟩
    have S7 := S6.own b7 ox7
    simp only [List.nil_append] at S7
    clear b7 ox7 S6
    clear cA0 cA1 cA2 zA
    have cB0 : w7.cell? ⟨w.heap.size + 1, 0, none⟩ = some (.bool q) := S7.cells (w.heap.size + 1, 0, .bool q) (by simp)
    have cB1 : w7.cell? ⟨w.heap.size + 1, 1, none⟩ = some (.slice ao' m.length cap') := S7.cells (w.heap.size + 1, 1, .slice ao' m.length cap') (by simp)
    have cB2 : w7.cell? ⟨w.heap.size + 1, 2, none⟩ = some (.int .i64 sb) := S7.cells (w.heap.size + 1, 2, .int .i64 sb) (by simp)
    have zB : w.heap.size + 1 < w7.heap.size := S7.blk (c := (w.heap.size + 1, 0, .bool q)) (by simp)
    go_wp2_with fail
    have S7b := S7.box3 (.bool p) (.slice ax l.length cx) (.int .i64 sa) 31
    simp only [List.nil_append, List.cons_append] at S7b
    refine (unhide TB _ S7b.below hlb).mono ?_
    rintro e w8 ⟨ay, cy, rfl, oy8, b8⟩
    have S8 := S7b.own b8 oy8
    simp only [List.nil_append, List.cons_append, World.size_alloc] at S8
    clear b8 oy8 S7b S7
    clear cB0 cB1 cB2 zB
    have cX0 : w8.cell? ⟨w7.heap.size, 0, none⟩ = some (.bool p) := S8.cells (w7.heap.size, 0, .bool p) (by simp)
    have cX1 : w8.cell? ⟨w7.heap.size, 1, none⟩ = some (.slice ax l.length cx) := S8.cells (w7.heap.size, 1, .slice ax l.length cx) (by simp)
    have cX2 : w8.cell? ⟨w7.heap.size, 2, none⟩ = some (.int .i64 sa) := S8.cells (w7.heap.size, 2, .int .i64 sa) (by simp)
    have zX : w7.heap.size < w8.heap.size := S8.blk (c := (w7.heap.size, 0, .bool p)) (by simp)
    go_wp2_with fail
    have S8b := S8.box3 (.bool q) (.slice ay m.length cy) (.int .i64 sb) 31
    simp only [List.nil_append, List.cons_append] at S8b
    refine (unhide CI _ _ _ (S8b.owns (wc.heap.size, w7.heap.size, .slice ax l.length cx, l) (by simp)).1.reads (S8b.owns (w7.heap.size + 1, w8.heap.size, .slice ay m.length cy, m) (by simp)).1.reads S8b.below).mono ?_
    rintro e w10 ⟨rfl, b9⟩
    have S10 := S8b.later b9
    clear b9 S8b S8
    clear cX0 cX1 cX2 zX
    have cX0 : w10.cell? ⟨w7.heap.size, 0, none⟩ = some (.bool p) := S10.cells (w7.heap.size, 0, .bool p) (by simp)
    have cX1 : w10.cell? ⟨w7.heap.size, 1, none⟩ = some (.slice ax l.length cx) := S10.cells (w7.heap.size, 1, .slice ax l.length cx) (by simp)
    have cX2 : w10.cell? ⟨w7.heap.size, 2, none⟩ = some (.int .i64 sa) := S10.cells (w7.heap.size, 2, .int .i64 sa) (by simp)
    have zX : w7.heap.size < w10.heap.size := S10.blk (c := (w7.heap.size, 0, .bool p)) (by simp)
    have cA0 : w10.cell? ⟨w.heap.size, 0, none⟩ = some (.bool p) := S10.cells (w.heap.size, 0, .bool p) (by simp)
    have cA1 : w10.cell? ⟨w.heap.size, 1, none⟩ = some (.slice ao l.length cap) := S10.cells (w.heap.size, 1, .slice ao l.length cap) (by simp)
    have cA2 : w10.cell? ⟨w.heap.size, 2, none⟩ = some (.int .i64 sa) := S10.cells (w.heap.size, 2, .int .i64 sa) (by simp)
    have zA : w.heap.size < w10.heap.size := S10.blk (c := (w.heap.size, 0, .bool p)) (by simp)
    have stabP : ∀ w' : World, Below w10.heap.size w10 w' → (w'.cell? ⟨w7.heap.size, 0, none⟩ = some (.bool p) ∧ w'.cell? ⟨w7.heap.size, 1, none⟩ = some (.slice ax l.length cx) ∧ w'.cell? ⟨w7.heap.size, 2, none⟩ = some (.int .i64 sa) ∧ w'.cell? ⟨w.heap.size, 0, none⟩ = some (.bool p) ∧ w'.cell? ⟨w.heap.size, 1, none⟩ = some (.slice ao l.length cap) ∧ w'.cell? ⟨w.heap.size, 2, none⟩ = some (.int .i64 sa)) := fun w' h => ⟨(S10.later h).cells (w7.heap.size, 0, .bool p) (by simp), (S10.later h).cells (w7.heap.size, 1, .slice ax l.length cx) (by simp), (S10.later h).cells (w7.heap.size, 2, .int .i64 sa) (by simp), (S10.later h).cells (w.heap.size, 0, .bool p) (by simp), (S10.later h).cells (w.heap.size, 1, .slice ao l.length cap) (by simp), (S10.later h).cells (w.heap.size, 2, .int .i64 sa) (by simp)⟩
    have StabP := hide stabP
    have oxP := (S10.owns (wc.heap.size, w7.heap.size, .slice ax l.length cx, l) (by simp)).1
    clear stabP
    go_wp2
    go_region_held (fun w' => w'.cell? ⟨w7.heap.size, 0, none⟩ = some (.bool p) ∧ w'.cell? ⟨w7.heap.size, 1, none⟩ = some (.slice ax l.length cx) ∧ w'.cell? ⟨w7.heap.size, 2, none⟩ = some (.int .i64 sa) ∧ w'.cell? ⟨w.heap.size, 0, none⟩ = some (.bool p) ∧ w'.cell? ⟨w.heap.size, 1, none⟩ = some (.slice ao l.length cap) ∧ w'.cell? ⟨w.heap.size, 2, none⟩ = some (.int .i64 sa))
      (first | exact unhide StabP _ (Below.refl _ _).drew | (refine unhide StabP _ ?_; assumption))
      (first
        | (go_at_call 8; refine (unhide TA _ ?_ hla).mono ?_; exact S10.drew.below; rintro e w11 ⟨a9, c9, rfl, o9, b9⟩; have BXP : Below w10.heap.size w10 w11 := (Below.refl _ _).drew.trans b9; have oyP := oxP.later BXP)
        | (go_at_call 10; refine (eqDec_same _ p _ _ l sa ?_ ?_).mono ?_; exact oyP.reads; exact o9.reads; rintro e w12 ⟨rfl, b10⟩; have BYP := BXP.trans (b10.mono BXP.size)))
    have S12 := S10.later BYP
    clear BXP BYP b9 b10 o9 oxP oyP StabP
    clear S10
    clear cX0 cX1 cX2 zX cA0 cA1 cA2 zA
    have cY0 : w12.cell? ⟨w8.heap.size, 0, none⟩ = some (.bool q) := S12.cells (w8.heap.size, 0, .bool q) (by simp)
    have cY1 : w12.cell? ⟨w8.heap.size, 1, none⟩ = some (.slice ay m.length cy) := S12.cells (w8.heap.size, 1, .slice ay m.length cy) (by simp)
    have cY2 : w12.cell? ⟨w8.heap.size, 2, none⟩ = some (.int .i64 sb) := S12.cells (w8.heap.size, 2, .int .i64 sb) (by simp)
    have zY : w8.heap.size < w12.heap.size := S12.blk (c := (w8.heap.size, 0, .bool q)) (by simp)
    have cB0 : w12.cell? ⟨w.heap.size + 1, 0, none⟩ = some (.bool q) := S12.cells (w.heap.size + 1, 0, .bool q) (by simp)
    have cB1 : w12.cell? ⟨w.heap.size + 1, 1, none⟩ = some (.slice ao' m.length cap') := S12.cells (w.heap.size + 1, 1, .slice ao' m.length cap') (by simp)
    have cB2 : w12.cell? ⟨w.heap.size + 1, 2, none⟩ = some (.int .i64 sb) := S12.cells (w.heap.size + 1, 2, .int .i64 sb) (by simp)
    have zB : w.heap.size + 1 < w12.heap.size := S12.blk (c := (w.heap.size + 1, 0, .bool q)) (by simp)
    have stabQ : ∀ w' : World, Below w12.heap.size w12 w' → (w'.cell? ⟨w8.heap.size, 0, none⟩ = some (.bool q) ∧ w'.cell? ⟨w8.heap.size, 1, none⟩ = some (.slice ay m.length cy) ∧ w'.cell? ⟨w8.heap.size, 2, none⟩ = some (.int .i64 sb) ∧ w'.cell? ⟨w.heap.size + 1, 0, none⟩ = some (.bool q) ∧ w'.cell? ⟨w.heap.size + 1, 1, none⟩ = some (.slice ao' m.length cap') ∧ w'.cell? ⟨w.heap.size + 1, 2, none⟩ = some (.int .i64 sb)) := fun w' h => ⟨(S12.later h).cells (w8.heap.size, 0, .bool q) (by simp), (S12.later h).cells (w8.heap.size, 1, .slice ay m.length cy) (by simp), (S12.later h).cells (w8.heap.size, 2, .int .i64 sb) (by simp), (S12.later h).cells (w.heap.size + 1, 0, .bool q) (by simp), (S12.later h).cells (w.heap.size + 1, 1, .slice ao' m.length cap') (by simp), (S12.later h).cells (w.heap.size + 1, 2, .int .i64 sb) (by simp)⟩
    have StabQ := hide stabQ
    have oxQ := (S12.owns (w7.heap.size + 1, w8.heap.size, .slice ay m.length cy, m) (by simp)).1
    clear stabQ
    go_wp2
    go_region_held (fun w' => w'.cell? ⟨w8.heap.size, 0, none⟩ = some (.bool q) ∧ w'.cell? ⟨w8.heap.size, 1, none⟩ = some (.slice ay m.length cy) ∧ w'.cell? ⟨w8.heap.size, 2, none⟩ = some (.int .i64 sb) ∧ w'.cell? ⟨w.heap.size + 1, 0, none⟩ = some (.bool q) ∧ w'.cell? ⟨w.heap.size + 1, 1, none⟩ = some (.slice ao' m.length cap') ∧ w'.cell? ⟨w.heap.size + 1, 2, none⟩ = some (.int .i64 sb))
      (first | exact unhide StabQ _ (Below.refl _ _).drew | (refine unhide StabQ _ ?_; assumption))
      (first
        | (go_at_call 8; refine (unhide TB _ ?_ hlb).mono ?_; exact S12.drew.below; rintro e w13 ⟨a9, c9, rfl, o9, b9⟩; have BXQ : Below w12.heap.size w12 w13 := (Below.refl _ _).drew.trans b9; have oyQ := oxQ.later BXQ)
        | (go_at_call 10; refine (eqDec_same _ q _ _ m sb ?_ ?_).mono ?_; exact oyQ.reads; exact o9.reads; rintro e w14 ⟨rfl, b10⟩; have BYQ := BXQ.trans (b10.mono BXQ.size)))
    have S14 := S12.later BYQ
    clear BXQ BYQ b9 b10 o9 oxQ oyQ StabQ
    go_wp2
    go_ret
    exact ⟨rfl, S14.below⟩

end Go.Proofs.YtjefmjnmcphmeaaDoor
