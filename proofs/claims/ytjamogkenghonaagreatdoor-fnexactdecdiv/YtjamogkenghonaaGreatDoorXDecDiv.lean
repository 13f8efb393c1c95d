/- The law laws.FnExactDecDiv: its walk. -/
import Derived.Test.YtjamogkenghonaaGreatDoorGc
import Derived.Test.YtjamogkenghonaaGreatDoorGd
import Derived.Test.YtjamogkenghonaaGreatDoorRqV
import Derived.Deep.RegionHeld
import Derived.Deep.DeepCutAuto
namespace Go.Proofs.YtjamogkenghonaaGreatDoor
open Go.RowKit

set_option maxHeartbeats 4000000 in
set_option maxRecDepth 100000 in
theorem xDecDiv_walk (w : World) (p q : Bool) (u v : Value) (l m : List Int) (sa sb sc md : Int) (hu : Reads w u l) (hv : Reads w v m) (tt : Tab w) (hd : Hd w) :
    Calls Tryz.prog 6 #[.agg #[.bool p, u, .int .i64 sa], .agg #[.bool q, v, .int .i64 sb], .int .i64 sc, .int .i64 md] w fun e w' => e = .returned (.bool true) ∧ Below w.heap.size w w' := by
  have hlen : (ddivR p l sa q m sb sc md).2.1.length ≤ 1000 := xDecDiv_len p l sa q m sb sc md
  have CS := hide (fun W s t (hs : Reads W s l) (ht : Reads W t m) (_ : Below w.heap.size w W) => specDecDiv_any W p q s t l m sa sb sc md hs ht)
  have CI := hide (fun W s t (hs : Reads W s l) (ht : Reads W t m) (k : Below w.heap.size w W) => implDecDiv_any W p q s t l m sa sb sc md hs ht (tt.later k) (hd.later k))
  generalize ddivR p l sa q m sb sc md = O at *
  obtain ⟨og, ol, os, oc⟩ := O
  simp only at hlen
  have TA := hide (fun W (h : Below w.heap.size w W) (hl : l.length ≤ 1048576) => toDec_any W p u l sa (hu.later h) hl)
  have TB := hide (fun W (h : Below w.heap.size w W) (hl : m.length ≤ 1048576) => toDec_any W q v m sb (hv.later h) hl)
  have ZA := hide (fun W (h : Below w.heap.size w W) => szDec_any W p u l sa 1048576 (hu.later h) (by omega) (by omega))
  have ZB := hide (fun W (h : Below w.heap.size w W) left (h0 : 0 ≤ left) (h1 : left ≤ 1048576) => szDec_any W q v m sb left (hv.later h) h0 h1)
  have hok : (oc != oc) = false := by simp
  obtain ⟨ao, b1, off, cap, rfl, hu0⟩ := id hu
  obtain ⟨ao', b2, off', cap', rfl, hv0⟩ := id hv
  clear hu0 hv0 hu hv
  have S0 : Stt w ((w.alloc (.cells #[.bool p, .slice ao l.length cap, .int .i64 sa] 26)).alloc (.cells #[.bool q, .slice ao' m.length cap', .int .i64 sb] 26)) [(w.heap.size, 0, .bool p), (w.heap.size, 1, .slice ao l.length cap), (w.heap.size, 2, .int .i64 sa), (w.heap.size + 1, 0, .bool q), (w.heap.size + 1, 1, .slice ao' m.length cap'), (w.heap.size + 1, 2, .int .i64 sb)] [] := by
    have h : Stt w w [] [] := ⟨Below.refl _ _, by simp, by simp⟩
    have h2 := (h.box3 (.bool p) (.slice ao l.length cap) (.int .i64 sa) 26).box3 (.bool q) (.slice ao' m.length cap') (.int .i64 sb) 26
    simpa using h2
  by_cases hl1 : (1048576 : Int) < l.length
  · go_enter Tryz.func6, Tryz.ntmps6
    go_wp2_with fail
    refine (unhide ZA _ S0.below).mono ?_
    rw [if_pos (by omega)]
    rintro e w1 ⟨rfl, b1⟩
    have S1 := S0.later b1
    clear b1
    go_wp2
    go_ret
    exact ⟨rfl, S1.below⟩
  by_cases hl2 : (1048576 : Int) - l.length < m.length
  · have h0 : (0 : Int) ≤ 1048576 - l.length := by omega
    go_enter Tryz.func6, Tryz.ntmps6
    go_wp2_with fail
    refine (unhide ZA _ S0.below).mono ?_
    rw [if_neg (by omega)]
    rintro e w1 ⟨rfl, b1⟩
    have S1 := S0.later b1
    have cB0 : w1.cell? ⟨w.heap.size + 1, 0, none⟩ = some (.bool q) := S1.cells (w.heap.size + 1, 0, .bool q) (by simp)
    have cB1 : w1.cell? ⟨w.heap.size + 1, 1, none⟩ = some (.slice ao' m.length cap') := S1.cells (w.heap.size + 1, 1, .slice ao' m.length cap') (by simp)
    have cB2 : w1.cell? ⟨w.heap.size + 1, 2, none⟩ = some (.int .i64 sb) := S1.cells (w.heap.size + 1, 2, .int .i64 sb) (by simp)
    have zB : w.heap.size + 1 < w1.heap.size := S1.blk (c := (w.heap.size + 1, 0, .bool q)) (by simp)
    clear b1
    go_wp2_with fail
    refine (unhide ZB _ S1.below _ (by omega) (by omega)).mono ?_
    rw [if_pos (by omega)]
    rintro e w2 ⟨rfl, b2⟩
    have S2 := S1.later b2
    clear b2
    go_wp2
    go_ret
    exact ⟨rfl, S2.below⟩
  · have h0 : (0 : Int) ≤ 1048576 - l.length := by omega
    have h00 : (0 : Int) ≤ 1048576 - l.length - m.length := by omega
    have hla : l.length ≤ 1048576 := by omega
    have hlb : m.length ≤ 1048576 := by omega
    go_enter Tryz.func6, Tryz.ntmps6
    go_wp2_with fail
    refine (unhide ZA _ S0.below).mono ?_
    rw [if_neg (by omega)]
    rintro e w1 ⟨rfl, b1⟩
    have S1 := S0.later b1
    have cB0 : w1.cell? ⟨w.heap.size + 1, 0, none⟩ = some (.bool q) := S1.cells (w.heap.size + 1, 0, .bool q) (by simp)
    have cB1 : w1.cell? ⟨w.heap.size + 1, 1, none⟩ = some (.slice ao' m.length cap') := S1.cells (w.heap.size + 1, 1, .slice ao' m.length cap') (by simp)
    have cB2 : w1.cell? ⟨w.heap.size + 1, 2, none⟩ = some (.int .i64 sb) := S1.cells (w.heap.size + 1, 2, .int .i64 sb) (by simp)
    have zB : w.heap.size + 1 < w1.heap.size := S1.blk (c := (w.heap.size + 1, 0, .bool q)) (by simp)
    clear b1
    go_wp2_with fail
    refine (unhide ZB _ S1.below _ (by omega) (by omega)).mono ?_
    rw [if_neg (by omega)]
    rintro e w2 ⟨rfl, b2⟩
    have S2 := S1.later b2
    clear b2 ZA ZB S0 S1
    clear cB0 cB1 cB2 zB
    have cA0 : w2.cell? ⟨w.heap.size, 0, none⟩ = some (.bool p) := S2.cells (w.heap.size, 0, .bool p) (by simp)
    have cA1 : w2.cell? ⟨w.heap.size, 1, none⟩ = some (.slice ao l.length cap) := S2.cells (w.heap.size, 1, .slice ao l.length cap) (by simp)
    have cA2 : w2.cell? ⟨w.heap.size, 2, none⟩ = some (.int .i64 sa) := S2.cells (w.heap.size, 2, .int .i64 sa) (by simp)
    have zA : w.heap.size < w2.heap.size := S2.blk (c := (w.heap.size, 0, .bool p)) (by simp)
    have cB0 : w2.cell? ⟨w.heap.size + 1, 0, none⟩ = some (.bool q) := S2.cells (w.heap.size + 1, 0, .bool q) (by simp)
    have cB1 : w2.cell? ⟨w.heap.size + 1, 1, none⟩ = some (.slice ao' m.length cap') := S2.cells (w.heap.size + 1, 1, .slice ao' m.length cap') (by simp)
    have cB2 : w2.cell? ⟨w.heap.size + 1, 2, none⟩ = some (.int .i64 sb) := S2.cells (w.heap.size + 1, 2, .int .i64 sb) (by simp)
    have zB : w.heap.size + 1 < w2.heap.size := S2.blk (c := (w.heap.size + 1, 0, .bool q)) (by simp)
    have stab : ∀ w' : World, Below w2.heap.size w2 w' → ((w'.cell? ⟨w.heap.size, 0, none⟩ = some (.bool p) ∧ w'.cell? ⟨w.heap.size, 1, none⟩ = some (.slice ao l.length cap) ∧ w'.cell? ⟨w.heap.size, 2, none⟩ = some (.int .i64 sa) ∧ w'.cell? ⟨w.heap.size + 1, 0, none⟩ = some (.bool q) ∧ w'.cell? ⟨w.heap.size + 1, 1, none⟩ = some (.slice ao' m.length cap') ∧ w'.cell? ⟨w.heap.size + 1, 2, none⟩ = some (.int .i64 sb)) ∧ Below w2.heap.size w2 w') := fun w' h => ⟨⟨(S2.later h).cells (w.heap.size, 0, .bool p) (by simp), (S2.later h).cells (w.heap.size, 1, .slice ao l.length cap) (by simp), (S2.later h).cells (w.heap.size, 2, .int .i64 sa) (by simp), (S2.later h).cells (w.heap.size + 1, 0, .bool q) (by simp), (S2.later h).cells (w.heap.size + 1, 1, .slice ao' m.length cap') (by simp), (S2.later h).cells (w.heap.size + 1, 2, .int .i64 sb) (by simp)⟩, h⟩
    have hB : ∀ W : World, ((W.cell? ⟨w.heap.size, 0, none⟩ = some (.bool p) ∧ W.cell? ⟨w.heap.size, 1, none⟩ = some (.slice ao l.length cap) ∧ W.cell? ⟨w.heap.size, 2, none⟩ = some (.int .i64 sa) ∧ W.cell? ⟨w.heap.size + 1, 0, none⟩ = some (.bool q) ∧ W.cell? ⟨w.heap.size + 1, 1, none⟩ = some (.slice ao' m.length cap') ∧ W.cell? ⟨w.heap.size + 1, 2, none⟩ = some (.int .i64 sb)) ∧ Below w2.heap.size w2 W) → Below w2.heap.size w2 W := fun W h => h.2
    have Stab := hide stab
    have HB := hide hB
    clear stab hB
    go_wp2
    go_cut [10, 11] (fun sp sv wk => ∃ (nB Bf Et : Nat) (ab : Option Addr) (cb : Nat), sp = .pointer (some ⟨nB, 0, none⟩) ∧ sv = .int .i64 oc ∧ Stt w wk ([(w.heap.size, 0, .bool p), (w.heap.size, 1, .slice ao l.length cap), (w.heap.size, 2, .int .i64 sa), (w.heap.size + 1, 0, .bool q), (w.heap.size + 1, 1, .slice ao' m.length cap'), (w.heap.size + 1, 2, .int .i64 sb)] ++ [(nB, 0, .bool og), (nB, 1, .slice ab ol.length cb), (nB, 2, .int .i64 os)]) ([] ++ [(Bf, Et, .slice ab ol.length cb, ol)]))
    case first =>
      go_region_held (fun w' => (w'.cell? ⟨w.heap.size, 0, none⟩ = some (.bool p) ∧ w'.cell? ⟨w.heap.size, 1, none⟩ = some (.slice ao l.length cap) ∧ w'.cell? ⟨w.heap.size, 2, none⟩ = some (.int .i64 sa) ∧ w'.cell? ⟨w.heap.size + 1, 0, none⟩ = some (.bool q) ∧ w'.cell? ⟨w.heap.size + 1, 1, none⟩ = some (.slice ao' m.length cap') ∧ w'.cell? ⟨w.heap.size + 1, 2, none⟩ = some (.int .i64 sb)) ∧ Below w2.heap.size w2 w')
        (first | exact unhide Stab _ (Below.refl _ _).drew | exact unhide Stab _ ((Below.refl _ _).alloc (Nat.le_refl _) _).drew | (refine unhide Stab _ ?_; assumption) | (refine unhide Stab _ (Below.alloc (unhide HB _ ?_) (Below.size (unhide HB _ ?_)) _) <;> assumption) | exact unhide Stab _ (BW5.alloc BW5.size _) | exact unhide Stab _ (((BW5.setCell (Nat.le_refl _) _).setCell (Nat.le_refl _) _).setCell (Nat.le_refl _) _) | exact unhide Stab _ (((BW5.setCell BW3.size _).setCell BW3.size _).setCell BW3.size _) | exact unhide Stab _ (((BW5.setCell BW4.size _).setCell BW4.size _).setCell BW4.size _))
        (first
          | (go_at_call_of 10 (Value.slice ao l.length cap); refine (unhide TA _ ?_ hla).mono ?_; exact S2.below.trans ((unhide HB _ (by assumption)).mono S2.below.size); rintro e w3 ⟨a3, c3, rfl, o3, b3⟩; have BW3 : Below w2.heap.size w2 w3 := (unhide HB _ (by assumption)).trans (b3.mono (unhide HB _ (by assumption)).size); (try (have E3 := EDb.drew b3)))
          | (go_at_call_of 10 (Value.slice ao' m.length cap'); refine (unhide TB _ ?_ hlb).mono ?_; exact S2.below.trans ((unhide HB _ (by assumption)).mono S2.below.size); rintro e w4 ⟨a4, c4, rfl, o4, b4⟩; have BW4 : Below w2.heap.size w2 w4 := (unhide HB _ (by assumption)).trans (b4.mono (unhide HB _ (by assumption)).size); have o3' : Own _ w4 _ l := (by first | exact o3.later b4 | exact (o3.later ((Below.refl _ _).alloc (Nat.le_refl _) _)).later b4); (try (have E4 := E3.later b4)); (try (have D4 := EDb.alloc b4)))
          | (go_at_call 19; refine (unhide CS _ _ _ ?_ ?_ ?_).mono ?_; (first | exact o3'.reads | exact o3'.reads.alloc _); (first | exact o4.reads | exact o4.reads.alloc _); exact S2.below.trans ((unhide HB _ (by assumption)).mono S2.below.size); rintro e w5 ⟨ab, cb, rfl, o5, b5⟩; have S5 := (S2.later (unhide HB _ (by assumption))).own b5 o5; have BW5 : Below w2.heap.size w2 w5 := (unhide HB _ (by assumption)).trans (b5.mono (unhide HB _ (by assumption)).size); (try (have E5 := E4.later b5; obtain ⟨e0, e1, e2, e3, e4, e5, e6⟩ := id E5)); (try (have D5 := D4.later b5; obtain ⟨e0, e1, e2, e3, e4, e5, e6⟩ := id D5)); (try (have C5 := EDb.alloc b5; obtain ⟨e0, e1, e2, e3, e4, e5, e6⟩ := id C5))))
      all_goals
        go_wp2
        go_meet
        case rel => first
          | exact ⟨_, _, _, ab, cb, rfl, rfl, (S5.box3 (.bool og) (.slice ab ol.length cb) (.int .i64 os) _)⟩
          | exact ⟨_, _, _, ab, cb, rfl, rfl, S2.fill3 S5 E5 (Nat.le_refl _) E4.lt _ _ _⟩
          | exact ⟨_, _, _, ab, cb, rfl, rfl, S2.fill3 S5 D5 BW3.size D4.lt _ _ _⟩
          | exact ⟨_, _, _, ab, cb, rfl, rfl, S2.fill3 S5 C5 BW4.size (EDb.new _).lt _ _ _⟩
    case rest =>
    obtain ⟨nW, Bw, Ew, aw, cw, rfl, rfl, S6⟩ := hcut
    simp only [List.nil_append, List.cons_append] at S6
    clear cA0 cA1 cA2 zA cB0 cB1 cB2 zB
    clear S2 Stab HB
    have cA0 : wc.cell? ⟨w.heap.size, 0, none⟩ = some (.bool p) := S6.cells (w.heap.size, 0, .bool p) (by simp)
    have cA1 : wc.cell? ⟨w.heap.size, 1, none⟩ = some (.slice ao l.length cap) := S6.cells (w.heap.size, 1, .slice ao l.length cap) (by simp)
    have cA2 : wc.cell? ⟨w.heap.size, 2, none⟩ = some (.int .i64 sa) := S6.cells (w.heap.size, 2, .int .i64 sa) (by simp)
    have zA : w.heap.size < wc.heap.size := S6.blk (c := (w.heap.size, 0, .bool p)) (by simp)
    go_wp2_with fail
    refine (unhide TA _ S6.below hla).mono ?_
    rintro e w7 ⟨ax, cx, rfl, ox7, b7⟩
    have S7 := S6.own b7 ox7
    simp only [List.nil_append, List.cons_append] at S7
    have y7 := b7.size
    have x7 : nW < wc.heap.size := S6.blk (c := (nW, 0, .bool og)) (by simp)
    have v7 : w.heap.size + 1 < wc.heap.size := S6.blk (c := (w.heap.size + 1, 0, .bool q)) (by simp)
    have e7 : Ew ≤ wc.heap.size := (S6.owns (Bw, Ew, .slice aw ol.length cw, ol) (by simp)).2.2.1
    clear b7 ox7 S6
    clear cA0 cA1 cA2 zA
    have cB0 : w7.cell? ⟨w.heap.size + 1, 0, none⟩ = some (.bool q) := S7.cells (w.heap.size + 1, 0, .bool q) (by simp)
    have cB1 : w7.cell? ⟨w.heap.size + 1, 1, none⟩ = some (.slice ao' m.length cap') := S7.cells (w.heap.size + 1, 1, .slice ao' m.length cap') (by simp)
    have cB2 : w7.cell? ⟨w.heap.size + 1, 2, none⟩ = some (.int .i64 sb) := S7.cells (w.heap.size + 1, 2, .int .i64 sb) (by simp)
    have zB : w.heap.size + 1 < w7.heap.size := S7.blk (c := (w.heap.size + 1, 0, .bool q)) (by simp)
    go_wp2_with fail
    have S7b := S7.box3 (.bool p) (.slice ax l.length cx) (.int .i64 sa) 30
    simp only [List.nil_append, List.cons_append] at S7b
    refine (unhide TB _ S7b.below hlb).mono ?_
    rintro e w8 ⟨ay, cy, rfl, oy8, b8⟩
    have S8 := S7b.own b8 oy8
    simp only [List.nil_append, List.cons_append, World.size_alloc] at S8
    have y8 := b8.size
    simp only [World.size_alloc] at y8
    clear b8 oy8 S7b S7
    clear cB0 cB1 cB2 zB
    have cX0 : w8.cell? ⟨w7.heap.size, 0, none⟩ = some (.bool p) := S8.cells (w7.heap.size, 0, .bool p) (by simp)
    have cX1 : w8.cell? ⟨w7.heap.size, 1, none⟩ = some (.slice ax l.length cx) := S8.cells (w7.heap.size, 1, .slice ax l.length cx) (by simp)
    have cX2 : w8.cell? ⟨w7.heap.size, 2, none⟩ = some (.int .i64 sa) := S8.cells (w7.heap.size, 2, .int .i64 sa) (by simp)
    have zX : w7.heap.size < w8.heap.size := S8.blk (c := (w7.heap.size, 0, .bool p)) (by simp)
    go_wp2_with fail
    have S8b := S8.box3 (.bool q) (.slice ay m.length cy) (.int .i64 sb) 30
    simp only [List.nil_append, List.cons_append] at S8b
    refine (unhide CI _ _ _ (S8b.owns (wc.heap.size, w7.heap.size, .slice ax l.length cx, l) (by simp)).1.reads (S8b.owns (w7.heap.size + 1, w8.heap.size, .slice ay m.length cy, m) (by simp)).1.reads S8b.below).mono ?_
    rintro e w9 ⟨ag, cg, rfl, og9, b9⟩
    have S9 := S8b.own b9 og9
    simp only [List.nil_append, List.cons_append, World.size_alloc] at S9
    have y9 := b9.size
    simp only [World.size_alloc] at y9
    clear b9 og9 S8b S8
    clear cX0 cX1 cX2 zX
    have cW0 : w9.cell? ⟨nW, 0, none⟩ = some (.bool og) := S9.cells (nW, 0, .bool og) (by simp)
    have cW1 : w9.cell? ⟨nW, 1, none⟩ = some (.slice aw ol.length cw) := S9.cells (nW, 1, .slice aw ol.length cw) (by simp)
    have cW2 : w9.cell? ⟨nW, 2, none⟩ = some (.int .i64 os) := S9.cells (nW, 2, .int .i64 os) (by simp)
    have zW : nW < w9.heap.size := S9.blk (c := (nW, 0, .bool og)) (by simp)
    go_wp2_with fail
    have S9b := S9.box3 (.bool og) (.slice ag ol.length cg) (.int .i64 os) 30
    simp only [List.nil_append, List.cons_append] at S9b
    refine (eqDec_same _ og _ _ ol os (S9b.owns (w8.heap.size + 1, w9.heap.size, .slice ag ol.length cg, ol) (by simp)).1.reads (S9b.owns (Bw, Ew, .slice aw ol.length cw, ol) (by simp)).1.reads).mono ?_
    rintro e w10 ⟨rfl, b10⟩
    have S10 := S9b.later b10
    clear b10 S9b S9
    clear cW0 cW1 cW2 zW
    have cX0 : w10.cell? ⟨w7.heap.size, 0, none⟩ = some (.bool p) := S10.cells (w7.heap.size, 0, .bool p) (by simp)
    have cX1 : w10.cell? ⟨w7.heap.size, 1, none⟩ = some (.slice ax l.length cx) := S10.cells (w7.heap.size, 1, .slice ax l.length cx) (by simp)
    have cX2 : w10.cell? ⟨w7.heap.size, 2, none⟩ = some (.int .i64 sa) := S10.cells (w7.heap.size, 2, .int .i64 sa) (by simp)
    have zX : w7.heap.size < w10.heap.size := S10.blk (c := (w7.heap.size, 0, .bool p)) (by simp)
    have cA0 : w10.cell? ⟨w.heap.size, 0, none⟩ = some (.bool p) := S10.cells (w.heap.size, 0, .bool p) (by simp)
    have cA1 : w10.cell? ⟨w.heap.size, 1, none⟩ = some (.slice ao l.length cap) := S10.cells (w.heap.size, 1, .slice ao l.length cap) (by simp)
    have cA2 : w10.cell? ⟨w.heap.size, 2, none⟩ = some (.int .i64 sa) := S10.cells (w.heap.size, 2, .int .i64 sa) (by simp)
    have zA : w.heap.size < w10.heap.size := S10.blk (c := (w.heap.size, 0, .bool p)) (by simp)
    have stabP : ∀ w' : World, Below w10.heap.size w10 w' → (w'.cell? ⟨w7.heap.size, 0, none⟩ = some (.bool p) ∧ w'.cell? ⟨w7.heap.size, 1, none⟩ = some (.slice ax l.length cx) ∧ w'.cell? ⟨w7.heap.size, 2, none⟩ = some (.int .i64 sa) ∧ w'.cell? ⟨w.heap.size, 0, none⟩ = some (.bool p) ∧ w'.cell? ⟨w.heap.size, 1, none⟩ = some (.slice ao l.length cap) ∧ w'.cell? ⟨w.heap.size, 2, none⟩ = some (.int .i64 sa)) := fun w' h => ⟨(S10.later h).cells (w7.heap.size, 0, .bool p) (by simp), (S10.later h).cells (w7.heap.size, 1, .slice ax l.length cx) (by simp), (S10.later h).cells (w7.heap.size, 2, .int .i64 sa) (by simp), (S10.later h).cells (w.heap.size, 0, .bool p) (by simp), (S10.later h).cells (w.heap.size, 1, .slice ao l.length cap) (by simp), (S10.later h).cells (w.heap.size, 2, .int .i64 sa) (by simp)⟩
    have StabP := hide stabP
    have oxP := (S10.owns (wc.heap.size, w7.heap.size, .slice ax l.length cx, l) (by simp)).1
    clear stabP
    go_wp2
    go_region_held (fun w' => w'.cell? ⟨w7.heap.size, 0, none⟩ = some (.bool p) ∧ w'.cell? ⟨w7.heap.size, 1, none⟩ = some (.slice ax l.length cx) ∧ w'.cell? ⟨w7.heap.size, 2, none⟩ = some (.int .i64 sa) ∧ w'.cell? ⟨w.heap.size, 0, none⟩ = some (.bool p) ∧ w'.cell? ⟨w.heap.size, 1, none⟩ = some (.slice ao l.length cap) ∧ w'.cell? ⟨w.heap.size, 2, none⟩ = some (.int .i64 sa))
      (first | exact unhide StabP _ (Below.refl _ _).drew | (refine unhide StabP _ ?_; assumption))
      (first
        | (go_at_call 10; refine (unhide TA _ ?_ hla).mono ?_; exact S10.drew.below; rintro e w11 ⟨a9, c9, rfl, o9, b9⟩; have BXP : Below w10.heap.size w10 w11 := (Below.refl _ _).drew.trans b9; have oyP := oxP.later BXP)
        | (go_at_call 12; refine (eqDec_same _ p _ _ l sa ?_ ?_).mono ?_; exact oyP.reads; exact o9.reads; rintro e w12 ⟨rfl, b10⟩; have BYP := BXP.trans (b10.mono BXP.size)))
    have S12 := S10.later BYP
    clear BXP BYP b9 b10 o9 oxP oyP StabP
    clear S10
    clear cX0 cX1 cX2 zX cA0 cA1 cA2 zA
    have cY0 : w12.cell? ⟨w8.heap.size, 0, none⟩ = some (.bool q) := S12.cells (w8.heap.size, 0, .bool q) (by simp)
    have cY1 : w12.cell? ⟨w8.heap.size, 1, none⟩ = some (.slice ay m.length cy) := S12.cells (w8.heap.size, 1, .slice ay m.length cy) (by simp)
    have cY2 : w12.cell? ⟨w8.heap.size, 2, none⟩ = some (.int .i64 sb) := S12.cells (w8.heap.size, 2, .int .i64 sb) (by simp)
    have zY : w8.heap.size < w12.heap.size := S12.blk (c := (w8.heap.size, 0, .bool q)) (by simp)
    have cB0 : w12.cell? ⟨w.heap.size + 1, 0, none⟩ = some (.bool q) := S12.cells (w.heap.size + 1, 0, .bool q) (by simp)
    have cB1 : w12.cell? ⟨w.heap.size + 1, 1, none⟩ = some (.slice ao' m.length cap') := S12.cells (w.heap.size + 1, 1, .slice ao' m.length cap') (by simp)
    have cB2 : w12.cell? ⟨w.heap.size + 1, 2, none⟩ = some (.int .i64 sb) := S12.cells (w.heap.size + 1, 2, .int .i64 sb) (by simp)
    have zB : w.heap.size + 1 < w12.heap.size := S12.blk (c := (w.heap.size + 1, 0, .bool q)) (by simp)
    have stabQ : ∀ w' : World, Below w12.heap.size w12 w' → (w'.cell? ⟨w8.heap.size, 0, none⟩ = some (.bool q) ∧ w'.cell? ⟨w8.heap.size, 1, none⟩ = some (.slice ay m.length cy) ∧ w'.cell? ⟨w8.heap.size, 2, none⟩ = some (.int .i64 sb) ∧ w'.cell? ⟨w.heap.size + 1, 0, none⟩ = some (.bool q) ∧ w'.cell? ⟨w.heap.size + 1, 1, none⟩ = some (.slice ao' m.length cap') ∧ w'.cell? ⟨w.heap.size + 1, 2, none⟩ = some (.int .i64 sb)) := fun w' h => ⟨(S12.later h).cells (w8.heap.size, 0, .bool q) (by simp), (S12.later h).cells (w8.heap.size, 1, .slice ay m.length cy) (by simp), (S12.later h).cells (w8.heap.size, 2, .int .i64 sb) (by simp), (S12.later h).cells (w.heap.size + 1, 0, .bool q) (by simp), (S12.later h).cells (w.heap.size + 1, 1, .slice ao' m.length cap') (by simp), (S12.later h).cells (w.heap.size + 1, 2, .int .i64 sb) (by simp)⟩
    have StabQ := hide stabQ
    have oxQ := (S12.owns (w7.heap.size + 1, w8.heap.size, .slice ay m.length cy, m) (by simp)).1
    clear stabQ
    go_wp2
    go_region_held (fun w' => w'.cell? ⟨w8.heap.size, 0, none⟩ = some (.bool q) ∧ w'.cell? ⟨w8.heap.size, 1, none⟩ = some (.slice ay m.length cy) ∧ w'.cell? ⟨w8.heap.size, 2, none⟩ = some (.int .i64 sb) ∧ w'.cell? ⟨w.heap.size + 1, 0, none⟩ = some (.bool q) ∧ w'.cell? ⟨w.heap.size + 1, 1, none⟩ = some (.slice ao' m.length cap') ∧ w'.cell? ⟨w.heap.size + 1, 2, none⟩ = some (.int .i64 sb))
      (first | exact unhide StabQ _ (Below.refl _ _).drew | (refine unhide StabQ _ ?_; assumption))
      (first
        | (go_at_call 10; refine (unhide TB _ ?_ hlb).mono ?_; exact S12.drew.below; rintro e w13 ⟨a9, c9, rfl, o9, b9⟩; have BXQ : Below w12.heap.size w12 w13 := (Below.refl _ _).drew.trans b9; have oyQ := oxQ.later BXQ)
        | (go_at_call 12; refine (eqDec_same _ q _ _ m sb ?_ ?_).mono ?_; exact oyQ.reads; exact o9.reads; rintro e w14 ⟨rfl, b10⟩; have BYQ := BXQ.trans (b10.mono BXQ.size)))
    have S14 := S12.later BYQ
    clear BXQ BYQ b9 b10 o9 oxQ oyQ StabQ
    clear S12
    clear cY0 cY1 cY2 zY cB0 cB1 cB2 zB
    have cX0 : w14.cell? ⟨w7.heap.size, 0, none⟩ = some (.bool p) := S14.cells (w7.heap.size, 0, .bool p) (by simp)
    have cX1 : w14.cell? ⟨w7.heap.size, 1, none⟩ = some (.slice ax l.length cx) := S14.cells (w7.heap.size, 1, .slice ax l.length cx) (by simp)
    have cX2 : w14.cell? ⟨w7.heap.size, 2, none⟩ = some (.int .i64 sa) := S14.cells (w7.heap.size, 2, .int .i64 sa) (by simp)
    have zX : w7.heap.size < w14.heap.size := S14.blk (c := (w7.heap.size, 0, .bool p)) (by simp)
    go_wp2_with fail
    refine (markDec_any w14 _ p _ l sa 1 (S14.owns (wc.heap.size, w7.heap.size, .slice ax l.length cx, l) (by simp)).1 hla (by omega) (by omega)).mono ?_
    rintro e w15 ⟨rfl, o15, g15⟩
    have S15 := Stt.mark (os1 := [(Bw, Ew, .slice aw ol.length cw, ol)]) (os2 := [(w7.heap.size + 1, w8.heap.size, .slice ay m.length cy, m), (w8.heap.size + 1, w9.heap.size, .slice ag ol.length cg, ol)]) (B := wc.heap.size) (E := w7.heap.size) S14 o15 g15 (by intro c hc; simp only [List.mem_cons, List.not_mem_nil, or_false] at hc; rcases hc with rfl | rfl | rfl | rfl | rfl | rfl | rfl | rfl | rfl | rfl | rfl | rfl | rfl | rfl | rfl | rfl | rfl | rfl <;> simp only <;> omega) (by intro o ho; simp only [List.mem_cons, List.not_mem_nil, or_false] at ho; rcases ho with rfl <;> simp only <;> omega) (by intro o ho; simp only [List.mem_cons, List.not_mem_nil, or_false] at ho; rcases ho with rfl | rfl <;> simp only <;> omega)
    simp only [List.nil_append, List.cons_append] at S15
    clear o15 g15 S14
    clear cX0 cX1 cX2 zX
    have cY0 : w15.cell? ⟨w8.heap.size, 0, none⟩ = some (.bool q) := S15.cells (w8.heap.size, 0, .bool q) (by simp)
    have cY1 : w15.cell? ⟨w8.heap.size, 1, none⟩ = some (.slice ay m.length cy) := S15.cells (w8.heap.size, 1, .slice ay m.length cy) (by simp)
    have cY2 : w15.cell? ⟨w8.heap.size, 2, none⟩ = some (.int .i64 sb) := S15.cells (w8.heap.size, 2, .int .i64 sb) (by simp)
    have zY : w8.heap.size < w15.heap.size := S15.blk (c := (w8.heap.size, 0, .bool q)) (by simp)
    go_wp2_with fail
    refine (markDec_any w15 _ q _ m sb (1 + l.length) (S15.owns (w7.heap.size + 1, w8.heap.size, .slice ay m.length cy, m) (by simp)).1 hlb (by omega) (by omega)).mono ?_
    rintro e w16 ⟨rfl, o16, g16⟩
    have S16 := Stt.mark (os1 := [(Bw, Ew, .slice aw ol.length cw, ol), (wc.heap.size, w7.heap.size, .slice ax l.length cx, marks 1 l.length)]) (os2 := [(w8.heap.size + 1, w9.heap.size, .slice ag ol.length cg, ol)]) (B := w7.heap.size + 1) (E := w8.heap.size) S15 o16 g16 (by intro c hc; simp only [List.mem_cons, List.not_mem_nil, or_false] at hc; rcases hc with rfl | rfl | rfl | rfl | rfl | rfl | rfl | rfl | rfl | rfl | rfl | rfl | rfl | rfl | rfl | rfl | rfl | rfl <;> simp only <;> omega) (by intro o ho; simp only [List.mem_cons, List.not_mem_nil, or_false] at ho; rcases ho with rfl | rfl <;> simp only <;> omega) (by intro o ho; simp only [List.mem_cons, List.not_mem_nil, or_false] at ho; rcases ho with rfl <;> simp only <;> omega)
    simp only [List.nil_append, List.cons_append] at S16
    clear o16 g16 S15
    clear cY0 cY1 cY2 zY
    have cG0 : w16.cell? ⟨w9.heap.size, 0, none⟩ = some (.bool og) := S16.cells (w9.heap.size, 0, .bool og) (by simp)
    have cG1 : w16.cell? ⟨w9.heap.size, 1, none⟩ = some (.slice ag ol.length cg) := S16.cells (w9.heap.size, 1, .slice ag ol.length cg) (by simp)
    have cG2 : w16.cell? ⟨w9.heap.size, 2, none⟩ = some (.int .i64 os) := S16.cells (w9.heap.size, 2, .int .i64 os) (by simp)
    have zG : w9.heap.size < w16.heap.size := S16.blk (c := (w9.heap.size, 0, .bool og)) (by simp)
    have cW0 : w16.cell? ⟨nW, 0, none⟩ = some (.bool og) := S16.cells (nW, 0, .bool og) (by simp)
    have cW1 : w16.cell? ⟨nW, 1, none⟩ = some (.slice aw ol.length cw) := S16.cells (nW, 1, .slice aw ol.length cw) (by simp)
    have cW2 : w16.cell? ⟨nW, 2, none⟩ = some (.int .i64 os) := S16.cells (nW, 2, .int .i64 os) (by simp)
    have zW : nW < w16.heap.size := S16.blk (c := (nW, 0, .bool og)) (by simp)
    have h16 : (0 : Int) ≤ 1 + l.length + m.length := by omega
    go_wp2_with fail
    refine (eqDec_same _ og _ _ ol os (S16.owns (w8.heap.size + 1, w9.heap.size, .slice ag ol.length cg, ol) (by simp)).1.reads (S16.owns (Bw, Ew, .slice aw ol.length cw, ol) (by simp)).1.reads).mono ?_
    rintro e w17 ⟨rfl, b17⟩
    have S17 := S16.later b17
    clear b17 S16
    clear cG0 cG1 cG2 zG cW0 cW1 cW2 zW
    have cG0 : w17.cell? ⟨w9.heap.size, 0, none⟩ = some (.bool og) := S17.cells (w9.heap.size, 0, .bool og) (by simp)
    have cG1 : w17.cell? ⟨w9.heap.size, 1, none⟩ = some (.slice ag ol.length cg) := S17.cells (w9.heap.size, 1, .slice ag ol.length cg) (by simp)
    have cG2 : w17.cell? ⟨w9.heap.size, 2, none⟩ = some (.int .i64 os) := S17.cells (w9.heap.size, 2, .int .i64 os) (by simp)
    have zG : w9.heap.size < w17.heap.size := S17.blk (c := (w9.heap.size, 0, .bool og)) (by simp)
    go_wp2_with fail
    refine (markDec_any w17 _ og _ ol os 1 (S17.owns (w8.heap.size + 1, w9.heap.size, .slice ag ol.length cg, ol) (by simp)).1 (by omega) (by omega) (by omega)).mono ?_
    rintro e w18 ⟨rfl, o18, g18⟩
    have S18 := Stt.mark (os1 := [(Bw, Ew, .slice aw ol.length cw, ol), (wc.heap.size, w7.heap.size, .slice ax l.length cx, marks 1 l.length), (w7.heap.size + 1, w8.heap.size, .slice ay m.length cy, marks (1 + l.length) m.length)]) (os2 := []) (B := w8.heap.size + 1) (E := w9.heap.size) S17 o18 g18 (by intro c hc; simp only [List.mem_cons, List.not_mem_nil, or_false] at hc; rcases hc with rfl | rfl | rfl | rfl | rfl | rfl | rfl | rfl | rfl | rfl | rfl | rfl | rfl | rfl | rfl | rfl | rfl | rfl <;> simp only <;> omega) (by intro o ho; simp only [List.mem_cons, List.not_mem_nil, or_false] at ho; rcases ho with rfl | rfl | rfl <;> simp only <;> omega) (by intro o ho; cases ho)
    simp only [List.nil_append, List.cons_append] at S18
    clear o18 g18 S17
    clear cG0 cG1 cG2 zG
    have cG0 : w18.cell? ⟨w9.heap.size, 0, none⟩ = some (.bool og) := S18.cells (w9.heap.size, 0, .bool og) (by simp)
    have cG1 : w18.cell? ⟨w9.heap.size, 1, none⟩ = some (.slice ag ol.length cg) := S18.cells (w9.heap.size, 1, .slice ag ol.length cg) (by simp)
    have cG2 : w18.cell? ⟨w9.heap.size, 2, none⟩ = some (.int .i64 os) := S18.cells (w9.heap.size, 2, .int .i64 os) (by simp)
    have zG : w9.heap.size < w18.heap.size := S18.blk (c := (w9.heap.size, 0, .bool og)) (by simp)
    have hq0 : (0 : Int) ≤ 1 + ol.length := by omega
    have hq1 : ((1 + ol.length : Int) != 1 + ol.length) = false := by simp
    have hm18 := (S18.owns (w8.heap.size + 1, w9.heap.size, .slice ag ol.length cg, marks 1 ol.length) (by simp)).1.reads
    go_wp2_with fail
    refine (heldDec_any w18 og _ os 1 ol.length hm18 (by omega) (by omega) (by omega)).mono ?_
    rintro e w19 ⟨rfl, b19⟩
    have S19 := S18.later b19
    clear b19 S18 hm18
    clear cG0 cG1 cG2 zG
    have cA0 : w19.cell? ⟨w.heap.size, 0, none⟩ = some (.bool p) := S19.cells (w.heap.size, 0, .bool p) (by simp)
    have cA1 : w19.cell? ⟨w.heap.size, 1, none⟩ = some (.slice ao l.length cap) := S19.cells (w.heap.size, 1, .slice ao l.length cap) (by simp)
    have cA2 : w19.cell? ⟨w.heap.size, 2, none⟩ = some (.int .i64 sa) := S19.cells (w.heap.size, 2, .int .i64 sa) (by simp)
    have zA : w.heap.size < w19.heap.size := S19.blk (c := (w.heap.size, 0, .bool p)) (by simp)
    have cB0 : w19.cell? ⟨w.heap.size + 1, 0, none⟩ = some (.bool q) := S19.cells (w.heap.size + 1, 0, .bool q) (by simp)
    have cB1 : w19.cell? ⟨w.heap.size + 1, 1, none⟩ = some (.slice ao' m.length cap') := S19.cells (w.heap.size + 1, 1, .slice ao' m.length cap') (by simp)
    have cB2 : w19.cell? ⟨w.heap.size + 1, 2, none⟩ = some (.int .i64 sb) := S19.cells (w.heap.size + 1, 2, .int .i64 sb) (by simp)
    have zB : w.heap.size + 1 < w19.heap.size := S19.blk (c := (w.heap.size + 1, 0, .bool q)) (by simp)
    have stabR : ∀ w' : World, Below w19.heap.size w19 w' → ((w'.cell? ⟨w.heap.size, 0, none⟩ = some (.bool p) ∧ w'.cell? ⟨w.heap.size, 1, none⟩ = some (.slice ao l.length cap) ∧ w'.cell? ⟨w.heap.size, 2, none⟩ = some (.int .i64 sa) ∧ w'.cell? ⟨w.heap.size + 1, 0, none⟩ = some (.bool q) ∧ w'.cell? ⟨w.heap.size + 1, 1, none⟩ = some (.slice ao' m.length cap') ∧ w'.cell? ⟨w.heap.size + 1, 2, none⟩ = some (.int .i64 sb)) ∧ Below w19.heap.size w19 w') := fun w' h => ⟨⟨(S19.later h).cells (w.heap.size, 0, .bool p) (by simp), (S19.later h).cells (w.heap.size, 1, .slice ao l.length cap) (by simp), (S19.later h).cells (w.heap.size, 2, .int .i64 sa) (by simp), (S19.later h).cells (w.heap.size + 1, 0, .bool q) (by simp), (S19.later h).cells (w.heap.size + 1, 1, .slice ao' m.length cap') (by simp), (S19.later h).cells (w.heap.size + 1, 2, .int .i64 sb) (by simp)⟩, h⟩
    have hBR : ∀ W : World, ((W.cell? ⟨w.heap.size, 0, none⟩ = some (.bool p) ∧ W.cell? ⟨w.heap.size, 1, none⟩ = some (.slice ao l.length cap) ∧ W.cell? ⟨w.heap.size, 2, none⟩ = some (.int .i64 sa) ∧ W.cell? ⟨w.heap.size + 1, 0, none⟩ = some (.bool q) ∧ W.cell? ⟨w.heap.size + 1, 1, none⟩ = some (.slice ao' m.length cap') ∧ W.cell? ⟨w.heap.size + 1, 2, none⟩ = some (.int .i64 sb)) ∧ Below w19.heap.size w19 W) → Below w19.heap.size w19 W := fun W h => h.2
    have StabR := hide stabR
    have HBR := hide hBR
    clear stabR hBR
    go_wp2
    go_cut [19, 20] (fun sp sv wk => ∃ (nB Bf Et : Nat) (ab : Option Addr) (cb : Nat), sp = .pointer (some ⟨nB, 0, none⟩) ∧ sv = .int .i64 oc ∧ Stt w wk ([(w.heap.size, 0, .bool p), (w.heap.size, 1, .slice ao l.length cap), (w.heap.size, 2, .int .i64 sa), (w.heap.size + 1, 0, .bool q), (w.heap.size + 1, 1, .slice ao' m.length cap'), (w.heap.size + 1, 2, .int .i64 sb), (nW, 0, .bool og), (nW, 1, .slice aw ol.length cw), (nW, 2, .int .i64 os), (w7.heap.size, 0, .bool p), (w7.heap.size, 1, .slice ax l.length cx), (w7.heap.size, 2, .int .i64 sa), (w8.heap.size, 0, .bool q), (w8.heap.size, 1, .slice ay m.length cy), (w8.heap.size, 2, .int .i64 sb), (w9.heap.size, 0, .bool og), (w9.heap.size, 1, .slice ag ol.length cg), (w9.heap.size, 2, .int .i64 os)] ++ [(nB, 0, .bool og), (nB, 1, .slice ab ol.length cb), (nB, 2, .int .i64 os)]) ([(Bw, Ew, .slice aw ol.length cw, ol), (wc.heap.size, w7.heap.size, .slice ax l.length cx, marks 1 l.length), (w7.heap.size + 1, w8.heap.size, .slice ay m.length cy, marks (1 + l.length) m.length), (w8.heap.size + 1, w9.heap.size, .slice ag ol.length cg, marks 1 ol.length)] ++ [(Bf, Et, .slice ab ol.length cb, ol)]))
    case first =>
      go_region_held (fun w' => (w'.cell? ⟨w.heap.size, 0, none⟩ = some (.bool p) ∧ w'.cell? ⟨w.heap.size, 1, none⟩ = some (.slice ao l.length cap) ∧ w'.cell? ⟨w.heap.size, 2, none⟩ = some (.int .i64 sa) ∧ w'.cell? ⟨w.heap.size + 1, 0, none⟩ = some (.bool q) ∧ w'.cell? ⟨w.heap.size + 1, 1, none⟩ = some (.slice ao' m.length cap') ∧ w'.cell? ⟨w.heap.size + 1, 2, none⟩ = some (.int .i64 sb)) ∧ Below w19.heap.size w19 w')
        (first | exact unhide StabR _ (Below.refl _ _).drew | exact unhide StabR _ ((Below.refl _ _).alloc (Nat.le_refl _) _).drew | (refine unhide StabR _ ?_; assumption) | (refine unhide StabR _ (Below.alloc (unhide HBR _ ?_) (Below.size (unhide HBR _ ?_)) _) <;> assumption) | exact unhide StabR _ (BW5.alloc BW5.size _) | exact unhide StabR _ (((BW5.setCell (Nat.le_refl _) _).setCell (Nat.le_refl _) _).setCell (Nat.le_refl _) _) | exact unhide StabR _ (((BW5.setCell BW3.size _).setCell BW3.size _).setCell BW3.size _) | exact unhide StabR _ (((BW5.setCell BW4.size _).setCell BW4.size _).setCell BW4.size _))
        (first
          | (go_at_call_of 10 (Value.slice ao l.length cap); refine (unhide TA _ ?_ hla).mono ?_; exact S19.below.trans ((unhide HBR _ (by assumption)).mono S19.below.size); rintro e w3 ⟨a3, c3, rfl, o3, b3⟩; have BW3 : Below w19.heap.size w19 w3 := (unhide HBR _ (by assumption)).trans (b3.mono (unhide HBR _ (by assumption)).size); (try (have E3 := EDb.drew b3)))
          | (go_at_call_of 10 (Value.slice ao' m.length cap'); refine (unhide TB _ ?_ hlb).mono ?_; exact S19.below.trans ((unhide HBR _ (by assumption)).mono S19.below.size); rintro e w4 ⟨a4, c4, rfl, o4, b4⟩; have BW4 : Below w19.heap.size w19 w4 := (unhide HBR _ (by assumption)).trans (b4.mono (unhide HBR _ (by assumption)).size); have o3' : Own _ w4 _ l := (by first | exact o3.later b4 | exact (o3.later ((Below.refl _ _).alloc (Nat.le_refl _) _)).later b4); (try (have E4 := E3.later b4)); (try (have D4 := EDb.alloc b4)))
          | (go_at_call 20; refine (unhide CI _ _ _ ?_ ?_ ?_).mono ?_; (first | exact o3'.reads | exact o3'.reads.alloc _); (first | exact o4.reads | exact o4.reads.alloc _); exact S19.below.trans ((unhide HBR _ (by assumption)).mono S19.below.size); rintro e w5 ⟨ab, cb, rfl, o5, b5⟩; have S5 := (S19.later (unhide HBR _ (by assumption))).own b5 o5; have BW5 : Below w19.heap.size w19 w5 := (unhide HBR _ (by assumption)).trans (b5.mono (unhide HBR _ (by assumption)).size); (try (have E5 := E4.later b5; obtain ⟨e0, e1, e2, e3, e4, e5, e6⟩ := id E5)); (try (have D5 := D4.later b5; obtain ⟨e0, e1, e2, e3, e4, e5, e6⟩ := id D5)); (try (have C5 := EDb.alloc b5; obtain ⟨e0, e1, e2, e3, e4, e5, e6⟩ := id C5))))
      all_goals
        go_wp2
        go_meet
        case rel => first
          | exact ⟨_, _, _, ab, cb, rfl, rfl, (S5.box3 (.bool og) (.slice ab ol.length cb) (.int .i64 os) _)⟩
          | exact ⟨_, _, _, ab, cb, rfl, rfl, S19.fill3 S5 E5 (Nat.le_refl _) E4.lt _ _ _⟩
          | exact ⟨_, _, _, ab, cb, rfl, rfl, S19.fill3 S5 D5 BW3.size D4.lt _ _ _⟩
          | exact ⟨_, _, _, ab, cb, rfl, rfl, S19.fill3 S5 C5 BW4.size (EDb.new _).lt _ _ _⟩
    case rest =>
    obtain ⟨nH, Bh, Eh, ah, ch, rfl, rfl, S20⟩ := hcut
    simp only [List.nil_append, List.cons_append] at S20
    clear cA0 cA1 cA2 zA cB0 cB1 cB2 zB
    clear S19 StabR HBR
    have cH0 : wc.cell? ⟨nH, 0, none⟩ = some (.bool og) := S20.cells (nH, 0, .bool og) (by simp)
    have cH1 : wc.cell? ⟨nH, 1, none⟩ = some (.slice ah ol.length ch) := S20.cells (nH, 1, .slice ah ol.length ch) (by simp)
    have cH2 : wc.cell? ⟨nH, 2, none⟩ = some (.int .i64 os) := S20.cells (nH, 2, .int .i64 os) (by simp)
    have zH : nH < wc.heap.size := S20.blk (c := (nH, 0, .bool og)) (by simp)
    have cW0 : wc.cell? ⟨nW, 0, none⟩ = some (.bool og) := S20.cells (nW, 0, .bool og) (by simp)
    have cW1 : wc.cell? ⟨nW, 1, none⟩ = some (.slice aw ol.length cw) := S20.cells (nW, 1, .slice aw ol.length cw) (by simp)
    have cW2 : wc.cell? ⟨nW, 2, none⟩ = some (.int .i64 os) := S20.cells (nW, 2, .int .i64 os) (by simp)
    have zW : nW < wc.heap.size := S20.blk (c := (nW, 0, .bool og)) (by simp)
    go_wp2_with fail
    refine (eqDec_same _ og _ _ ol os (S20.owns (Bh, Eh, .slice ah ol.length ch, ol) (by simp)).1.reads (S20.owns (Bw, Ew, .slice aw ol.length cw, ol) (by simp)).1.reads).mono ?_
    rintro e w21 ⟨rfl, b21⟩
    have S21 := S20.later b21
    clear b21 S20
    clear cH0 cH1 cH2 zH cW0 cW1 cW2 zW
    have cG0 : w21.cell? ⟨w9.heap.size, 0, none⟩ = some (.bool og) := S21.cells (w9.heap.size, 0, .bool og) (by simp)
    have cG1 : w21.cell? ⟨w9.heap.size, 1, none⟩ = some (.slice ag ol.length cg) := S21.cells (w9.heap.size, 1, .slice ag ol.length cg) (by simp)
    have cG2 : w21.cell? ⟨w9.heap.size, 2, none⟩ = some (.int .i64 os) := S21.cells (w9.heap.size, 2, .int .i64 os) (by simp)
    have zG : w9.heap.size < w21.heap.size := S21.blk (c := (w9.heap.size, 0, .bool og)) (by simp)
    have hm21 := (S21.owns (w8.heap.size + 1, w9.heap.size, .slice ag ol.length cg, marks 1 ol.length) (by simp)).1.reads
    go_wp2_with fail
    refine (heldDec_any w21 og _ os 1 ol.length hm21 (by omega) (by omega) (by omega)).mono ?_
    rintro e w22 ⟨rfl, b22⟩
    have S22 := S21.later b22
    clear b22 S21 hm21
    clear cG0 cG1 cG2 zG
    go_wp2
    go_ret
    exact ⟨rfl, S22.below⟩

end Go.Proofs.YtjamogkenghonaaGreatDoor
