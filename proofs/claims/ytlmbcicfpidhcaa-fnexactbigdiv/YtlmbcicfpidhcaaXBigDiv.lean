/- The law laws.FnExactBigDiv: its walk. -/
import Derived.Test.YtlmbcicfpidhcaaDivE
import Derived.Test.YtlmbcicfpidhcaaLawA
import Derived.Test.YtlmbcicfpidhcaaG23
import Derived.Deep.RegionHeld3
import Derived.Deep.DeepCutAuto
namespace Go.Proofs.Ytlmbcicfpidhcaa
open Go.RowKit

set_option maxHeartbeats 16000000 in
set_option maxRecDepth 100000 in
theorem xBigDiv_walk (w : World) (p q : Bool) (u v : Value) (l m : List Int) (hu : Reads w u l) (hv : Reads w v m) :
    Calls Try.prog 12 #[.agg #[.bool p, u], .agg #[.bool q, v]] w fun e w' => e = .returned (.bool true) ∧ Below w.heap.size w w' := by
  obtain ⟨og, ol, oh, om, ok, hlen, hlem, cs, ci⟩ := bigDiv_both p q l m
  have CS := hide cs
  have CI := hide ci
  clear cs ci
  have TA := hide (fun W (h : Below w.heap.size w W) (hl : l.length ≤ 1048576) => toBig_any W p u l (hu.later h) hl)
  have TB := hide (fun W (h : Below w.heap.size w W) (hl : m.length ≤ 1048576) => toBig_any W q v m (hv.later h) hl)
  have ZA := hide (fun W (h : Below w.heap.size w W) => szBig_any W p u l 1048576 (hu.later h) (by omega) (by omega))
  have ZB := hide (fun W (h : Below w.heap.size w W) left (h0 : 0 ≤ left) (h1 : left ≤ 1048576) => szBig_any W q v m left (hv.later h) h0 h1)
  have hok : (!(ok == ok)) = false := by cases ok <;> rfl
  obtain ⟨ao, b1, off, cap, rfl, hu0⟩ := id hu
  obtain ⟨ao', b2, off', cap', rfl, hv0⟩ := id hv
  clear hu0 hv0 hu hv
  have S0 : Stt w ((w.alloc (.cells #[.bool p, .slice ao l.length cap] 37)).alloc (.cells #[.bool q, .slice ao' m.length cap'] 37)) [(w.heap.size, 0, .bool p), (w.heap.size, 1, .slice ao l.length cap), (w.heap.size + 1, 0, .bool q), (w.heap.size + 1, 1, .slice ao' m.length cap')] [] := by
    have h : Stt w w [] [] := ⟨Below.refl _ _, by simp, by simp⟩
    have h2 := (h.box (.bool p) (.slice ao l.length cap) 37).box (.bool q) (.slice ao' m.length cap') 37
    simpa using h2
  by_cases hl1 : (1048576 : Int) < l.length
  · go_enter Try.func12, Try.ntmps12
    go_wp2_with fail
    refine (unhide ZA _ S0.below).mono ?_
    rw [if_pos (by omega)]
    rintro e w1 ⟨rfl, b1⟩
    have S1 := S0.later b1
    clear b1
    go_wp2
    go_ret
    exact ⟨rfl, S1.below⟩
  by_cases hl2 : (1048576 : Int) - l.length < m.length
  · have h0 : (0 : Int) ≤ 1048576 - l.length := by omega
    go_enter Try.func12, Try.ntmps12
    go_wp2_with fail
    refine (unhide ZA _ S0.below).mono ?_
    rw [if_neg (by omega)]
    rintro e w1 ⟨rfl, b1⟩
    have S1 := S0.later b1
    have cB0 : w1.cell? ⟨w.heap.size + 1, 0, none⟩ = some (.bool q) := S1.cells (w.heap.size + 1, 0, .bool q) (by simp)
    have cB1 : w1.cell? ⟨w.heap.size + 1, 1, none⟩ = some (.slice ao' m.length cap') := S1.cells (w.heap.size + 1, 1, .slice ao' m.length cap') (by simp)
    have zB : w.heap.size + 1 < w1.heap.size := S1.blk (c := (w.heap.size + 1, 0, .bool q)) (by simp)
    clear b1
    go_wp2_with fail
    refine (unhide ZB _ S1.below _ (by omega) (by omega)).mono ?_
    rw [if_pos (by omega)]
    rintro e w2 ⟨rfl, b2⟩
    have S2 := S1.later b2
    clear b2
    go_wp2
    go_ret
    exact ⟨rfl, S2.below⟩
  · have h0 : (0 : Int) ≤ 1048576 - l.length := by omega
    have h00 : (0 : Int) ≤ 1048576 - l.length - m.length := by omega
    have hla : l.length ≤ 1048576 := by omega
    have hlb : m.length ≤ 1048576 := by omega
    go_enter Try.func12, Try.ntmps12
    go_wp2_with fail
    refine (unhide ZA _ S0.below).mono ?_
    rw [if_neg (by omega)]
    rintro e w1 ⟨rfl, b1⟩
    have S1 := S0.later b1
    have cB0 : w1.cell? ⟨w.heap.size + 1, 0, none⟩ = some (.bool q) := S1.cells (w.heap.size + 1, 0, .bool q) (by simp)
    have cB1 : w1.cell? ⟨w.heap.size + 1, 1, none⟩ = some (.slice ao' m.length cap') := S1.cells (w.heap.size + 1, 1, .slice ao' m.length cap') (by simp)
    have zB : w.heap.size + 1 < w1.heap.size := S1.blk (c := (w.heap.size + 1, 0, .bool q)) (by simp)
    clear b1
    go_wp2_with fail
    refine (unhide ZB _ S1.below _ (by omega) (by omega)).mono ?_
    rw [if_neg (by omega)]
    rintro e w2 ⟨rfl, b2⟩
    have S2 := S1.later b2
    clear b2 ZA ZB S0 S1
    clear cB0 cB1 zB
    have cA0 : w2.cell? ⟨w.heap.size, 0, none⟩ = some (.bool p) := S2.cells (w.heap.size, 0, .bool p) (by simp)
    have cA1 : w2.cell? ⟨w.heap.size, 1, none⟩ = some (.slice ao l.length cap) := S2.cells (w.heap.size, 1, .slice ao l.length cap) (by simp)
    have zA : w.heap.size < w2.heap.size := S2.blk (c := (w.heap.size, 0, .bool p)) (by simp)
    have cB0 : w2.cell? ⟨w.heap.size + 1, 0, none⟩ = some (.bool q) := S2.cells (w.heap.size + 1, 0, .bool q) (by simp)
    have cB1 : w2.cell? ⟨w.heap.size + 1, 1, none⟩ = some (.slice ao' m.length cap') := S2.cells (w.heap.size + 1, 1, .slice ao' m.length cap') (by simp)
    have zB : w.heap.size + 1 < w2.heap.size := S2.blk (c := (w.heap.size + 1, 0, .bool q)) (by simp)
    have stab : ∀ w' : World, Below w2.heap.size w2 w' → ((w'.cell? ⟨w.heap.size, 0, none⟩ = some (.bool p) ∧ w'.cell? ⟨w.heap.size, 1, none⟩ = some (.slice ao l.length cap) ∧ w'.cell? ⟨w.heap.size + 1, 0, none⟩ = some (.bool q) ∧ w'.cell? ⟨w.heap.size + 1, 1, none⟩ = some (.slice ao' m.length cap')) ∧ Below w2.heap.size w2 w') := fun w' h => ⟨⟨(S2.later h).cells (w.heap.size, 0, .bool p) (by simp), (S2.later h).cells (w.heap.size, 1, .slice ao l.length cap) (by simp), (S2.later h).cells (w.heap.size + 1, 0, .bool q) (by simp), (S2.later h).cells (w.heap.size + 1, 1, .slice ao' m.length cap') (by simp)⟩, h⟩
    have hB : ∀ W : World, ((W.cell? ⟨w.heap.size, 0, none⟩ = some (.bool p) ∧ W.cell? ⟨w.heap.size, 1, none⟩ = some (.slice ao l.length cap) ∧ W.cell? ⟨w.heap.size + 1, 0, none⟩ = some (.bool q) ∧ W.cell? ⟨w.heap.size + 1, 1, none⟩ = some (.slice ao' m.length cap')) ∧ Below w2.heap.size w2 W) → Below w2.heap.size w2 W := fun W h => h.2
    have Stab := hide stab
    have HB := hide hB
    clear stab hB
    go_wp2
    go_cut [6, 7, 8] (fun sp sr sb wk => ∃ (nB nC Bf Et Bk Ek : Nat) (ab ad : Option Addr) (cb cd : Nat), sp = .pointer (some ⟨nB, 0, none⟩) ∧ sr = .pointer (some ⟨nC, 0, none⟩) ∧ sb = .bool ok ∧ Stt w wk ([(w.heap.size, 0, .bool p), (w.heap.size, 1, .slice ao l.length cap), (w.heap.size + 1, 0, .bool q), (w.heap.size + 1, 1, .slice ao' m.length cap')] ++ [(nB, 0, .bool og), (nB, 1, .slice ab ol.length cb), (nC, 0, .bool oh), (nC, 1, .slice ad om.length cd)]) ([] ++ [(Bf, Et, .slice ab ol.length cb, ol), (Bk, Ek, .slice ad om.length cd, om)]))
    case first => as_aux_lemma =>
      go_region_held3 (fun w' => (w'.cell? ⟨w.heap.size, 0, none⟩ = some (.bool p) ∧ w'.cell? ⟨w.heap.size, 1, none⟩ = some (.slice ao l.length cap) ∧ w'.cell? ⟨w.heap.size + 1, 0, none⟩ = some (.bool q) ∧ w'.cell? ⟨w.heap.size + 1, 1, none⟩ = some (.slice ao' m.length cap')) ∧ Below w2.heap.size w2 w')
        ((refine unhide Stab _ ?_; repeat' (first | with_reducible exact BW5 | with_reducible exact BW4 | with_reducible exact BW3 | with_reducible exact Below.refl _ _ | (with_reducible exact unhide HB _ (by assumption)) | refine Below.drew ?_ | refine Below.alloc ?_ ?_ _ | refine Below.setCell ?_ ?_ _ | omega | (simp <;> omega))))
        (first
          | (go_at_call_of 30 (Value.slice ao l.length cap); refine (unhide TA _ ?_ hla).mono ?_; exact S2.below.trans ((unhide HB _ (by assumption)).mono S2.below.size); rintro e w3 ⟨a3, c3, rfl, o3, b3⟩; have BW3 : Below w2.heap.size w2 w3 := (unhide HB _ (by assumption)).trans (b3.mono (unhide HB _ (by assumption)).size); have y3 := BW3.size; have E3 : EBs w3 _ := (by first | with_reducible exact EBs.drew2 b3 | with_reducible exact EBs.drew1 b3 | exact EBs.empty w3))
          | (go_at_call_of 30 (Value.slice ao' m.length cap'); refine (unhide TB _ ?_ hlb).mono ?_; exact S2.below.trans ((unhide HB _ (by assumption)).mono S2.below.size); rintro e w4 ⟨a4, c4, rfl, o4, b4⟩; have K4 : Below w3.heap.size w3 w4 := (by first | with_reducible exact b4 | with_reducible exact below_back b4 | with_reducible exact below_back2 b4); have BW4 : Below w2.heap.size w2 w4 := BW3.trans (K4.mono BW3.size); have y4 := K4.size; have o3' := o3.later K4; have E4 : EBs w4 _ := (by first | with_reducible exact E3.later b4 | with_reducible exact E3.step1 b4 | with_reducible exact E3.step2 b4); have l4 := E4.lts; (try simp at l4); clear K4)
          | (go_at_call 24; refine (unhide CS _ _ _ ?_ ?_).mono ?_; (first | exact o3'.reads | exact o3'.reads.alloc _ | exact (o3'.reads.alloc _).alloc _); (first | exact o4.reads | exact o4.reads.alloc _ | exact (o4.reads.alloc _).alloc _); rintro e w5 ⟨ab, ad, cb, cd, Bf, Et, Bk, Ek, rfl, oq, or, lq, lr, eq, er, -, hE, hE', b5⟩; (try simp only [World.size_alloc] at lq lr); have K5 : Below w4.heap.size w4 w5 := (by first | with_reducible exact b5 | with_reducible exact below_back b5 | with_reducible exact below_back2 b5); have BW5 : Below w2.heap.size w2 w5 := BW4.trans (K5.mono BW4.size); have y5 := K5.size; have E5 : EBs w5 _ := (by first | with_reducible exact E4.later b5 | with_reducible exact E4.step1 b5 | with_reducible exact E4.step2 b5); (first | (obtain ⟨⟨e0, e1, e2, e3, e4⟩, ⟨e5, e6, e7, e8, e9⟩, e10, e11⟩ := EBs.open2 E5) | (obtain ⟨⟨e0, e1, e2, e3, e4⟩, e10, e11⟩ := EBs.open1 E5) | skip); have HQ := hide eq; have HR := hide er; clear K5 eq er))
      all_goals
        go_wp2
        go_meet
        case rel =>
          refine ⟨_, _, _, _, _, _, ab, ad, cb, cd, rfl, rfl, rfl, S2.fill2 oq or (by omega) (by omega) (unhide HQ) (unhide HR) hE hE' ?_ ?_ ?_ ?_ ?_ ?_ ?_ ?_ ?_⟩
          · repeat' (first | with_reducible exact BW5 | with_reducible exact BW4 | with_reducible exact BW3 | with_reducible exact Below.refl _ _ | (with_reducible exact unhide HB _ (by assumption)) | refine Below.drew ?_ | refine Below.alloc ?_ ?_ _ | refine Below.setCell ?_ ?_ _ | omega | (simp <;> omega))
          · first | omega | (simp <;> omega)
          · intro j j1 j2 j3
            repeat (first | with_reducible rfl | rw [Below.heap_setCell _ _ _ _ (by first | exact j2 | exact j3)] | (refine (heap_alloc_lt _ _ _ ?_).trans ?_; (first | omega | (simp <;> omega))))
          · first | omega | (simp <;> omega)
          · first | omega | (simp <;> omega)
          · go_simp
          · go_simp
          · go_simp
          · go_simp
    case rest =>
    obtain ⟨nV, nW, Bv, Ev, Bw, Ew, av, aw, cv, cw, rfl, rfl, rfl, S6⟩ := hcut
    simp only [List.nil_append, List.cons_append] at S6
    clear cA0 cA1 zA cB0 cB1 zB
    clear S2 Stab HB
    have cA0 : wc.cell? ⟨w.heap.size, 0, none⟩ = some (.bool p) := S6.cells (w.heap.size, 0, .bool p) (by simp)
    have cA1 : wc.cell? ⟨w.heap.size, 1, none⟩ = some (.slice ao l.length cap) := S6.cells (w.heap.size, 1, .slice ao l.length cap) (by simp)
    have zA : w.heap.size < wc.heap.size := S6.blk (c := (w.heap.size, 0, .bool p)) (by simp)
    go_wp2_with fail
    refine (unhide TA _ S6.below hla).mono ?_
    rintro e w7 ⟨ax, cx, rfl, ox7, b7⟩
    have S7 := S6.own b7 ox7
    simp only [List.nil_append, List.cons_append] at S7
    have y7 := b7.size
    have x7 : nV < wc.heap.size := S6.blk (c := (nV, 0, .bool og)) (by simp)
    have x7' : nW < wc.heap.size := S6.blk (c := (nW, 0, .bool oh)) (by simp)
    have v7 : w.heap.size + 1 < wc.heap.size := S6.blk (c := (w.heap.size + 1, 0, .bool q)) (by simp)
    have e7 : Ev ≤ wc.heap.size := (S6.owns (Bv, Ev, .slice av ol.length cv, ol) (by simp)).2.2.1
    have e7' : Ew ≤ wc.heap.size := (S6.owns (Bw, Ew, .slice aw om.length cw, om) (by simp)).2.2.1
    clear b7 ox7 S6
    clear cA0 cA1 zA
    have cB0 : w7.cell? ⟨w.heap.size + 1, 0, none⟩ = some (.bool q) := S7.cells (w.heap.size + 1, 0, .bool q) (by simp)
    have cB1 : w7.cell? ⟨w.heap.size + 1, 1, none⟩ = some (.slice ao' m.length cap') := S7.cells (w.heap.size + 1, 1, .slice ao' m.length cap') (by simp)
    have zB : w.heap.size + 1 < w7.heap.size := S7.blk (c := (w.heap.size + 1, 0, .bool q)) (by simp)
    go_wp2_with fail
    have S7b := S7.box (.bool p) (.slice ax l.length cx) 25
    simp only [List.nil_append, List.cons_append] at S7b
    refine (unhide TB _ S7b.below hlb).mono ?_
    rintro e w8 ⟨ay, cy, rfl, oy8, b8⟩
    have S8 := S7b.own b8 oy8
    simp only [List.nil_append, List.cons_append, World.size_alloc] at S8
    have y8 := b8.size
    simp only [World.size_alloc] at y8
    clear b8 oy8 S7b S7
    clear cB0 cB1 zB
    have cX0 : w8.cell? ⟨w7.heap.size, 0, none⟩ = some (.bool p) := S8.cells (w7.heap.size, 0, .bool p) (by simp)
    have cX1 : w8.cell? ⟨w7.heap.size, 1, none⟩ = some (.slice ax l.length cx) := S8.cells (w7.heap.size, 1, .slice ax l.length cx) (by simp)
    have zX : w7.heap.size < w8.heap.size := S8.blk (c := (w7.heap.size, 0, .bool p)) (by simp)
    go_wp2_with fail
    have S8b := S8.box (.bool q) (.slice ay m.length cy) 25
    simp only [List.nil_append, List.cons_append] at S8b
    refine (unhide CI _ _ _ (S8b.owns (wc.heap.size, w7.heap.size, .slice ax l.length cx, l) (by simp)).1.reads (S8b.owns (w7.heap.size + 1, w8.heap.size, .slice ay m.length cy, m) (by simp)).1.reads).mono ?_
    rintro e w9 ⟨ag, ah, cg, ch, Bg, Eg, Bh, Eh, rfl, og9, oh9, lg, lh, eg, eh, hgh, hEg, hEh, b9⟩
    have S9 := S8b.own2 b9 og9 oh9 lg lh eg eh hEg hEh
    simp only [List.nil_append, List.cons_append] at S9
    have y9 := b9.size
    simp only [World.size_alloc] at y9 lg lh
    clear b9 og9 oh9 eg eh S8b S8
    clear cX0 cX1 zX
    have cV0 : w9.cell? ⟨nV, 0, none⟩ = some (.bool og) := S9.cells (nV, 0, .bool og) (by simp)
    have cV1 : w9.cell? ⟨nV, 1, none⟩ = some (.slice av ol.length cv) := S9.cells (nV, 1, .slice av ol.length cv) (by simp)
    have zV : nV < w9.heap.size := S9.blk (c := (nV, 0, .bool og)) (by simp)
    have cW0 : w9.cell? ⟨nW, 0, none⟩ = some (.bool oh) := S9.cells (nW, 0, .bool oh) (by simp)
    have cW1 : w9.cell? ⟨nW, 1, none⟩ = some (.slice aw om.length cw) := S9.cells (nW, 1, .slice aw om.length cw) (by simp)
    have zW : nW < w9.heap.size := S9.blk (c := (nW, 0, .bool oh)) (by simp)
    have S9b := (S9.box (.bool og) (.slice ag ol.length cg) 25).box (.bool oh) (.slice ah om.length ch) 25
    simp only [List.nil_append, List.cons_append, World.size_alloc] at S9b
    go_wp2_with fail
    refine (eqBig_same _ og _ _ ol (S9b.owns (Bg, Eg, .slice ag ol.length cg, ol) (by simp)).1.reads (S9b.owns (Bv, Ev, .slice av ol.length cv, ol) (by simp)).1.reads).mono ?_
    rintro e w10 ⟨rfl, b10⟩
    have S10 := S9b.later b10
    clear b10 S9b S9
    clear cV0 cV1 zV cW0 cW1 zW
    have cH0 : w10.cell? ⟨w9.heap.size + 1, 0, none⟩ = some (.bool oh) := S10.cells (w9.heap.size + 1, 0, .bool oh) (by simp)
    have cH1 : w10.cell? ⟨w9.heap.size + 1, 1, none⟩ = some (.slice ah om.length ch) := S10.cells (w9.heap.size + 1, 1, .slice ah om.length ch) (by simp)
    have zH : w9.heap.size + 1 < w10.heap.size := S10.blk (c := (w9.heap.size + 1, 0, .bool oh)) (by simp)
    have cW0 : w10.cell? ⟨nW, 0, none⟩ = some (.bool oh) := S10.cells (nW, 0, .bool oh) (by simp)
    have cW1 : w10.cell? ⟨nW, 1, none⟩ = some (.slice aw om.length cw) := S10.cells (nW, 1, .slice aw om.length cw) (by simp)
    have zW : nW < w10.heap.size := S10.blk (c := (nW, 0, .bool oh)) (by simp)
    go_wp2_with fail
    refine (eqBig_same _ oh _ _ om (S10.owns (Bh, Eh, .slice ah om.length ch, om) (by simp)).1.reads (S10.owns (Bw, Ew, .slice aw om.length cw, om) (by simp)).1.reads).mono ?_
    rintro e w11 ⟨rfl, b0⟩
    have S11 := S10.later b0
    clear b0 S10
    clear cH0 cH1 zH cW0 cW1 zW
    have cX0 : w11.cell? ⟨w7.heap.size, 0, none⟩ = some (.bool p) := S11.cells (w7.heap.size, 0, .bool p) (by simp)
    have cX1 : w11.cell? ⟨w7.heap.size, 1, none⟩ = some (.slice ax l.length cx) := S11.cells (w7.heap.size, 1, .slice ax l.length cx) (by simp)
    have zX : w7.heap.size < w11.heap.size := S11.blk (c := (w7.heap.size, 0, .bool p)) (by simp)
    have cA0 : w11.cell? ⟨w.heap.size, 0, none⟩ = some (.bool p) := S11.cells (w.heap.size, 0, .bool p) (by simp)
    have cA1 : w11.cell? ⟨w.heap.size, 1, none⟩ = some (.slice ao l.length cap) := S11.cells (w.heap.size, 1, .slice ao l.length cap) (by simp)
    have zA : w.heap.size < w11.heap.size := S11.blk (c := (w.heap.size, 0, .bool p)) (by simp)
    have stabP : ∀ w' : World, Below w11.heap.size w11 w' → (w'.cell? ⟨w7.heap.size, 0, none⟩ = some (.bool p) ∧ w'.cell? ⟨w7.heap.size, 1, none⟩ = some (.slice ax l.length cx) ∧ w'.cell? ⟨w.heap.size, 0, none⟩ = some (.bool p) ∧ w'.cell? ⟨w.heap.size, 1, none⟩ = some (.slice ao l.length cap)) := fun w' h => ⟨(S11.later h).cells (w7.heap.size, 0, .bool p) (by simp), (S11.later h).cells (w7.heap.size, 1, .slice ax l.length cx) (by simp), (S11.later h).cells (w.heap.size, 0, .bool p) (by simp), (S11.later h).cells (w.heap.size, 1, .slice ao l.length cap) (by simp)⟩
    have StabP := hide stabP
    have oxP := (S11.owns (wc.heap.size, w7.heap.size, .slice ax l.length cx, l) (by simp)).1
    clear stabP
    go_wp2
    go_region_held (fun w' => w'.cell? ⟨w7.heap.size, 0, none⟩ = some (.bool p) ∧ w'.cell? ⟨w7.heap.size, 1, none⟩ = some (.slice ax l.length cx) ∧ w'.cell? ⟨w.heap.size, 0, none⟩ = some (.bool p) ∧ w'.cell? ⟨w.heap.size, 1, none⟩ = some (.slice ao l.length cap))
      (first | exact unhide StabP _ (Below.refl _ _).drew | (refine unhide StabP _ ?_; assumption))
      (first
        | (go_at_call 30; refine (unhide TA _ ?_ hla).mono ?_; exact S11.drew.below; rintro e w12 ⟨a9, c9, rfl, o9, b9⟩; have BXP : Below w11.heap.size w11 w12 := (Below.refl _ _).drew.trans b9; have oyP := oxP.later BXP)
        | (go_at_call 32; refine (eqBig_same _ p _ _ l ?_ ?_).mono ?_; exact oyP.reads; exact o9.reads; rintro e w13 ⟨rfl, b10⟩; have BYP := BXP.trans (b10.mono BXP.size)))
    have S13 := S11.later BYP
    clear BXP BYP b9 b10 o9 oxP oyP StabP
    clear S11
    clear cX0 cX1 zX cA0 cA1 zA
    have cY0 : w13.cell? ⟨w8.heap.size, 0, none⟩ = some (.bool q) := S13.cells (w8.heap.size, 0, .bool q) (by simp)
    have cY1 : w13.cell? ⟨w8.heap.size, 1, none⟩ = some (.slice ay m.length cy) := S13.cells (w8.heap.size, 1, .slice ay m.length cy) (by simp)
    have zY : w8.heap.size < w13.heap.size := S13.blk (c := (w8.heap.size, 0, .bool q)) (by simp)
    have cB0 : w13.cell? ⟨w.heap.size + 1, 0, none⟩ = some (.bool q) := S13.cells (w.heap.size + 1, 0, .bool q) (by simp)
    have cB1 : w13.cell? ⟨w.heap.size + 1, 1, none⟩ = some (.slice ao' m.length cap') := S13.cells (w.heap.size + 1, 1, .slice ao' m.length cap') (by simp)
    have zB : w.heap.size + 1 < w13.heap.size := S13.blk (c := (w.heap.size + 1, 0, .bool q)) (by simp)
    have stabQ : ∀ w' : World, Below w13.heap.size w13 w' → (w'.cell? ⟨w8.heap.size, 0, none⟩ = some (.bool q) ∧ w'.cell? ⟨w8.heap.size, 1, none⟩ = some (.slice ay m.length cy) ∧ w'.cell? ⟨w.heap.size + 1, 0, none⟩ = some (.bool q) ∧ w'.cell? ⟨w.heap.size + 1, 1, none⟩ = some (.slice ao' m.length cap')) := fun w' h => ⟨(S13.later h).cells (w8.heap.size, 0, .bool q) (by simp), (S13.later h).cells (w8.heap.size, 1, .slice ay m.length cy) (by simp), (S13.later h).cells (w.heap.size + 1, 0, .bool q) (by simp), (S13.later h).cells (w.heap.size + 1, 1, .slice ao' m.length cap') (by simp)⟩
    have StabQ := hide stabQ
    have oxQ := (S13.owns (w7.heap.size + 1, w8.heap.size, .slice ay m.length cy, m) (by simp)).1
    clear stabQ
    go_wp2
    go_region_held (fun w' => w'.cell? ⟨w8.heap.size, 0, none⟩ = some (.bool q) ∧ w'.cell? ⟨w8.heap.size, 1, none⟩ = some (.slice ay m.length cy) ∧ w'.cell? ⟨w.heap.size + 1, 0, none⟩ = some (.bool q) ∧ w'.cell? ⟨w.heap.size + 1, 1, none⟩ = some (.slice ao' m.length cap'))
      (first | exact unhide StabQ _ (Below.refl _ _).drew | (refine unhide StabQ _ ?_; assumption))
      (first
        | (go_at_call 30; refine (unhide TB _ ?_ hlb).mono ?_; exact S13.drew.below; rintro e w14 ⟨a9, c9, rfl, o9, b9⟩; have BXQ : Below w13.heap.size w13 w14 := (Below.refl _ _).drew.trans b9; have oyQ := oxQ.later BXQ)
        | (go_at_call 32; refine (eqBig_same _ q _ _ m ?_ ?_).mono ?_; exact oyQ.reads; exact o9.reads; rintro e w15 ⟨rfl, b10⟩; have BYQ := BXQ.trans (b10.mono BXQ.size)))
    have S15 := S13.later BYQ
    clear BXQ BYQ b9 b10 o9 oxQ oyQ StabQ
    clear S13
    clear cY0 cY1 zY cB0 cB1 zB
    have cX0 : w15.cell? ⟨w7.heap.size, 0, none⟩ = some (.bool p) := S15.cells (w7.heap.size, 0, .bool p) (by simp)
    have cX1 : w15.cell? ⟨w7.heap.size, 1, none⟩ = some (.slice ax l.length cx) := S15.cells (w7.heap.size, 1, .slice ax l.length cx) (by simp)
    have zX : w7.heap.size < w15.heap.size := S15.blk (c := (w7.heap.size, 0, .bool p)) (by simp)
    go_wp2_with fail
    refine (markBig_any w15 _ p _ l (1) (S15.owns (wc.heap.size, w7.heap.size, .slice ax l.length cx, l) (by simp)).1 hla (by omega) (by omega)).mono ?_
    rintro e w16 ⟨rfl, o0, g0⟩
    have S16 := Stt.markd (os1 := [(Bv, Ev, .slice av ol.length cv, ol), (Bw, Ew, .slice aw om.length cw, om)]) (os2 := [(w7.heap.size + 1, w8.heap.size, .slice ay m.length cy, m), (Bg, Eg, .slice ag ol.length cg, ol), (Bh, Eh, .slice ah om.length ch, om)]) (B := wc.heap.size) (E := w7.heap.size) S15 o0 g0 (by intro c hc; simp only [List.mem_cons, List.not_mem_nil, or_false] at hc; rcases hc with rfl | rfl | rfl | rfl | rfl | rfl | rfl | rfl | rfl | rfl | rfl | rfl | rfl | rfl | rfl | rfl <;> simp only <;> omega) (by intro o ho; simp only [List.nil_append, List.cons_append, List.mem_cons, List.not_mem_nil, or_false] at ho; rcases ho with rfl | rfl | rfl | rfl | rfl <;> simp only <;> omega)
    simp only [List.nil_append, List.cons_append] at S16
    clear o0 g0 S15
    clear cX0 cX1 zX
    have cY0 : w16.cell? ⟨w8.heap.size, 0, none⟩ = some (.bool q) := S16.cells (w8.heap.size, 0, .bool q) (by simp)
    have cY1 : w16.cell? ⟨w8.heap.size, 1, none⟩ = some (.slice ay m.length cy) := S16.cells (w8.heap.size, 1, .slice ay m.length cy) (by simp)
    have zY : w8.heap.size < w16.heap.size := S16.blk (c := (w8.heap.size, 0, .bool q)) (by simp)
    go_wp2_with fail
    refine (markBig_any w16 _ q _ m (1 + l.length) (S16.owns (w7.heap.size + 1, w8.heap.size, .slice ay m.length cy, m) (by simp)).1 hlb (by omega) (by omega)).mono ?_
    rintro e w17 ⟨rfl, o0, g0⟩
    have S17 := Stt.markd (os1 := [(Bv, Ev, .slice av ol.length cv, ol), (Bw, Ew, .slice aw om.length cw, om), (wc.heap.size, w7.heap.size, .slice ax l.length cx, marks 1 l.length)]) (os2 := [(Bg, Eg, .slice ag ol.length cg, ol), (Bh, Eh, .slice ah om.length ch, om)]) (B := w7.heap.size + 1) (E := w8.heap.size) S16 o0 g0 (by intro c hc; simp only [List.mem_cons, List.not_mem_nil, or_false] at hc; rcases hc with rfl | rfl | rfl | rfl | rfl | rfl | rfl | rfl | rfl | rfl | rfl | rfl | rfl | rfl | rfl | rfl <;> simp only <;> omega) (by intro o ho; simp only [List.nil_append, List.cons_append, List.mem_cons, List.not_mem_nil, or_false] at ho; rcases ho with rfl | rfl | rfl | rfl | rfl <;> simp only <;> omega)
    simp only [List.nil_append, List.cons_append] at S17
    clear o0 g0 S16
    clear cY0 cY1 zY
    have h17 : (0 : Int) ≤ 1 + l.length + m.length := by omega
    have cG0 : w17.cell? ⟨w9.heap.size, 0, none⟩ = some (.bool og) := S17.cells (w9.heap.size, 0, .bool og) (by simp)
    have cG1 : w17.cell? ⟨w9.heap.size, 1, none⟩ = some (.slice ag ol.length cg) := S17.cells (w9.heap.size, 1, .slice ag ol.length cg) (by simp)
    have zG : w9.heap.size < w17.heap.size := S17.blk (c := (w9.heap.size, 0, .bool og)) (by simp)
    have cV0 : w17.cell? ⟨nV, 0, none⟩ = some (.bool og) := S17.cells (nV, 0, .bool og) (by simp)
    have cV1 : w17.cell? ⟨nV, 1, none⟩ = some (.slice av ol.length cv) := S17.cells (nV, 1, .slice av ol.length cv) (by simp)
    have zV : nV < w17.heap.size := S17.blk (c := (nV, 0, .bool og)) (by simp)
    go_wp2_with fail
    refine (eqBig_same _ og _ _ ol (S17.owns (Bg, Eg, .slice ag ol.length cg, ol) (by simp)).1.reads (S17.owns (Bv, Ev, .slice av ol.length cv, ol) (by simp)).1.reads).mono ?_
    rintro e w18 ⟨rfl, b0⟩
    have S18 := S17.later b0
    clear b0 S17
    clear cG0 cG1 zG cV0 cV1 zV
    have cH0 : w18.cell? ⟨w9.heap.size + 1, 0, none⟩ = some (.bool oh) := S18.cells (w9.heap.size + 1, 0, .bool oh) (by simp)
    have cH1 : w18.cell? ⟨w9.heap.size + 1, 1, none⟩ = some (.slice ah om.length ch) := S18.cells (w9.heap.size + 1, 1, .slice ah om.length ch) (by simp)
    have zH : w9.heap.size + 1 < w18.heap.size := S18.blk (c := (w9.heap.size + 1, 0, .bool oh)) (by simp)
    have cW0 : w18.cell? ⟨nW, 0, none⟩ = some (.bool oh) := S18.cells (nW, 0, .bool oh) (by simp)
    have cW1 : w18.cell? ⟨nW, 1, none⟩ = some (.slice aw om.length cw) := S18.cells (nW, 1, .slice aw om.length cw) (by simp)
    have zW : nW < w18.heap.size := S18.blk (c := (nW, 0, .bool oh)) (by simp)
    go_wp2_with fail
    refine (eqBig_same _ oh _ _ om (S18.owns (Bh, Eh, .slice ah om.length ch, om) (by simp)).1.reads (S18.owns (Bw, Ew, .slice aw om.length cw, om) (by simp)).1.reads).mono ?_
    rintro e w19 ⟨rfl, b0⟩
    have S19 := S18.later b0
    clear b0 S18
    clear cH0 cH1 zH cW0 cW1 zW
    have cG0 : w19.cell? ⟨w9.heap.size, 0, none⟩ = some (.bool og) := S19.cells (w9.heap.size, 0, .bool og) (by simp)
    have cG1 : w19.cell? ⟨w9.heap.size, 1, none⟩ = some (.slice ag ol.length cg) := S19.cells (w9.heap.size, 1, .slice ag ol.length cg) (by simp)
    have zG : w9.heap.size < w19.heap.size := S19.blk (c := (w9.heap.size, 0, .bool og)) (by simp)
    go_wp2_with fail
    refine (markBig_any w19 _ og _ ol (1) (S19.owns (Bg, Eg, .slice ag ol.length cg, ol) (by simp)).1 (by omega) (by omega) (by omega)).mono ?_
    rintro e w20 ⟨rfl, o0, g0⟩
    have S20 := Stt.markd (os1 := [(Bv, Ev, .slice av ol.length cv, ol), (Bw, Ew, .slice aw om.length cw, om), (wc.heap.size, w7.heap.size, .slice ax l.length cx, marks 1 l.length), (w7.heap.size + 1, w8.heap.size, .slice ay m.length cy, marks (1 + l.length) m.length)]) (os2 := [(Bh, Eh, .slice ah om.length ch, om)]) (B := Bg) (E := Eg) S19 o0 g0 (by intro c hc; simp only [List.mem_cons, List.not_mem_nil, or_false] at hc; rcases hc with rfl | rfl | rfl | rfl | rfl | rfl | rfl | rfl | rfl | rfl | rfl | rfl | rfl | rfl | rfl | rfl <;> simp only <;> omega) (by intro o ho; simp only [List.nil_append, List.cons_append, List.mem_cons, List.not_mem_nil, or_false] at ho; rcases ho with rfl | rfl | rfl | rfl | rfl <;> simp only <;> omega)
    simp only [List.nil_append, List.cons_append] at S20
    clear o0 g0 S19
    clear cG0 cG1 zG
    have cH0 : w20.cell? ⟨w9.heap.size + 1, 0, none⟩ = some (.bool oh) := S20.cells (w9.heap.size + 1, 0, .bool oh) (by simp)
    have cH1 : w20.cell? ⟨w9.heap.size + 1, 1, none⟩ = some (.slice ah om.length ch) := S20.cells (w9.heap.size + 1, 1, .slice ah om.length ch) (by simp)
    have zH : w9.heap.size + 1 < w20.heap.size := S20.blk (c := (w9.heap.size + 1, 0, .bool oh)) (by simp)
    go_wp2_with fail
    refine (markBig_any w20 _ oh _ om (1 + ol.length) (S20.owns (Bh, Eh, .slice ah om.length ch, om) (by simp)).1 (by omega) (by omega) (by omega)).mono ?_
    rintro e w21 ⟨rfl, o0, g0⟩
    have S21 := Stt.markd (os1 := [(Bv, Ev, .slice av ol.length cv, ol), (Bw, Ew, .slice aw om.length cw, om), (wc.heap.size, w7.heap.size, .slice ax l.length cx, marks 1 l.length), (w7.heap.size + 1, w8.heap.size, .slice ay m.length cy, marks (1 + l.length) m.length), (Bg, Eg, .slice ag ol.length cg, marks 1 ol.length)]) (os2 := []) (B := Bh) (E := Eh) S20 o0 g0 (by intro c hc; simp only [List.mem_cons, List.not_mem_nil, or_false] at hc; rcases hc with rfl | rfl | rfl | rfl | rfl | rfl | rfl | rfl | rfl | rfl | rfl | rfl | rfl | rfl | rfl | rfl <;> simp only <;> omega) (by intro o ho; simp only [List.nil_append, List.cons_append, List.mem_cons, List.not_mem_nil, or_false] at ho; rcases ho with rfl | rfl | rfl | rfl | rfl <;> simp only <;> omega)
    simp only [List.nil_append, List.cons_append] at S21
    clear o0 g0 S20
    clear cH0 cH1 zH
    have hq0 : (0 : Int) ≤ 1 + ol.length := by omega
    have hq2 : (0 : Int) ≤ 1 + ol.length + om.length := by omega
    have hq1 : ((1 + ol.length + om.length : Int) != 1 + ol.length + om.length) = false := by simp
    have cG0 : w21.cell? ⟨w9.heap.size, 0, none⟩ = some (.bool og) := S21.cells (w9.heap.size, 0, .bool og) (by simp)
    have cG1 : w21.cell? ⟨w9.heap.size, 1, none⟩ = some (.slice ag ol.length cg) := S21.cells (w9.heap.size, 1, .slice ag ol.length cg) (by simp)
    have zG : w9.heap.size < w21.heap.size := S21.blk (c := (w9.heap.size, 0, .bool og)) (by simp)
    have hm0 := (S21.owns (Bg, Eg, .slice ag ol.length cg, marks 1 ol.length) (by simp)).1.reads
    go_wp2_with fail
    refine (heldBig_any w21 og _ (1) ol.length hm0 (by omega) (by omega) (by omega)).mono ?_
    rintro e w22 ⟨rfl, b0⟩
    have S22 := S21.later b0
    clear b0 S21 hm0
    clear cG0 cG1 zG
    have cH0 : w22.cell? ⟨w9.heap.size + 1, 0, none⟩ = some (.bool oh) := S22.cells (w9.heap.size + 1, 0, .bool oh) (by simp)
    have cH1 : w22.cell? ⟨w9.heap.size + 1, 1, none⟩ = some (.slice ah om.length ch) := S22.cells (w9.heap.size + 1, 1, .slice ah om.length ch) (by simp)
    have zH : w9.heap.size + 1 < w22.heap.size := S22.blk (c := (w9.heap.size + 1, 0, .bool oh)) (by simp)
    have hm0 := (S22.owns (Bh, Eh, .slice ah om.length ch, marks (1 + ol.length) om.length) (by simp)).1.reads
    go_wp2_with fail
    refine (heldBig_any w22 oh _ (1 + ol.length) om.length hm0 (by omega) (by omega) (by omega)).mono ?_
    rintro e w23 ⟨rfl, b0⟩
    have S23 := S22.later b0
    clear b0 S22 hm0
    clear cH0 cH1 zH
    have cA0 : w23.cell? ⟨w.heap.size, 0, none⟩ = some (.bool p) := S23.cells (w.heap.size, 0, .bool p) (by simp)
    have cA1 : w23.cell? ⟨w.heap.size, 1, none⟩ = some (.slice ao l.length cap) := S23.cells (w.heap.size, 1, .slice ao l.length cap) (by simp)
    have zA : w.heap.size < w23.heap.size := S23.blk (c := (w.heap.size, 0, .bool p)) (by simp)
    have cB0 : w23.cell? ⟨w.heap.size + 1, 0, none⟩ = some (.bool q) := S23.cells (w.heap.size + 1, 0, .bool q) (by simp)
    have cB1 : w23.cell? ⟨w.heap.size + 1, 1, none⟩ = some (.slice ao' m.length cap') := S23.cells (w.heap.size + 1, 1, .slice ao' m.length cap') (by simp)
    have zB : w.heap.size + 1 < w23.heap.size := S23.blk (c := (w.heap.size + 1, 0, .bool q)) (by simp)
    have stabR : ∀ w' : World, Below w23.heap.size w23 w' → ((w'.cell? ⟨w.heap.size, 0, none⟩ = some (.bool p) ∧ w'.cell? ⟨w.heap.size, 1, none⟩ = some (.slice ao l.length cap) ∧ w'.cell? ⟨w.heap.size + 1, 0, none⟩ = some (.bool q) ∧ w'.cell? ⟨w.heap.size + 1, 1, none⟩ = some (.slice ao' m.length cap')) ∧ Below w23.heap.size w23 w') := fun w' h => ⟨⟨(S23.later h).cells (w.heap.size, 0, .bool p) (by simp), (S23.later h).cells (w.heap.size, 1, .slice ao l.length cap) (by simp), (S23.later h).cells (w.heap.size + 1, 0, .bool q) (by simp), (S23.later h).cells (w.heap.size + 1, 1, .slice ao' m.length cap') (by simp)⟩, h⟩
    have hBR : ∀ W : World, ((W.cell? ⟨w.heap.size, 0, none⟩ = some (.bool p) ∧ W.cell? ⟨w.heap.size, 1, none⟩ = some (.slice ao l.length cap) ∧ W.cell? ⟨w.heap.size + 1, 0, none⟩ = some (.bool q) ∧ W.cell? ⟨w.heap.size + 1, 1, none⟩ = some (.slice ao' m.length cap')) ∧ Below w23.heap.size w23 W) → Below w23.heap.size w23 W := fun W h => h.2
    have StabR := hide stabR
    have HBR := hide hBR
    clear stabR hBR
    go_wp2
    go_cut [17, 18, 19] (fun sp sr sb wk => ∃ (nB nC Bf Et Bk Ek : Nat) (ab ad : Option Addr) (cb cd : Nat), sp = .pointer (some ⟨nB, 0, none⟩) ∧ sr = .pointer (some ⟨nC, 0, none⟩) ∧ sb = .bool ok ∧ Stt w wk ([(w.heap.size, 0, .bool p), (w.heap.size, 1, .slice ao l.length cap), (w.heap.size + 1, 0, .bool q), (w.heap.size + 1, 1, .slice ao' m.length cap'), (nV, 0, .bool og), (nV, 1, .slice av ol.length cv), (nW, 0, .bool oh), (nW, 1, .slice aw om.length cw), (w7.heap.size, 0, .bool p), (w7.heap.size, 1, .slice ax l.length cx), (w8.heap.size, 0, .bool q), (w8.heap.size, 1, .slice ay m.length cy), (w9.heap.size, 0, .bool og), (w9.heap.size, 1, .slice ag ol.length cg), (w9.heap.size + 1, 0, .bool oh), (w9.heap.size + 1, 1, .slice ah om.length ch)] ++ [(nB, 0, .bool og), (nB, 1, .slice ab ol.length cb), (nC, 0, .bool oh), (nC, 1, .slice ad om.length cd)]) ([(Bv, Ev, .slice av ol.length cv, ol), (Bw, Ew, .slice aw om.length cw, om), (wc.heap.size, w7.heap.size, .slice ax l.length cx, marks 1 l.length), (w7.heap.size + 1, w8.heap.size, .slice ay m.length cy, marks (1 + l.length) m.length), (Bg, Eg, .slice ag ol.length cg, marks 1 ol.length), (Bh, Eh, .slice ah om.length ch, marks (1 + ol.length) om.length)] ++ [(Bf, Et, .slice ab ol.length cb, ol), (Bk, Ek, .slice ad om.length cd, om)]))
    case first => as_aux_lemma =>
      go_region_held3 (fun w' => (w'.cell? ⟨w.heap.size, 0, none⟩ = some (.bool p) ∧ w'.cell? ⟨w.heap.size, 1, none⟩ = some (.slice ao l.length cap) ∧ w'.cell? ⟨w.heap.size + 1, 0, none⟩ = some (.bool q) ∧ w'.cell? ⟨w.heap.size + 1, 1, none⟩ = some (.slice ao' m.length cap')) ∧ Below w23.heap.size w23 w')
        ((refine unhide StabR _ ?_; repeat' (first | with_reducible exact BW5 | with_reducible exact BW4 | with_reducible exact BW3 | with_reducible exact Below.refl _ _ | (with_reducible exact unhide HBR _ (by assumption)) | refine Below.drew ?_ | refine Below.alloc ?_ ?_ _ | refine Below.setCell ?_ ?_ _ | omega | (simp <;> omega))))
        (first
          | (go_at_call_of 30 (Value.slice ao l.length cap); refine (unhide TA _ ?_ hla).mono ?_; exact S23.below.trans ((unhide HBR _ (by assumption)).mono S23.below.size); rintro e w3 ⟨a3, c3, rfl, o3, b3⟩; have BW3 : Below w23.heap.size w23 w3 := (unhide HBR _ (by assumption)).trans (b3.mono (unhide HBR _ (by assumption)).size); have y3 := BW3.size; have E3 : EBs w3 _ := (by first | with_reducible exact EBs.drew2 b3 | with_reducible exact EBs.drew1 b3 | exact EBs.empty w3))
          | (go_at_call_of 30 (Value.slice ao' m.length cap'); refine (unhide TB _ ?_ hlb).mono ?_; exact S23.below.trans ((unhide HBR _ (by assumption)).mono S23.below.size); rintro e w4 ⟨a4, c4, rfl, o4, b4⟩; have K4 : Below w3.heap.size w3 w4 := (by first | with_reducible exact b4 | with_reducible exact below_back b4 | with_reducible exact below_back2 b4); have BW4 : Below w23.heap.size w23 w4 := BW3.trans (K4.mono BW3.size); have y4 := K4.size; have o3' := o3.later K4; have E4 : EBs w4 _ := (by first | with_reducible exact E3.later b4 | with_reducible exact E3.step1 b4 | with_reducible exact E3.step2 b4); have l4 := E4.lts; (try simp at l4); clear K4)
          | (go_at_call 20; refine (unhide CI _ _ _ ?_ ?_).mono ?_; (first | exact o3'.reads | exact o3'.reads.alloc _ | exact (o3'.reads.alloc _).alloc _); (first | exact o4.reads | exact o4.reads.alloc _ | exact (o4.reads.alloc _).alloc _); rintro e w5 ⟨ab, ad, cb, cd, Bf, Et, Bk, Ek, rfl, oq, or, lq, lr, eq, er, -, hE, hE', b5⟩; (try simp only [World.size_alloc] at lq lr); have K5 : Below w4.heap.size w4 w5 := (by first | with_reducible exact b5 | with_reducible exact below_back b5 | with_reducible exact below_back2 b5); have BW5 : Below w23.heap.size w23 w5 := BW4.trans (K5.mono BW4.size); have y5 := K5.size; have E5 : EBs w5 _ := (by first | with_reducible exact E4.later b5 | with_reducible exact E4.step1 b5 | with_reducible exact E4.step2 b5); (first | (obtain ⟨⟨e0, e1, e2, e3, e4⟩, ⟨e5, e6, e7, e8, e9⟩, e10, e11⟩ := EBs.open2 E5) | (obtain ⟨⟨e0, e1, e2, e3, e4⟩, e10, e11⟩ := EBs.open1 E5) | skip); have HQ := hide eq; have HR := hide er; clear K5 eq er))
      all_goals
        go_wp2
        go_meet
        case rel =>
          refine ⟨_, _, _, _, _, _, ab, ad, cb, cd, rfl, rfl, rfl, S23.fill2 oq or (by omega) (by omega) (unhide HQ) (unhide HR) hE hE' ?_ ?_ ?_ ?_ ?_ ?_ ?_ ?_ ?_⟩
          · repeat' (first | with_reducible exact BW5 | with_reducible exact BW4 | with_reducible exact BW3 | with_reducible exact Below.refl _ _ | (with_reducible exact unhide HBR _ (by assumption)) | refine Below.drew ?_ | refine Below.alloc ?_ ?_ _ | refine Below.setCell ?_ ?_ _ | omega | (simp <;> omega))
          · first | omega | (simp <;> omega)
          · intro j j1 j2 j3
            repeat (first | with_reducible rfl | rw [Below.heap_setCell _ _ _ _ (by first | exact j2 | exact j3)] | (refine (heap_alloc_lt _ _ _ ?_).trans ?_; (first | omega | (simp <;> omega))))
          · first | omega | (simp <;> omega)
          · first | omega | (simp <;> omega)
          · go_simp
          · go_simp
          · go_simp
          · go_simp
    case rest =>
    obtain ⟨nI, nJ, Bi, Ei, Bj, Ej, ai, aj, ci, cj, rfl, rfl, rfl, S24⟩ := hcut
    simp only [List.nil_append, List.cons_append] at S24
    clear cA0 cA1 zA cB0 cB1 zB
    clear S23 StabR HBR
    have cI0 : wc.cell? ⟨nI, 0, none⟩ = some (.bool og) := S24.cells (nI, 0, .bool og) (by simp)
    have cI1 : wc.cell? ⟨nI, 1, none⟩ = some (.slice ai ol.length ci) := S24.cells (nI, 1, .slice ai ol.length ci) (by simp)
    have zI : nI < wc.heap.size := S24.blk (c := (nI, 0, .bool og)) (by simp)
    have cV0 : wc.cell? ⟨nV, 0, none⟩ = some (.bool og) := S24.cells (nV, 0, .bool og) (by simp)
    have cV1 : wc.cell? ⟨nV, 1, none⟩ = some (.slice av ol.length cv) := S24.cells (nV, 1, .slice av ol.length cv) (by simp)
    have zV : nV < wc.heap.size := S24.blk (c := (nV, 0, .bool og)) (by simp)
    go_wp2_with fail
    refine (eqBig_same _ og _ _ ol (S24.owns (Bi, Ei, .slice ai ol.length ci, ol) (by simp)).1.reads (S24.owns (Bv, Ev, .slice av ol.length cv, ol) (by simp)).1.reads).mono ?_
    rintro e w25 ⟨rfl, b0⟩
    have S25 := S24.later b0
    clear b0 S24
    clear cI0 cI1 zI cV0 cV1 zV
    have cJ0 : w25.cell? ⟨nJ, 0, none⟩ = some (.bool oh) := S25.cells (nJ, 0, .bool oh) (by simp)
    have cJ1 : w25.cell? ⟨nJ, 1, none⟩ = some (.slice aj om.length cj) := S25.cells (nJ, 1, .slice aj om.length cj) (by simp)
    have zJ : nJ < w25.heap.size := S25.blk (c := (nJ, 0, .bool oh)) (by simp)
    have cW0 : w25.cell? ⟨nW, 0, none⟩ = some (.bool oh) := S25.cells (nW, 0, .bool oh) (by simp)
    have cW1 : w25.cell? ⟨nW, 1, none⟩ = some (.slice aw om.length cw) := S25.cells (nW, 1, .slice aw om.length cw) (by simp)
    have zW : nW < w25.heap.size := S25.blk (c := (nW, 0, .bool oh)) (by simp)
    go_wp2_with fail
    refine (eqBig_same _ oh _ _ om (S25.owns (Bj, Ej, .slice aj om.length cj, om) (by simp)).1.reads (S25.owns (Bw, Ew, .slice aw om.length cw, om) (by simp)).1.reads).mono ?_
    rintro e w26 ⟨rfl, b0⟩
    have S26 := S25.later b0
    clear b0 S25
    clear cJ0 cJ1 zJ cW0 cW1 zW
    have cG0 : w26.cell? ⟨w9.heap.size, 0, none⟩ = some (.bool og) := S26.cells (w9.heap.size, 0, .bool og) (by simp)
    have cG1 : w26.cell? ⟨w9.heap.size, 1, none⟩ = some (.slice ag ol.length cg) := S26.cells (w9.heap.size, 1, .slice ag ol.length cg) (by simp)
    have zG : w9.heap.size < w26.heap.size := S26.blk (c := (w9.heap.size, 0, .bool og)) (by simp)
    have hm0 := (S26.owns (Bg, Eg, .slice ag ol.length cg, marks 1 ol.length) (by simp)).1.reads
    go_wp2_with fail
    refine (heldBig_any w26 og _ (1) ol.length hm0 (by omega) (by omega) (by omega)).mono ?_
    rintro e w27 ⟨rfl, b0⟩
    have S27 := S26.later b0
    clear b0 S26 hm0
    clear cG0 cG1 zG
    have cH0 : w27.cell? ⟨w9.heap.size + 1, 0, none⟩ = some (.bool oh) := S27.cells (w9.heap.size + 1, 0, .bool oh) (by simp)
    have cH1 : w27.cell? ⟨w9.heap.size + 1, 1, none⟩ = some (.slice ah om.length ch) := S27.cells (w9.heap.size + 1, 1, .slice ah om.length ch) (by simp)
    have zH : w9.heap.size + 1 < w27.heap.size := S27.blk (c := (w9.heap.size + 1, 0, .bool oh)) (by simp)
    have hm0 := (S27.owns (Bh, Eh, .slice ah om.length ch, marks (1 + ol.length) om.length) (by simp)).1.reads
    go_wp2_with fail
    refine (heldBig_any w27 oh _ (1 + ol.length) om.length hm0 (by omega) (by omega) (by omega)).mono ?_
    rintro e w28 ⟨rfl, b0⟩
    have S28 := S27.later b0
    clear b0 S27 hm0
    clear cH0 cH1 zH
    go_wp2
    go_ret
    exact ⟨rfl, S28.below⟩

end Go.Proofs.Ytlmbcicfpidhcaa
