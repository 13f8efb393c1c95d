/- The law FnDecPut: its walk. -/
import Derived.Test.YthcmkeegfhgliaaDoorPgW
import Derived.Test.YthcmkeegfhgliaaDoorAnyD
import Derived.Test.YthcmkeegfhgliaaDoorJtD
import Derived.Test.YthcmkeegfhgliaaDoorGs
namespace Go.Proofs.YthcmkeegfhgliaaDoor
open Go.RowKit
set_option maxRecDepth 100000

set_option maxHeartbeats 4000000 in
theorem xDecPutP_walk (w : World) (u : Value) (hu : Byt w u) (tt : Tab w) :
    Calls Tryd.prog 3 #[u] w fun e w' => e = .returned (.bool true) ∧ Below w.heap.size w w' := by
  have C0 := hide (drawDecPut_any w u hu)
  obtain ⟨ao, N, cap, rfl, hn⟩ := byt_len hu
  clear hu
  by_cases hl : (1048576 : Int) < N
  · have t0 : decide ((1048576 : Int) < N) = true := by simpa using hl
    go_enter Tryd.func3, Tryd.ntmps3
    go_wp2
    go_ret
    exact ⟨rfl, Below.refl _ _⟩
  have t0 : decide ((1048576 : Int) < N) = false := by simpa using hl
  go_enter Tryd.func3, Tryd.ntmps3
  go_wp2_with fail
  refine (unhide C0).mono ?_
  rintro e w1 ⟨p, l, sc, aa, ca, rfl, hll, oa, b1⟩
  have S0 : Stt w w [] [] := ⟨Below.refl _ _, by simp, by simp⟩
  have S1 := (S0.own b1 oa).box3 (.bool p) (.slice aa l.length ca) (.int .i64 sc) 27
  simp only [List.nil_append] at S1
  have CP := hide (fun W v (hr : Reads W v l) (k : Below w.heap.size w W) => implDecPut_any W p v l sc hr (tt.later k))
  have CS := hide (fun W v (hr : Reads W v l) => specDecPut_any W p v l sc hr)
  clear C0 b1 oa S0
  go_wp2_with fail
  refine (unhide CP _ _ (S1.owns (w.heap.size, w1.heap.size, .slice aa l.length ca, l) (by simp)).1.reads S1.below).mono ?_
  rintro e w2 ⟨rfl, b2⟩
  have S2 := S1.later b2
  clear b2 S1 CP
  have cA0 : w2.cell? ⟨w1.heap.size, 0, none⟩ = some (.bool p) := S2.cells (w1.heap.size, 0, .bool p) (by simp)
  have cA1 : w2.cell? ⟨w1.heap.size, 1, none⟩ = some (.slice aa l.length ca) := S2.cells (w1.heap.size, 1, .slice aa l.length ca) (by simp)
  have cA2 : w2.cell? ⟨w1.heap.size, 2, none⟩ = some (.int .i64 sc) := S2.cells (w1.heap.size, 2, .int .i64 sc) (by simp)
  have zA : w1.heap.size < w2.heap.size := S2.blk (c := (w1.heap.size, 0, .bool p)) (by simp)
  have hTT : ∀ T : ByteArray, (T.toList == T.toList) = true := fun T => by simp
  have hTN : ∀ T : ByteArray, (T.toList != T.toList) = false := fun T => by simp
  by_cases hok : decB p l sc = true
  · obtain ⟨s, rfl⟩ : ∃ s : Nat, sc = s := by
      obtain ⟨-, -, h0, -⟩ := decB_iff.1 hok
      exact ⟨sc.toNat, by omega⟩
    have hput : dputR p l (s : Int) = decT p l s := by unfold dputR; rw [if_pos hok, Int.toNat_natCast]
    rw [hput] at CS ⊢
    obtain ⟨d, hd, hG⟩ := dput_get hok
    obtain ⟨D, hD, hD1, hD2, hD3, hD4, hT0, hT40⟩ := dput_dots hok
    have CG := hide (fun W (k : Below w.heap.size w W) => implDecGet_any W (decT p l s) d hd (by unfold maxLen; omega) (tt.later k))
    rw [hG] at CG
    have hTe : (decT p l s).toList.isEmpty = false := by rw [empty_size, decide_eq_false_iff_not]; omega
    clear hok hput hd hG
    generalize decT p l s = T at *
    have HD := hide (And.intro hD1 (And.intro hD2 (And.intro hD3 hD4)))
    clear hD1 hD2 hD3 hD4
    have e1 := hTT T
    have e2 := hTN T
    clear hTT hTN
    go_wp2_with fail
    refine (unhide CS _ _ (S2.owns (w.heap.size, w1.heap.size, .slice aa l.length ca, l) (by simp)).1.reads).mono ?_
    rintro e w3 ⟨rfl, b3⟩
    have S3 := S2.later b3
    clear b3 S2 CS cA0 cA1 cA2 zA
    go_wp2_with fail
    refine (unhide CG _ S3.below).mono ?_
    rintro e w4 ⟨ax, cx, rfl, ox, b4⟩
    have S4 := (S3.own b4 ox).box3 (.bool p) (.slice ax l.length cx) (.int .i64 s) 27
    simp only [List.cons_append, List.nil_append] at S4
    clear b4 S3 CG ox
    go_wp2
    have zX0 : w4.heap.size < (w4.alloc (.cells #[.bool p, .slice ax l.length cx, .int .i64 s] 27)).heap.size := by simp
    generalize w4.alloc (.cells #[.bool p, .slice ax l.length cx, .int .i64 s] 27) = W at *
    have cA0 : W.cell? ⟨w1.heap.size, 0, none⟩ = some (.bool p) := S4.cells (w1.heap.size, 0, .bool p) (by simp)
    have cA1 : W.cell? ⟨w1.heap.size, 1, none⟩ = some (.slice aa l.length ca) := S4.cells (w1.heap.size, 1, .slice aa l.length ca) (by simp)
    have cA2 : W.cell? ⟨w1.heap.size, 2, none⟩ = some (.int .i64 s) := S4.cells (w1.heap.size, 2, .int .i64 s) (by simp)
    have zA : w1.heap.size < W.heap.size := S4.blk (c := (w1.heap.size, 0, .bool p)) (by simp)
    have cX0 : W.cell? ⟨w4.heap.size, 0, none⟩ = some (.bool p) := S4.cells (w4.heap.size, 0, .bool p) (by simp)
    have cX1 : W.cell? ⟨w4.heap.size, 1, none⟩ = some (.slice ax l.length cx) := S4.cells (w4.heap.size, 1, .slice ax l.length cx) (by simp)
    have cX2 : W.cell? ⟨w4.heap.size, 2, none⟩ = some (.int .i64 s) := S4.cells (w4.heap.size, 2, .int .i64 s) (by simp)
    have RX := hide (S4.owns (w3.heap.size, w4.heap.size, .slice ax l.length cx, l) (by simp)).1.reads
    have RA := hide (S4.owns (w.heap.size, w1.heap.size, .slice aa l.length ca, l) (by simp)).1.reads
    clear e1 e2 hTe
    go_loopw [7, 8] (fun nn ii wr => ∃ (i : Nat) (m : Int), ii = .int .i64 i ∧ nn = .int .i64 m ∧ i ≤ T.size ∧ Hid (m = if D < i then ((T.size : Int) - 1 - D) else 0) ∧ wr = W) (fun _ ii _ => T.size - (intOf ii).toNat)
    case atStart => exact ⟨0, 0, rfl, rfl, Nat.zero_le _, hide (by rw [if_neg (by omega)]), rfl⟩
    case round =>
      obtain ⟨i, m, rfl, rfl, hi, HM, rfl⟩ := hrel
      by_cases h : i < T.size
      · by_cases hd : i = D
        · have hb : ((T[i].toNat : Int) == 46) = true := by
            have h3 := (unhide HD).2.1 (by omega)
            subst hd
            rw [beq_iff_eq]
            omega
          have HE := hide hd
          clear hd
          go_wp2
          go_roundw
          case rel => exact ⟨i + 1, _, rfl, rfl, by omega, hide (by have := unhide HE; rw [if_pos (by omega)]; omega), trivial⟩
          case measure => simp only [intOf]; omega
        · have hb : ((T[i].toNat : Int) == 46) = false := by
            have h3 := (unhide HD).1 i h hd
            rw [beq_eq_false_iff_ne]
            omega
          go_wp2
          go_roundw
          case rel => exact ⟨i + 1, m, rfl, rfl, by omega, hide (by rw [unhide HM]; by_cases k : D < i
                                                                    · rw [if_pos k, if_pos (by omega)]
                                                                    · rw [if_neg k, if_neg (by omega)]), trivial⟩
          case measure => simp only [intOf]; omega
      · have hm : m = (s : Int) := by
          obtain ⟨-, -, h3, h4⟩ := unhide HD
          have e := unhide HM
          split at e
          · have := h3 (by omega)
            omega
          · have := h4 (by omega)
            omega
        subst hm
        have hss : ((s : Int) == (s : Int)) = true := by simp
        clear HM HD
        go_wp2_with fail
        refine (jtDec_same _ p _ _ l s (unhide RX) (unhide RA)).mono ?_
        rintro e w5 ⟨rfl, b5⟩
        have S5 := S4.later b5
        clear cA0 cA1 cA2 zA cX0 cX1 cX2 zX0
        have cA2 : w5.cell? ⟨w1.heap.size, 2, none⟩ = some (.int .i64 s) := S5.cells (w1.heap.size, 2, .int .i64 s) (by simp)
        have zA : w1.heap.size < w5.heap.size := S5.blk (c := (w1.heap.size, 0, .bool p)) (by simp)
        clear b5 S4
        go_wp2
        go_ret
        exact ⟨rfl, S5.below⟩
  · have hput : dputR p l sc = ⟨#[]⟩ := by unfold dputR; rw [if_neg hok]
    rw [hput] at CS ⊢
    have e1 := hTT ⟨#[]⟩
    have e2 := hTN ⟨#[]⟩
    clear hTT hTN hok hput
    go_wp2_with fail
    refine (unhide CS _ _ (S2.owns (w.heap.size, w1.heap.size, .slice aa l.length ca, l) (by simp)).1.reads).mono ?_
    rintro e w3 ⟨rfl, b3⟩
    have S3 := S2.later b3
    clear b3 cA0 cA1 cA2 zA
    have cA0 : w3.cell? ⟨w1.heap.size, 0, none⟩ = some (.bool p) := S3.cells (w1.heap.size, 0, .bool p) (by simp)
    have cA1 : w3.cell? ⟨w1.heap.size, 1, none⟩ = some (.slice aa l.length ca) := S3.cells (w1.heap.size, 1, .slice aa l.length ca) (by simp)
    have cA2 : w3.cell? ⟨w1.heap.size, 2, none⟩ = some (.int .i64 sc) := S3.cells (w1.heap.size, 2, .int .i64 sc) (by simp)
    have zA : w1.heap.size < w3.heap.size := S3.blk (c := (w1.heap.size, 0, .bool p)) (by simp)
    go_wp2_with fail
    refine (unhide CS _ _ (S3.owns (w.heap.size, w1.heap.size, .slice aa l.length ca, l) (by simp)).1.reads).mono ?_
    rintro e w4 ⟨rfl, b4⟩
    have S4 := S3.later b4
    clear b4 S3 S2
    go_wp2
    go_ret
    exact ⟨rfl, S4.below⟩

end Go.Proofs.YthcmkeegfhgliaaDoor
