/- The law FnBigPut: its walk. -/
import Derived.Test.YtomcgnkmlmiijaaDoorPgN
import Derived.Test.YtomcgnkmlmiijaaDoorAny0
import Derived.Test.YtomcgnkmlmiijaaDoorCmI
import Derived.Test.YtomcgnkmlmiijaaDoorOkS
import Derived.Test.YtomcgnkmlmiijaaDoorPSt0
import Derived.Test.YtomcgnkmlmiijaaDoorJt0
import Derived.Test.YtomcgnkmlmiijaaDoorByt1
namespace Go.Proofs.YtomcgnkmlmiijaaDoor
open Go.RowKit
set_option maxRecDepth 100000

theorem ok_pos {p : Bool} {l : List Int} (h : okB p l = true) : okB false l = true := by
  obtain ⟨h1, h2, h3, h4⟩ := okB_iff.1 h
  exact okB_true ⟨h1, h2, fun _ => rfl, h4⟩

theorem bigT_size {p : Bool} {l : List Int} (h : OkBig p l) : (bigT p l).size ≤ 100 := by
  unfold bigT
  rw [bytes_size, List.length_append]
  have h1 := txtL_len h.2.1
  have h2 : (sgT p).length ≤ 1 := by unfold sgT; split <;> simp
  have := h.1
  omega

theorem txtL_ne (l : List Int) (h : Lim l) : 1 ≤ (txtL l).length := by
  unfold txtL
  split
  · simp
  · rename_i k
    exact (txtAt_len h 0 (List.length_pos_iff.2 k)).2

theorem bigT_ne (p : Bool) (l : List Int) (h : OkBig p l) : (bigT p l).toList.isEmpty = false := by
  rw [empty_size]
  have h1 := txtL_ne l h.2.1
  have e : (bigT p l).size = (sgT p).length + (txtL l).length := by unfold bigT; rw [bytes_size, List.length_append]
  rw [decide_eq_false_iff_not]
  omega

theorem cmp_long {l m : List Int} (hl : okB false l = true) (hm : okB false m = true) (h : (bigT false m).size < (bigT false l).size) : cmpR false l false m = 1 := by
  unfold cmpR
  rw [if_pos ⟨hl, hm⟩]
  obtain ⟨el, _⟩ := ok_limbs hl
  obtain ⟨em, _⟩ := ok_limbs hm
  have sz : ∀ k : List Int, (bigT false k).size = (txtL k).length := fun k => by unfold bigT; rw [bytes_size]; rfl
  rw [sz, sz] at h
  unfold zv zof
  generalize (val l).toNat = a at *
  generalize (val m).toNat = b at *
  rw [el, em, txt_dec, txt_dec] at h
  have hab : b < a := by
    rcases Nat.lt_or_ge b a with k | k
    · exact k
    · have := dec_mono k
      omega
  rw [if_neg (by simp), if_neg (by simp)]
  exact cmpZ_gt (by omega)

theorem drawBigPut_any (w : World) (v : Value) (h : Byt w v) :
    Calls Tryd.prog 5 #[v] w fun e w' => ∃ (pg : Bool) (l : List Int) (ao : Option Addr) (cap : Nat), e = .returned (.agg #[.bool pg, .slice ao l.length cap]) ∧ l.length ≤ 17 ∧ Reads w' (.slice ao l.length cap) l ∧ Below w.heap.size w w' := by
  have K0 : EBox' w (w.alloc (.cells #[.bool false, .slice none 0 0] 25)) := EBox'.start w
  have C0 := hide (fun W (b : Below w.heap.size w W) => l1Open_any W v (h.later b))
  go_enter Tryd.func5, Tryd.ntmps5
  go_wp2_with fail
  refine (unhide C0 _ K0.below).mono ?_
  rintro e w1 ⟨rfl, r1, b1, z1⟩
  have K1 := K0.later b1
  simp only [World.size_alloc] at r1
  clear C0 K0
  have C2 := hide (l14AnyBig_any w1 _ 0 r1 (by omega))
  clear r1 z1
  go_wp2_with fail
  refine (unhide C2).mono ?_
  rintro e w2 ⟨pg, l, ao, cap, q, rfl, hl, o2, r2, hq, g2⟩
  have g1 : Below (w.heap.size + 1) w1 w2 := ⟨g2.os, g2.tape, g2.output, g2.size, fun k hk => g2.block k (by have := K1.lt; omega) (by intro e; simp at e; omega)⟩
  have K2 := K1.later1 g1
  have o3 : Own (w.heap.size + 1) w2 _ l := o2.mono (by have := K1.lt; omega)
  obtain ⟨kb, kr0, kr1, kf0, kf1, kl⟩ := id K2
  clear r2 g2 g1 C2 o2
  go_wp2
  refine bodyPost_ret (v := .agg #[.bool pg, .slice ao l.length cap]) (by simp [results, Tryd.results5, go_sem, kr0, kr1]) rfl ?_
  exact ⟨pg, l, ao, cap, rfl, hl, ((o3.setBelow (by simp) _).setBelow (by simp) _).reads, (kb.setCell (by simp) _).setCell (by simp) _⟩

set_option maxHeartbeats 4000000 in
theorem xBigPutP_walk (w : World) (u v : Value) (hu : Byt w u) (hv : Byt w v) (ht : Tab w) :
    Calls Tryd.prog 3 #[u, v] w fun e w' => e = .returned (.bool true) ∧ Below w.heap.size w w' := by
  have C0 := hide (drawBigPut_any w u hu)
  have C1 := hide (fun (W : World) (b : Below w.heap.size w W) => drawBigPut_any W v (hv.later b))
  obtain ⟨ao, N, cap, rfl, hn⟩ := byt_len hu
  obtain ⟨ao', N', cap', rfl, hn'⟩ := byt_len hv
  clear hu hv
  by_cases hl : (1048576 : Int) < N
  · have t0 : decide ((1048576 : Int) < N) = true := by simpa using hl
    go_enter Tryd.func3, Tryd.ntmps3
    go_wp2
    go_ret
    exact ⟨rfl, Below.refl _ _⟩
  have t0 : decide ((1048576 : Int) < N) = false := by simpa using hl
  by_cases hl' : (1048576 : Int) < N'
  · have t1 : decide ((1048576 : Int) < N') = true := by simpa using hl'
    go_enter Tryd.func3, Tryd.ntmps3
    go_wp2
    go_ret
    exact ⟨rfl, Below.refl _ _⟩
  have t1 : decide ((1048576 : Int) < N') = false := by simpa using hl'
  go_enter Tryd.func3, Tryd.ntmps3
  go_wp2_with fail
  refine (unhide C0).mono ?_
  rintro e w1 ⟨p, l, aa, ca, rfl, hll, ra, b1⟩
  have S1 := (PS.start b1).add p (.slice aa l.length ca) l ra
  simp only [List.nil_append] at S1
  clear C0 b1 ra
  go_wp2_with fail
  refine (unhide C1 _ S1.below).mono ?_
  rintro e w2 ⟨q, m, ab, cb, rfl, hml, rb, b2⟩
  have S2 := (S1.later b2)
  have S2b := S2.add q (.slice ab m.length cb) m rb
  simp only [List.cons_append, List.nil_append] at S2b
  clear C1 b2 rb S1
  have cA0 : w2.cell? ⟨w1.heap.size, 0, none⟩ = some (.bool p) := (S2.box (w1.heap.size, p, .slice aa l.length ca, l) (by simp)).1
  have cA1 : w2.cell? ⟨w1.heap.size, 1, none⟩ = some (.slice aa l.length ca) := (S2.box (w1.heap.size, p, .slice aa l.length ca, l) (by simp)).2.1
  have zA : w1.heap.size < w2.heap.size := (S2.box (w1.heap.size, p, .slice aa l.length ca, l) (by simp)).2.2.2
  have CP := hide (fun W v (hr : Reads W v l) (k : Below w.heap.size w W) => implBigPut_any W p v l hr (ht.later k))
  have CS := hide (fun W v (hr : Reads W v l) => specBigPut_any W p v l hr)
  have CO := hide (fun W v (hr : Reads W v l) => implBigOk_any W p v l hr)
  have CK := hide (fun W v (hr : Reads W v l) => specBigOk_any W p v l hr)
  go_wp2_with fail
  refine (unhide CP _ _ (S2b.box (w1.heap.size, p, .slice aa l.length ca, l) (by simp)).2.2.1 S2b.below).mono ?_
  rintro e w3 ⟨rfl, b3⟩
  have S3 := S2b.later b3
  clear b3 S2 S2b cA0 cA1 zA
  have cA0 : w3.cell? ⟨w1.heap.size, 0, none⟩ = some (.bool p) := (S3.box (w1.heap.size, p, .slice aa l.length ca, l) (by simp)).1
  have cA1 : w3.cell? ⟨w1.heap.size, 1, none⟩ = some (.slice aa l.length ca) := (S3.box (w1.heap.size, p, .slice aa l.length ca, l) (by simp)).2.1
  have zA : w1.heap.size < w3.heap.size := (S3.box (w1.heap.size, p, .slice aa l.length ca, l) (by simp)).2.2.2
  by_cases hok : okB p l = true
  · have hput : putR p l = bigT p l := by unfold putR; rw [if_pos hok]
    rw [hput] at CS ⊢
    have hokF : okB false l = true := ok_pos hok
    have hG := get_put hok
    have hTs : (bigT p l).size ≤ maxLen := by unfold maxLen; have := bigT_size (okB_iff.1 hok); omega
    have hT0 : (bigT p l).toList.isEmpty = false := bigT_ne p l (okB_iff.1 hok)
    have CG := hide (fun W => implBigGet_any W (bigT p l) hTs)
    rw [hG] at CG
    have CF := hide (fun W v (hr : Reads W v l) (k : Below w.heap.size w W) => implBigPut_any W false v l hr (ht.later k))
    have CM := hide (fun W v (hr : Reads W v m) (k : Below w.heap.size w W) => implBigPut_any W false v m hr (ht.later k))
    have CC := hide (fun W x y (hx : Reads W x l) (hy : Reads W y m) => implBigCmp_any W false false x y l m hx hy)
    rw [show putR false l = bigT false l by unfold putR; rw [if_pos hokF]] at CF
    have hFs : (bigT false l).size ≤ 100 := bigT_size (okB_iff.1 hokF)
    have HCmp := hide (fun (hm : okB false m = true) (h : (bigT false m).size < (bigT false l).size) => cmp_long hokF hm h)
    rw [hok] at CO
    generalize bigT p l = T at *
    generalize bigT false l = F at *
    clear hok hput hG hTs CK CP hokF
    have hTT : (T.toList == T.toList) = true := by simp
    go_wp2_with fail
    refine (unhide CS _ _ (S3.box (w1.heap.size, p, .slice aa l.length ca, l) (by simp)).2.2.1).mono ?_
    rintro e w4 ⟨rfl, b4⟩
    have S4 := S3.later b4
    clear b4 S3 cA0 cA1 zA CS
    have cA0 : w4.cell? ⟨w1.heap.size, 0, none⟩ = some (.bool p) := (S4.box (w1.heap.size, p, .slice aa l.length ca, l) (by simp)).1
    have cA1 : w4.cell? ⟨w1.heap.size, 1, none⟩ = some (.slice aa l.length ca) := (S4.box (w1.heap.size, p, .slice aa l.length ca, l) (by simp)).2.1
    have zA : w1.heap.size < w4.heap.size := (S4.box (w1.heap.size, p, .slice aa l.length ca, l) (by simp)).2.2.2
    go_wp2_with fail
    refine (unhide CG _).mono ?_
    rintro e w5 ⟨ax, cx, rfl, ox, b5⟩
    have S5 := (S4.later b5)
    have S5b := S5.add p (.slice ax l.length cx) l ox.reads
    simp only [List.cons_append, List.nil_append] at S5b
    clear b5 S4 cA0 cA1 zA CG ox
    have cA0 : w5.cell? ⟨w1.heap.size, 0, none⟩ = some (.bool p) := (S5.box (w1.heap.size, p, .slice aa l.length ca, l) (by simp)).1
    have cA1 : w5.cell? ⟨w1.heap.size, 1, none⟩ = some (.slice aa l.length ca) := (S5.box (w1.heap.size, p, .slice aa l.length ca, l) (by simp)).2.1
    have zA : w1.heap.size < w5.heap.size := (S5.box (w1.heap.size, p, .slice aa l.length ca, l) (by simp)).2.2.2
    go_wp2_with fail
    refine (unhide CF _ _ (S5b.box (w1.heap.size, p, .slice aa l.length ca, l) (by simp)).2.2.1 S5b.below).mono ?_
    rintro e w6 ⟨rfl, b6⟩
    have S6 := S5b.later b6
    clear b6 S5b S5 cA0 cA1 zA CF
    have cB0 : w6.cell? ⟨w2.heap.size, 0, none⟩ = some (.bool q) := (S6.box (w2.heap.size, q, .slice ab m.length cb, m) (by simp)).1
    have cB1 : w6.cell? ⟨w2.heap.size, 1, none⟩ = some (.slice ab m.length cb) := (S6.box (w2.heap.size, q, .slice ab m.length cb, m) (by simp)).2.1
    have zB : w2.heap.size < w6.heap.size := (S6.box (w2.heap.size, q, .slice ab m.length cb, m) (by simp)).2.2.2
    go_wp2_with fail
    refine (unhide CM _ _ (S6.box (w2.heap.size, q, .slice ab m.length cb, m) (by simp)).2.2.1 S6.below).mono ?_
    rintro e w7 ⟨rfl, b7⟩
    have S7 := S6.later b7
    clear b7 S6 cB0 cB1 zB CM
    by_cases hom : okB false m = true
    · have hM0 : (bigT false m).toList.isEmpty = false := bigT_ne false m (okB_iff.1 hom)
      have hMs : (bigT false m).size ≤ 100 := bigT_size (okB_iff.1 hom)
      rw [show putR false m = bigT false m by unfold putR; rw [if_pos hom]]
      have HC := hide (unhide HCmp hom)
      generalize bigT false m = M at *
      by_cases hlen : M.size < F.size
      · have hlen' : (M.size : Int) < (F.size : Int) := by omega
        rw [unhide HC hlen] at CC
        have cA0 : w7.cell? ⟨w1.heap.size, 0, none⟩ = some (.bool p) := (S7.box (w1.heap.size, p, .slice aa l.length ca, l) (by simp)).1
        have cA1 : w7.cell? ⟨w1.heap.size, 1, none⟩ = some (.slice aa l.length ca) := (S7.box (w1.heap.size, p, .slice aa l.length ca, l) (by simp)).2.1
        have zA : w1.heap.size < w7.heap.size := (S7.box (w1.heap.size, p, .slice aa l.length ca, l) (by simp)).2.2.2
        have cB0 : w7.cell? ⟨w2.heap.size, 0, none⟩ = some (.bool q) := (S7.box (w2.heap.size, q, .slice ab m.length cb, m) (by simp)).1
        have cB1 : w7.cell? ⟨w2.heap.size, 1, none⟩ = some (.slice ab m.length cb) := (S7.box (w2.heap.size, q, .slice ab m.length cb, m) (by simp)).2.1
        have zB : w2.heap.size < w7.heap.size := (S7.box (w2.heap.size, q, .slice ab m.length cb, m) (by simp)).2.2.2
        clear HC HCmp hom
        go_wp2_with fail
        refine (unhide CC _ _ _ (S7.box (w1.heap.size, p, .slice aa l.length ca, l) (by simp)).2.2.1 (S7.box (w2.heap.size, q, .slice ab m.length cb, m) (by simp)).2.2.1).mono ?_
        rintro e w8 ⟨rfl, b8⟩
        have S8 := S7.later b8
        clear b8 S7 cA0 cA1 zA cB0 cB1 zB CC
        have cA0 : w8.cell? ⟨w1.heap.size, 0, none⟩ = some (.bool p) := (S8.box (w1.heap.size, p, .slice aa l.length ca, l) (by simp)).1
        have cA1 : w8.cell? ⟨w1.heap.size, 1, none⟩ = some (.slice aa l.length ca) := (S8.box (w1.heap.size, p, .slice aa l.length ca, l) (by simp)).2.1
        have zA : w1.heap.size < w8.heap.size := (S8.box (w1.heap.size, p, .slice aa l.length ca, l) (by simp)).2.2.2
        have cX0 : w8.cell? ⟨w5.heap.size, 0, none⟩ = some (.bool p) := (S8.box (w5.heap.size, p, .slice ax l.length cx, l) (by simp)).1
        have cX1 : w8.cell? ⟨w5.heap.size, 1, none⟩ = some (.slice ax l.length cx) := (S8.box (w5.heap.size, p, .slice ax l.length cx, l) (by simp)).2.1
        have zX : w5.heap.size < w8.heap.size := (S8.box (w5.heap.size, p, .slice ax l.length cx, l) (by simp)).2.2.2
        go_wp2_with fail
        refine (jtBig_same _ p _ _ l (S8.box (w5.heap.size, p, .slice ax l.length cx, l) (by simp)).2.2.1 (S8.box (w1.heap.size, p, .slice aa l.length ca, l) (by simp)).2.2.1).mono ?_
        rintro e w9 ⟨rfl, k1⟩
        have S9 := S8.later k1
        clear k1 S8 cA0 cA1 zA cX0 cX1 zX
        have cA0 : w9.cell? ⟨w1.heap.size, 0, none⟩ = some (.bool p) := (S9.box (w1.heap.size, p, .slice aa l.length ca, l) (by simp)).1
        have cA1 : w9.cell? ⟨w1.heap.size, 1, none⟩ = some (.slice aa l.length ca) := (S9.box (w1.heap.size, p, .slice aa l.length ca, l) (by simp)).2.1
        have zA : w1.heap.size < w9.heap.size := (S9.box (w1.heap.size, p, .slice aa l.length ca, l) (by simp)).2.2.2
        go_wp2_with fail
        refine (unhide CO _ _ (S9.box (w1.heap.size, p, .slice aa l.length ca, l) (by simp)).2.2.1).mono ?_
        rintro e w10 ⟨rfl, k2⟩
        have S11 := S9.later k2
        clear k2 S9
        go_wp2
        go_ret
        exact ⟨rfl, S11.below⟩
      · have hlen' : ¬ (M.size : Int) < (F.size : Int) := by omega
        clear HC HCmp hom CC
        have cA0 : w7.cell? ⟨w1.heap.size, 0, none⟩ = some (.bool p) := (S7.box (w1.heap.size, p, .slice aa l.length ca, l) (by simp)).1
        have cA1 : w7.cell? ⟨w1.heap.size, 1, none⟩ = some (.slice aa l.length ca) := (S7.box (w1.heap.size, p, .slice aa l.length ca, l) (by simp)).2.1
        have zA : w1.heap.size < w7.heap.size := (S7.box (w1.heap.size, p, .slice aa l.length ca, l) (by simp)).2.2.2
        have cX0 : w7.cell? ⟨w5.heap.size, 0, none⟩ = some (.bool p) := (S7.box (w5.heap.size, p, .slice ax l.length cx, l) (by simp)).1
        have cX1 : w7.cell? ⟨w5.heap.size, 1, none⟩ = some (.slice ax l.length cx) := (S7.box (w5.heap.size, p, .slice ax l.length cx, l) (by simp)).2.1
        have zX : w5.heap.size < w7.heap.size := (S7.box (w5.heap.size, p, .slice ax l.length cx, l) (by simp)).2.2.2
        go_wp2_with fail
        refine (jtBig_same _ p _ _ l (S7.box (w5.heap.size, p, .slice ax l.length cx, l) (by simp)).2.2.1 (S7.box (w1.heap.size, p, .slice aa l.length ca, l) (by simp)).2.2.1).mono ?_
        rintro e w9 ⟨rfl, k1⟩
        have S9 := S7.later k1
        clear k1 S7 cA0 cA1 zA cX0 cX1 zX
        have cA0 : w9.cell? ⟨w1.heap.size, 0, none⟩ = some (.bool p) := (S9.box (w1.heap.size, p, .slice aa l.length ca, l) (by simp)).1
        have cA1 : w9.cell? ⟨w1.heap.size, 1, none⟩ = some (.slice aa l.length ca) := (S9.box (w1.heap.size, p, .slice aa l.length ca, l) (by simp)).2.1
        have zA : w1.heap.size < w9.heap.size := (S9.box (w1.heap.size, p, .slice aa l.length ca, l) (by simp)).2.2.2
        go_wp2_with fail
        refine (unhide CO _ _ (S9.box (w1.heap.size, p, .slice aa l.length ca, l) (by simp)).2.2.1).mono ?_
        rintro e w10 ⟨rfl, k2⟩
        have S11 := S9.later k2
        clear k2 S9
        go_wp2
        go_ret
        exact ⟨rfl, S11.below⟩
    · rw [show putR false m = ⟨#[]⟩ by unfold putR; rw [if_neg hom]]
      clear HCmp hom CC
      have cA0 : w7.cell? ⟨w1.heap.size, 0, none⟩ = some (.bool p) := (S7.box (w1.heap.size, p, .slice aa l.length ca, l) (by simp)).1
      have cA1 : w7.cell? ⟨w1.heap.size, 1, none⟩ = some (.slice aa l.length ca) := (S7.box (w1.heap.size, p, .slice aa l.length ca, l) (by simp)).2.1
      have zA : w1.heap.size < w7.heap.size := (S7.box (w1.heap.size, p, .slice aa l.length ca, l) (by simp)).2.2.2
      have cX0 : w7.cell? ⟨w5.heap.size, 0, none⟩ = some (.bool p) := (S7.box (w5.heap.size, p, .slice ax l.length cx, l) (by simp)).1
      have cX1 : w7.cell? ⟨w5.heap.size, 1, none⟩ = some (.slice ax l.length cx) := (S7.box (w5.heap.size, p, .slice ax l.length cx, l) (by simp)).2.1
      have zX : w5.heap.size < w7.heap.size := (S7.box (w5.heap.size, p, .slice ax l.length cx, l) (by simp)).2.2.2
      go_wp2_with fail
      refine (jtBig_same _ p _ _ l (S7.box (w5.heap.size, p, .slice ax l.length cx, l) (by simp)).2.2.1 (S7.box (w1.heap.size, p, .slice aa l.length ca, l) (by simp)).2.2.1).mono ?_
      rintro e w9 ⟨rfl, k1⟩
      have S9 := S7.later k1
      clear k1 S7 cA0 cA1 zA cX0 cX1 zX
      have cA0 : w9.cell? ⟨w1.heap.size, 0, none⟩ = some (.bool p) := (S9.box (w1.heap.size, p, .slice aa l.length ca, l) (by simp)).1
      have cA1 : w9.cell? ⟨w1.heap.size, 1, none⟩ = some (.slice aa l.length ca) := (S9.box (w1.heap.size, p, .slice aa l.length ca, l) (by simp)).2.1
      have zA : w1.heap.size < w9.heap.size := (S9.box (w1.heap.size, p, .slice aa l.length ca, l) (by simp)).2.2.2
      go_wp2_with fail
      refine (unhide CO _ _ (S9.box (w1.heap.size, p, .slice aa l.length ca, l) (by simp)).2.2.1).mono ?_
      rintro e w10 ⟨rfl, k2⟩
      have S11 := S9.later k2
      clear k2 S9
      go_wp2
      go_ret
      exact ⟨rfl, S11.below⟩
  · have hput : putR p l = ⟨#[]⟩ := by unfold putR; rw [if_neg hok]
    rw [hput] at CP CS ⊢
    have hok' : okB p l = false := by simpa using hok
    rw [hok'] at CO CK
    clear hok hok' hput CP
    go_wp2_with fail
    refine (unhide CS _ _ (S3.box (w1.heap.size, p, .slice aa l.length ca, l) (by simp)).2.2.1).mono ?_
    rintro e w4 ⟨rfl, b4⟩
    have S4 := S3.later b4
    clear b4 S3 cA0 cA1 zA
    have cA0 : w4.cell? ⟨w1.heap.size, 0, none⟩ = some (.bool p) := (S4.box (w1.heap.size, p, .slice aa l.length ca, l) (by simp)).1
    have cA1 : w4.cell? ⟨w1.heap.size, 1, none⟩ = some (.slice aa l.length ca) := (S4.box (w1.heap.size, p, .slice aa l.length ca, l) (by simp)).2.1
    have zA : w1.heap.size < w4.heap.size := (S4.box (w1.heap.size, p, .slice aa l.length ca, l) (by simp)).2.2.2
    have stab : ∀ w' : World, Below w4.heap.size w4 w' → (w'.cell? ⟨w1.heap.size, 0, none⟩ = some (.bool p) ∧ w'.cell? ⟨w1.heap.size, 1, none⟩ = some (.slice aa l.length ca)) := fun w' h => ⟨cell_later h cA0, cell_later h cA1⟩
    have Stab := hide stab
    have RA := hide (S4.box (w1.heap.size, p, .slice aa l.length ca, l) (by simp)).2.2.1
    clear stab
    go_wp2
    go_region_held (fun w' => w'.cell? ⟨w1.heap.size, 0, none⟩ = some (.bool p) ∧ w'.cell? ⟨w1.heap.size, 1, none⟩ = some (.slice aa l.length ca))
      (first | with_reducible exact unhide Stab _ (Below.refl _ _).drew | (refine unhide Stab _ ?_; assumption))
      (first
        | (go_at_call 7; refine (unhide CS _ _ ((unhide RA).later (Below.refl _ _).drew)).mono ?_; rintro e w5 ⟨rfl, b5⟩; have BW5 : Below w4.heap.size w4 w5 := (Below.refl _ _).drew.trans b5)
        | (go_at_call 8; refine (unhide CO _ _ ((unhide RA).later BW5)).mono ?_; rintro e w6 ⟨rfl, b6⟩; have BW6 : Below w4.heap.size w4 w6 := BW5.trans (b6.mono BW5.size))
        | (go_at_call 9; refine (unhide CK _ _ ((unhide RA).later BW6)).mono ?_; rintro e w7 ⟨rfl, b7⟩; have BW7 : Below w4.heap.size w4 w7 := BW6.trans (b7.mono BW6.size)))
    all_goals
      go_wp2
      go_ret
      exact ⟨rfl, S4.below.trans (BW7.mono S4.below.size)⟩

end Go.Proofs.YtomcgnkmlmiijaaDoor
