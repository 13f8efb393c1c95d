/- The law FnDecGet: its walk. -/
import Derived.Test.YthcmkeegfhgliaaDoorPgV
import Derived.Test.YthcmkeegfhgliaaDoorDrDg
import Derived.Test.YthcmkeegfhgliaaDoorDgC
import Derived.Test.YthcmkeegfhgliaaDoorGs
namespace Go.Proofs.YthcmkeegfhgliaaDoor
open Go.RowKit
set_option maxRecDepth 100000

theorem jtDec_same (w : World) (p : Bool) (u v : Value) (l : List Int) (s : Int) (hu : Reads w u l) (hv : Reads w v l) :
    Calls Tryd.prog 9 #[.agg #[.bool p, u, .int .i64 s], .agg #[.bool p, v, .int .i64 s]] w fun e w' => e = .returned (.bool true) ∧ Below w.heap.size w w' := by
  have h := fun o o' => jtBig_same ((w.alloc o).alloc o') p u v l ((hu.alloc _).alloc _) ((hv.alloc _).alloc _)
  have H := hide h
  clear h
  have e0 : (s == s) = true := by simp
  go_enter Tryd.func9, Tryd.ntmps9
  go_wp2_with fail
  refine (unhide H _ _).mono ?_
  rintro e w1 ⟨rfl, hb⟩
  go_wp2
  go_ret
  exact ⟨rfl, (((Below.refl _ _).alloc (Nat.le_refl _) _).alloc (by simp) _).trans (hb.mono (by simp; omega))⟩

set_option maxHeartbeats 4000000 in
theorem xDecGetP_walk (w : World) (u : Value) (hu : Byt w u) (tt : Tab w) :
    Calls Tryd.prog 4 #[u] w fun e w' => e = .returned (.bool true) ∧ Below w.heap.size w w' := by
  have C0 := hide (drawDecGet_any w u hu)
  obtain ⟨ao, N, cap, rfl, hn⟩ := byt_len hu
  clear hu
  by_cases hl : (1048576 : Int) < N
  · have t0 : decide ((1048576 : Int) < N) = true := by simpa using hl
    go_enter Tryd.func4, Tryd.ntmps4
    go_wp2
    go_ret
    exact ⟨rfl, Below.refl _ _⟩
  have t0 : decide ((1048576 : Int) < N) = false := by simpa using hl
  go_enter Tryd.func4, Tryd.ntmps4
  go_wp2_with fail
  refine (unhide C0).mono ?_
  rintro e w1 ⟨s, rfl, hs, b1⟩
  obtain ⟨d, hd⟩ := dot_is (restB s)
  have hsm : s.size ≤ maxLen := by unfold maxLen; omega
  have CI := hide (fun W (k : Below w.heap.size w W) => implDecGet_any W s d hd hsm (tt.later k))
  have CS := hide (fun W => specDecGet_any W s d hd hsm)
  have HG := hide (fun h => dget_put (s := s) (d := d) hd h)
  generalize dgetR (negB s) ((restB s).extract 0 d) (partOf (restB s) d) (decide (d < (restB s).size)) = O at *
  obtain ⟨og, ol, os, ok⟩ := O
  simp only at HG
  have S1 : Stt w w1 [] [] := ⟨b1, by simp, by simp⟩
  clear C0 b1 hd hsm
  go_wp2_with fail
  refine (unhide CI _ S1.below).mono ?_
  rintro e w2 ⟨ag, cg, rfl, o2, k2⟩
  have S2 := (S1.own k2 o2).box3 (.bool og) (.slice ag ol.length cg) (.int .i64 os) 27
  simp only [List.nil_append] at S2
  clear k2 o2
  go_wp2_with fail
  refine (unhide CS _).mono ?_
  rintro e w3 ⟨aw, cw, rfl, o3, k3⟩
  have S3a := S2.own k3 o3
  simp only [List.cons_append, List.nil_append, World.size_alloc] at S3a
  have S3 := S3a.box3 (.bool og) (.slice aw ol.length cw) (.int .i64 os) 27
  simp only [List.cons_append, List.nil_append] at S3
  have cA0 : w3.cell? ⟨w2.heap.size, 0, none⟩ = some (.bool og) := S3a.cells (w2.heap.size, 0, .bool og) (by simp)
  have cA1 : w3.cell? ⟨w2.heap.size, 1, none⟩ = some (.slice ag ol.length cg) := S3a.cells (w2.heap.size, 1, .slice ag ol.length cg) (by simp)
  have cA2 : w3.cell? ⟨w2.heap.size, 2, none⟩ = some (.int .i64 os) := S3a.cells (w2.heap.size, 2, .int .i64 os) (by simp)
  have zA : w2.heap.size < w3.heap.size := S3a.blk (c := (w2.heap.size, 0, .bool og)) (by simp)
  clear k3 o3 S1 S2 S3a
  have hoo : (ok != ok) = false := by cases ok <;> rfl
  have hoo' : (ok == ok) = true := by cases ok <;> rfl
  have RG : ∀ W, Below (w3.alloc (.cells #[.bool og, .slice aw ol.length cw, .int .i64 os] 27)).heap.size (w3.alloc (.cells #[.bool og, .slice aw ol.length cw, .int .i64 os] 27)) W → Reads W (.slice ag ol.length cg) ol := fun W h => ((S3.later h).owns (w1.heap.size, w2.heap.size, .slice ag ol.length cg, ol) (by simp)).1.reads
  have RW : ∀ W, Below (w3.alloc (.cells #[.bool og, .slice aw ol.length cw, .int .i64 os] 27)).heap.size (w3.alloc (.cells #[.bool og, .slice aw ol.length cw, .int .i64 os] 27)) W → Reads W (.slice aw ol.length cw) ol := fun W h => ((S3.later h).owns (w2.heap.size + 1, w3.heap.size, .slice aw ol.length cw, ol) (by simp)).1.reads
  have HRG := hide RG
  have HRW := hide RW
  clear RG RW
  go_wp2_with fail
  refine (jtDec_same _ og _ _ ol os (unhide HRG _ (Below.refl _ _)) (unhide HRW _ (Below.refl _ _))).mono ?_
  rintro e w4 ⟨rfl, k4⟩
  have S4 := S3.later k4
  have HK4 := hide k4
  clear k4 S3 cA0 cA1 cA2 zA
  have cA0 : w4.cell? ⟨w2.heap.size, 0, none⟩ = some (.bool og) := S4.cells (w2.heap.size, 0, .bool og) (by simp)
  have cA1 : w4.cell? ⟨w2.heap.size, 1, none⟩ = some (.slice ag ol.length cg) := S4.cells (w2.heap.size, 1, .slice ag ol.length cg) (by simp)
  have cA2 : w4.cell? ⟨w2.heap.size, 2, none⟩ = some (.int .i64 os) := S4.cells (w2.heap.size, 2, .int .i64 os) (by simp)
  have zA : w2.heap.size < w4.heap.size := S4.blk (c := (w2.heap.size, 0, .bool og)) (by simp)
  have cB0 : w4.cell? ⟨w3.heap.size, 0, none⟩ = some (.bool og) := S4.cells (w3.heap.size, 0, .bool og) (by simp)
  have cB1 : w4.cell? ⟨w3.heap.size, 1, none⟩ = some (.slice aw ol.length cw) := S4.cells (w3.heap.size, 1, .slice aw ol.length cw) (by simp)
  have cB2 : w4.cell? ⟨w3.heap.size, 2, none⟩ = some (.int .i64 os) := S4.cells (w3.heap.size, 2, .int .i64 os) (by simp)
  have zB : w3.heap.size < w4.heap.size := S4.blk (c := (w3.heap.size, 0, .bool og)) (by simp)
  cases ok with
  | false =>
    go_wp2_with fail
    refine (jtDec_same _ og _ _ ol os (unhide HRG _ (unhide HK4)) (unhide HRW _ (unhide HK4))).mono ?_
    rintro e w5 ⟨rfl, k5⟩
    have S5 := S4.later k5
    clear k5 S4
    go_wp2
    go_ret
    exact ⟨rfl, S5.below⟩
  | true =>
    obtain ⟨hput, hok⟩ := unhide HG rfl
    have CP := hide (fun W v (hr : Reads W v ol) (k : Below w.heap.size w W) => implDecPut_any W og v ol os hr (tt.later k))
    have CO := hide (fun W v (hr : Reads W v ol) (k : Below w.heap.size w W) => implDecOk_any W og v ol os hr (tt.later k))
    rw [hput] at CP
    rw [hok] at CO
    clear hput hok HG cB0 cB1 cB2 zB
    have hss : (s.toList == s.toList) = true := by simp
    go_wp2_with fail
    refine (unhide CP _ _ (unhide HRG _ (unhide HK4)) S4.below).mono ?_
    rintro e w5 ⟨rfl, k5⟩
    have S5 := S4.later k5
    clear cA0 cA1 cA2 zA
    have cA0 : w5.cell? ⟨w2.heap.size, 0, none⟩ = some (.bool og) := S5.cells (w2.heap.size, 0, .bool og) (by simp)
    have cA1 : w5.cell? ⟨w2.heap.size, 1, none⟩ = some (.slice ag ol.length cg) := S5.cells (w2.heap.size, 1, .slice ag ol.length cg) (by simp)
    have cA2 : w5.cell? ⟨w2.heap.size, 2, none⟩ = some (.int .i64 os) := S5.cells (w2.heap.size, 2, .int .i64 os) (by simp)
    have zA : w2.heap.size < w5.heap.size := S5.blk (c := (w2.heap.size, 0, .bool og)) (by simp)
    have RG5 := hide ((unhide HRG _ (unhide HK4)).later k5)
    clear k5 S4
    go_wp2_with fail
    refine (unhide CO _ _ (unhide RG5) S5.below).mono ?_
    rintro e w6 ⟨rfl, k6⟩
    have S6 := S5.later k6
    clear k6 S5
    go_wp2
    go_ret
    exact ⟨rfl, S6.below⟩

end Go.Proofs.YthcmkeegfhgliaaDoor
