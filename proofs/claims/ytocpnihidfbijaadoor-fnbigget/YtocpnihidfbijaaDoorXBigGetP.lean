/- The law FnBigGet: its walk. -/
import Derived.Test.YtocpnihidfbijaaDoorPgM
import Derived.Test.YtocpnihidfbijaaDoorDrGe2
import Derived.Test.YtocpnihidfbijaaDoorPSt0
import Derived.Test.YtocpnihidfbijaaDoorJt0
import Derived.Test.YtocpnihidfbijaaDoorByt1
namespace Go.Proofs.YtocpnihidfbijaaDoor
open Go.RowKit
set_option maxRecDepth 100000

theorem ok_L {z : Int} (h : (L z.natAbs).length ≤ 16) : OkBig (sg z) (L z.natAbs) := by
  refine ⟨h, L_lim _, fun e => ?_, ?_⟩
  · have := L_nil.1 e
    unfold sg
    rw [decide_eq_false_iff_not]
    omega
  · exact L_last _

theorem getR_put {s : ByteArray} (h : (getR s).2.2 = true) : putR (getR s).1 (getR s).2.1 = s ∧ okB (getR s).1 (getR s).2.1 = true := by
  cases hk : getOk s with
  | false =>
    rw [getR_no hk] at h
    cases h
  | true =>
    have hl : (L (getZ s).natAbs).length ≤ 16 := by rw [getZ_abs]; exact L_len_le (get_num hk)
    rw [getR_yes hk]
    have ho := okB_true (ok_L hl)
    exact ⟨by unfold putR; rw [if_pos ho]; exact put_get hk, ho⟩

set_option maxHeartbeats 4000000 in
theorem xBigGetP_walk (w : World) (u : Value) (hu : Byt w u) (ht : Tab w) :
    Calls Tryd.prog 4 #[u] w fun e w' => e = .returned (.bool true) ∧ Below w.heap.size w w' := by
  have C0 := hide (drawBigGet_any w u hu)
  obtain ⟨ao, N, cap, rfl, hn⟩ := byt_len hu
  clear hu
  by_cases hl : (1048576 : Int) < N
  · have t0 : decide ((1048576 : Int) < N) = true := by simpa using hl
    go_enter Tryd.func4, Tryd.ntmps4
    go_wp2
    go_ret
    exact ⟨rfl, Below.refl _ _⟩
  have t0 : decide ((1048576 : Int) < N) = false := by simpa using hl
  go_enter Tryd.func4, Tryd.ntmps4
  go_wp2_with fail
  refine (unhide C0).mono ?_
  rintro e w1 ⟨s, rfl, hs, b1⟩
  have CI := hide (fun W => implBigGet_any W s (by unfold maxLen; omega))
  have CS := hide (fun W => specBigGet_any W s (by unfold maxLen; omega))
  have HG := hide (fun h => getR_put (s := s) h)
  generalize getR s = O at *
  obtain ⟨og, ol, ok⟩ := O
  simp only at HG
  have S1 := PS.start b1
  clear C0 b1
  go_wp2_with fail
  refine (unhide CI _).mono ?_
  rintro e w2 ⟨ag, cg, rfl, o2, k2⟩
  have S2 := (S1.later k2).add og (.slice ag ol.length cg) ol o2.reads
  simp only [List.nil_append] at S2
  clear k2 o2 S1
  go_wp2_with fail
  refine (unhide CS _).mono ?_
  rintro e w3 ⟨aw, cw, rfl, o3, k3⟩
  have S3 := (S2.later k3).add og (.slice aw ol.length cw) ol o3.reads
  simp only [List.cons_append, List.nil_append] at S3
  have S3a := S2.later k3
  have cA0 : w3.cell? ⟨w2.heap.size, 0, none⟩ = some (.bool og) := (S3a.box (w2.heap.size, og, .slice ag ol.length cg, ol) (by simp)).1
  have cA1 : w3.cell? ⟨w2.heap.size, 1, none⟩ = some (.slice ag ol.length cg) := (S3a.box (w2.heap.size, og, .slice ag ol.length cg, ol) (by simp)).2.1
  have zA : w2.heap.size < w3.heap.size := (S3a.box (w2.heap.size, og, .slice ag ol.length cg, ol) (by simp)).2.2.2
  clear k3 o3 S2 S3a
  have hoo : (ok != ok) = false := by cases ok <;> rfl
  have hoo' : (ok == ok) = true := by cases ok <;> rfl
  go_wp2_with fail
  refine (jtBig_same _ og _ _ ol (S3.box (w2.heap.size, og, .slice ag ol.length cg, ol) (by simp)).2.2.1 (S3.box (w3.heap.size, og, .slice aw ol.length cw, ol) (by simp)).2.2.1).mono ?_
  rintro e w4 ⟨rfl, k4⟩
  have S4 := S3.later k4
  clear k4 S3 cA0 cA1 zA
  have cA0 : w4.cell? ⟨w2.heap.size, 0, none⟩ = some (.bool og) := (S4.box (w2.heap.size, og, .slice ag ol.length cg, ol) (by simp)).1
  have cA1 : w4.cell? ⟨w2.heap.size, 1, none⟩ = some (.slice ag ol.length cg) := (S4.box (w2.heap.size, og, .slice ag ol.length cg, ol) (by simp)).2.1
  have zA : w2.heap.size < w4.heap.size := (S4.box (w2.heap.size, og, .slice ag ol.length cg, ol) (by simp)).2.2.2
  have cB0 : w4.cell? ⟨w3.heap.size, 0, none⟩ = some (.bool og) := (S4.box (w3.heap.size, og, .slice aw ol.length cw, ol) (by simp)).1
  have cB1 : w4.cell? ⟨w3.heap.size, 1, none⟩ = some (.slice aw ol.length cw) := (S4.box (w3.heap.size, og, .slice aw ol.length cw, ol) (by simp)).2.1
  have zB : w3.heap.size < w4.heap.size := (S4.box (w3.heap.size, og, .slice aw ol.length cw, ol) (by simp)).2.2.2
  cases ok with
  | false =>
    go_wp2_with fail
    refine (jtBig_same _ og _ _ ol (S4.box (w2.heap.size, og, .slice ag ol.length cg, ol) (by simp)).2.2.1 (S4.box (w3.heap.size, og, .slice aw ol.length cw, ol) (by simp)).2.2.1).mono ?_
    rintro e w5 ⟨rfl, k5⟩
    have S5 := S4.later k5
    clear k5 S4
    go_wp2
    go_ret
    exact ⟨rfl, S5.below⟩
  | true =>
    obtain ⟨hput, hok⟩ := unhide HG rfl
    have CP := hide (fun W v (hr : Reads W v ol) (k : Below w.heap.size w W) => implBigPut_any W og v ol hr (ht.later k))
    have CO := hide (fun W v (hr : Reads W v ol) => implBigOk_any W og v ol hr)
    rw [hput] at CP
    rw [hok] at CO
    clear hput hok HG cB0 cB1 zB
    have hss : (s.toList == s.toList) = true := by simp
    go_wp2_with fail
    refine (unhide CP _ _ (S4.box (w2.heap.size, og, .slice ag ol.length cg, ol) (by simp)).2.2.1 S4.below).mono ?_
    rintro e w5 ⟨rfl, k5⟩
    have S5 := S4.later k5
    clear k5 S4 cA0 cA1 zA
    have cA0 : w5.cell? ⟨w2.heap.size, 0, none⟩ = some (.bool og) := (S5.box (w2.heap.size, og, .slice ag ol.length cg, ol) (by simp)).1
    have cA1 : w5.cell? ⟨w2.heap.size, 1, none⟩ = some (.slice ag ol.length cg) := (S5.box (w2.heap.size, og, .slice ag ol.length cg, ol) (by simp)).2.1
    have zA : w2.heap.size < w5.heap.size := (S5.box (w2.heap.size, og, .slice ag ol.length cg, ol) (by simp)).2.2.2
    go_wp2_with fail
    refine (unhide CO _ _ (S5.box (w2.heap.size, og, .slice ag ol.length cg, ol) (by simp)).2.2.1).mono ?_
    rintro e w6 ⟨rfl, k6⟩
    have S6 := S5.later k6
    clear k6 S5
    go_wp2
    go_ret
    exact ⟨rfl, S6.below⟩

end Go.Proofs.YtocpnihidfbijaaDoor
