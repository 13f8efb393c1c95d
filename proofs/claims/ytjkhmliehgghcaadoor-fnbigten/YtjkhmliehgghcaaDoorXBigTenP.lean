/- The law FnBigTen: its walk. -/
import Derived.Test.YtjkhmliehgghcaaDoorTenT
import Derived.Test.YtjkhmliehgghcaaDoorDrTen
import Derived.Test.YtjkhmliehgghcaaDoorPSt
import Derived.Test.YtjkhmliehgghcaaDoorJt
namespace Go.Proofs.YtjkhmliehgghcaaDoor
open Go.RowKit
set_option linter.unusedSimpArgs false
set_option maxRecDepth 100000

theorem tenR_no {n : Int} (h : ¬ (0 ≤ n ∧ n ≤ 63)) : tenR n = (false, [], false) := by unfold tenR; rw [if_neg h]
theorem tenR_yes {n : Nat} (h : n ≤ 63) : tenR (n : Int) = (false, L (10 ^ n), true) := by unfold tenR; rw [if_pos ⟨by omega, by omega⟩, Int.toNat_natCast]
theorem tenR_neg (n : Int) : ∃ l b, tenR n = (false, l, b) := by unfold tenR; split <;> exact ⟨_, _, rfl⟩

set_option maxHeartbeats 4000000 in
theorem xBigTenP_walk (w : World) (u v : Value) (hu : Byt w u) (hv : Byt w v) (ht : Tab w) :
    Calls Tryd.prog 3 #[u, v] w fun e w' => e = .returned (.bool true) ∧ Below w.heap.size w w' := by
  have C0 := hide (drawTen_any w u hu)
  have C1 := hide (fun (W : World) (b : Below w.heap.size w W) => drawTen_any W v (hv.later b))
  obtain ⟨ao, N, cap, rfl, hn⟩ := byt_len hu
  obtain ⟨ao', N', cap', rfl, hn'⟩ := byt_len hv
  clear hu hv
  by_cases hl : (1048576 : Int) < N
  · have t0 : decide ((1048576 : Int) < N) = true := by simpa using hl
    go_enter Tryd.func3, Tryd.ntmps3
    go_wp2
    go_ret
    exact ⟨rfl, Below.refl _ _⟩
  have t0 : decide ((1048576 : Int) < N) = false := by simpa using hl
  by_cases hl' : (1048576 : Int) < N'
  · have t1 : decide ((1048576 : Int) < N') = true := by simpa using hl'
    go_enter Tryd.func3, Tryd.ntmps3
    go_wp2
    go_ret
    exact ⟨rfl, Below.refl _ _⟩
  have t1 : decide ((1048576 : Int) < N') = false := by simpa using hl'
  go_enter Tryd.func3, Tryd.ntmps3
  go_wp2_with fail
  refine (unhide C0).mono ?_
  rintro e w0 ⟨⟨n, rfl, n1, n2⟩, b0⟩
  go_wp2_with fail
  refine (unhide C1 _ b0).mono ?_
  rintro e w1 ⟨⟨k, rfl, k1, k2⟩, b1⟩
  have S1 := PS.start (b0.trans (b1.mono b0.size))
  clear b0 b1 C0 C1
  rcases Classical.em (0 ≤ n ∧ n ≤ 63) with hno | hno
  · obtain ⟨n, rfl⟩ : ∃ j : Nat, n = j := ⟨n.toNat, by omega⟩
    have hn63 : n ≤ 63 := by omega
    have CI := hide (fun (W : World) => implBigTen_any W (n : Int))
    have CS := hide (fun (W : World) => specBigTen_any W (n : Int))
    rw [tenR_yes hn63] at CI CS
    have CJ := hide (fun (W : World) (u v : Value) (hu : Reads W u (L (10 ^ n))) (hv : Reads W v (L (10 ^ n))) => jtBig_same W false u v (L (10 ^ n)) hu hv)
    have CK := hide (fun (W : World) => implBigTen_any W k)
    rcases Classical.em (0 ≤ k ∧ k ≤ 63) with hko | hko
    · obtain ⟨k, rfl⟩ : ∃ j : Nat, k = j := ⟨k.toNat, by omega⟩
      have hk63 : k ≤ 63 := by omega
      rw [tenR_yes hk63] at CK
      have CM := hide (fun (W : World) (u v : Value) (hu : Reads W u (L (10 ^ n))) (hv : Reads W v (L (10 ^ k))) => tenMul_any W u v n k hn63 hk63 hu hv)
      have CT := hide (fun (W : World) (z : Int) (hz : z = ((n + k : Nat) : Int)) => (by subst hz; exact implBigTen_any W _ : Calls Tryd.prog 10 #[.int .i64 z] W (GivesBig2 W (tenR ((n + k : Nat) : Int)))))
      have HS := hide (show (n : Int) + (k : Int) = ((n + k : Nat) : Int) by omega)
      have CP := hide (fun (W : World) (u : Value) (hu : Reads W u (L (10 ^ n))) (t : Tab W) => tenPut_any W u n hn63 hu t)
      obtain ⟨xl, xb, hx⟩ := tenR_neg ((n + k : Nat) : Int)
      rw [hx] at CM CT
      have CX := hide (fun (W : World) (u v : Value) (hu : Reads W u xl) (hv : Reads W v xl) => jtBig_same W false u v xl hu hv)
      have eb : (xb == xb) = true := by simp
      clear hx hno hko
      generalize hgn : L (10 ^ n) = ln at *
      generalize hgk : L (10 ^ k) = lk at *
      clear hgn hgk
      go_wp2_with fail
      refine (unhide CI _).mono ?_
      rintro e w2 ⟨a1, c1, rfl, o1, k1⟩
      have S2 := (S1.later k1).add false (.slice a1 (ln).length c1) (ln) o1.reads
      have R2 := S1.later k1
      simp only [List.nil_append, List.cons_append, World.size_alloc] at S2
      clear o1 k1
      go_wp2_with fail
      refine (unhide CK _).mono ?_
      rintro e w3 ⟨a2, c2, rfl, o2, k2⟩
      have S3 := (S2.later k2).add false (.slice a2 (lk).length c2) (lk) o2.reads
      have R3 := S2.later k2
      simp only [List.nil_append, List.cons_append, World.size_alloc] at S3
      clear o2 k2
      go_wp2_with fail
      refine (unhide CS _).mono ?_
      rintro e w4 ⟨a3, c3, rfl, o3, k3⟩
      have S4 := (S3.later k3).add false (.slice a3 (ln).length c3) (ln) o3.reads
      have R4 := S3.later k3
      simp only [List.nil_append, List.cons_append, World.size_alloc] at S4
      have cA0 : w4.cell? ⟨w2.heap.size, 0, none⟩ = some (.bool false) := (R4.box (w2.heap.size, false, .slice a1 (ln).length c1, ln) (by simp)).1
      have cA1 : w4.cell? ⟨w2.heap.size, 1, none⟩ = some (.slice a1 (ln).length c1) := (R4.box (w2.heap.size, false, .slice a1 (ln).length c1, ln) (by simp)).2.1
      have zA : w2.heap.size < w4.heap.size := (R4.box (w2.heap.size, false, .slice a1 (ln).length c1, ln) (by simp)).2.2.2
      clear o3 k3
      go_wp2_with fail
      refine (unhide CJ _ _ _ (S4.box (w2.heap.size, false, .slice a1 (ln).length c1, ln) (by simp)).2.2.1 (S4.box (w4.heap.size, false, .slice a3 (ln).length c3, ln) (by simp)).2.2.1).mono ?_
      rintro e w5 ⟨rfl, k4⟩
      have S5 := S4.later k4
      clear cA0 cA1 zA
      have cA0 : w5.cell? ⟨w2.heap.size, 0, none⟩ = some (.bool false) := (S5.box (w2.heap.size, false, .slice a1 (ln).length c1, ln) (by simp)).1
      have cA1 : w5.cell? ⟨w2.heap.size, 1, none⟩ = some (.slice a1 (ln).length c1) := (S5.box (w2.heap.size, false, .slice a1 (ln).length c1, ln) (by simp)).2.1
      have zA : w2.heap.size < w5.heap.size := (S5.box (w2.heap.size, false, .slice a1 (ln).length c1, ln) (by simp)).2.2.2
      have cB0 : w5.cell? ⟨w3.heap.size, 0, none⟩ = some (.bool false) := (S5.box (w3.heap.size, false, .slice a2 (lk).length c2, lk) (by simp)).1
      have cB1 : w5.cell? ⟨w3.heap.size, 1, none⟩ = some (.slice a2 (lk).length c2) := (S5.box (w3.heap.size, false, .slice a2 (lk).length c2, lk) (by simp)).2.1
      have zB : w3.heap.size < w5.heap.size := (S5.box (w3.heap.size, false, .slice a2 (lk).length c2, lk) (by simp)).2.2.2
      clear k4
      go_wp2_with fail
      refine (unhide CM _ _ _ (S5.box (w2.heap.size, false, .slice a1 (ln).length c1, ln) (by simp)).2.2.1 (S5.box (w3.heap.size, false, .slice a2 (lk).length c2, lk) (by simp)).2.2.1).mono ?_
      rintro e w6 ⟨a5, c5, rfl, o5, k5⟩
      have S6 := (S5.later k5).add false (.slice a5 (xl).length c5) (xl) o5.reads
      have R6 := S5.later k5
      simp only [List.nil_append, List.cons_append, World.size_alloc] at S6
      clear cA0 cA1 zA cB0 cB1 zB
      clear o5 k5
      go_wp2_with fail
      refine (unhide CT _ _ (unhide HS)).mono ?_
      rintro e w7 ⟨a6, c6, rfl, o6, k6⟩
      have S7 := (S6.later k6).add false (.slice a6 (xl).length c6) (xl) o6.reads
      have R7 := S6.later k6
      simp only [List.nil_append, List.cons_append, World.size_alloc] at S7
      have cX0 : w7.cell? ⟨w6.heap.size, 0, none⟩ = some (.bool false) := (R7.box (w6.heap.size, false, .slice a5 (xl).length c5, xl) (by simp)).1
      have cX1 : w7.cell? ⟨w6.heap.size, 1, none⟩ = some (.slice a5 (xl).length c5) := (R7.box (w6.heap.size, false, .slice a5 (xl).length c5, xl) (by simp)).2.1
      have zX : w6.heap.size < w7.heap.size := (R7.box (w6.heap.size, false, .slice a5 (xl).length c5, xl) (by simp)).2.2.2
      clear o6 k6
      go_wp2_with fail
      refine (unhide CX _ _ _ (S7.box (w6.heap.size, false, .slice a5 (xl).length c5, xl) (by simp)).2.2.1 (S7.box (w7.heap.size, false, .slice a6 (xl).length c6, xl) (by simp)).2.2.1).mono ?_
      rintro e w8 ⟨rfl, k7⟩
      have S8 := S7.later k7
      clear cX0 cX1 zX
      have cA0 : w8.cell? ⟨w2.heap.size, 0, none⟩ = some (.bool false) := (S8.box (w2.heap.size, false, .slice a1 (ln).length c1, ln) (by simp)).1
      have cA1 : w8.cell? ⟨w2.heap.size, 1, none⟩ = some (.slice a1 (ln).length c1) := (S8.box (w2.heap.size, false, .slice a1 (ln).length c1, ln) (by simp)).2.1
      have zA : w2.heap.size < w8.heap.size := (S8.box (w2.heap.size, false, .slice a1 (ln).length c1, ln) (by simp)).2.2.2
      clear k7
      go_wp2_with fail
      refine (unhide CP _ _ (S8.box (w2.heap.size, false, .slice a1 (ln).length c1, ln) (by simp)).2.2.1 (ht.later S8.below)).mono ?_
      rintro e w9 ⟨⟨t, rfl, hts⟩, k9⟩
      have S9 := S8.later k9
      have et : ((t.size : Int) == (n : Int) + 1) = true := by rw [beq_iff_eq]; omega
      have tz : t.size ≤ 64 := by omega
      have HT := hide hts
      clear k9 hts
      go_wp2
      go_ret
      exact ⟨by simp [et], S9.below⟩
    · rw [tenR_no hko] at CK
      generalize hgn : L (10 ^ n) = ln at *
      clear hgn hno hko
      go_wp2_with fail
      refine (unhide CI _).mono ?_
      rintro e w2 ⟨a1, c1, rfl, o1, k1⟩
      have S2 := (S1.later k1).add false (.slice a1 (ln).length c1) (ln) o1.reads
      have R2 := S1.later k1
      simp only [List.nil_append, List.cons_append, World.size_alloc] at S2
      clear o1 k1
      go_wp2_with fail
      refine (unhide CK _).mono ?_
      rintro e w3 ⟨a2, c2, rfl, o2, k2⟩
      have S3 := (S2.later k2).add false (.slice a2 (([] : List Int)).length c2) (([] : List Int)) o2.reads
      have R3 := S2.later k2
      simp only [List.nil_append, List.cons_append, World.size_alloc] at S3
      clear o2 k2
      go_wp2_with fail
      refine (unhide CS _).mono ?_
      rintro e w4 ⟨a3, c3, rfl, o3, k3⟩
      have S4 := (S3.later k3).add false (.slice a3 (ln).length c3) (ln) o3.reads
      have R4 := S3.later k3
      simp only [List.nil_append, List.cons_append, World.size_alloc] at S4
      have cA0 : w4.cell? ⟨w2.heap.size, 0, none⟩ = some (.bool false) := (R4.box (w2.heap.size, false, .slice a1 (ln).length c1, ln) (by simp)).1
      have cA1 : w4.cell? ⟨w2.heap.size, 1, none⟩ = some (.slice a1 (ln).length c1) := (R4.box (w2.heap.size, false, .slice a1 (ln).length c1, ln) (by simp)).2.1
      have zA : w2.heap.size < w4.heap.size := (R4.box (w2.heap.size, false, .slice a1 (ln).length c1, ln) (by simp)).2.2.2
      clear o3 k3
      go_wp2_with fail
      refine (unhide CJ _ _ _ (S4.box (w2.heap.size, false, .slice a1 (ln).length c1, ln) (by simp)).2.2.1 (S4.box (w4.heap.size, false, .slice a3 (ln).length c3, ln) (by simp)).2.2.1).mono ?_
      rintro e w5 ⟨rfl, k4⟩
      have S5 := S4.later k4
      clear cA0 cA1 zA
      have cA0 : w5.cell? ⟨w2.heap.size, 0, none⟩ = some (.bool false) := (S5.box (w2.heap.size, false, .slice a1 (ln).length c1, ln) (by simp)).1
      have cA1 : w5.cell? ⟨w2.heap.size, 1, none⟩ = some (.slice a1 (ln).length c1) := (S5.box (w2.heap.size, false, .slice a1 (ln).length c1, ln) (by simp)).2.1
      have zA : w2.heap.size < w5.heap.size := (S5.box (w2.heap.size, false, .slice a1 (ln).length c1, ln) (by simp)).2.2.2
      have cY0 : w5.cell? ⟨w4.heap.size, 0, none⟩ = some (.bool false) := (S5.box (w4.heap.size, false, .slice a3 (ln).length c3, ln) (by simp)).1
      have cY1 : w5.cell? ⟨w4.heap.size, 1, none⟩ = some (.slice a3 (ln).length c3) := (S5.box (w4.heap.size, false, .slice a3 (ln).length c3, ln) (by simp)).2.1
      have zY : w4.heap.size < w5.heap.size := (S5.box (w4.heap.size, false, .slice a3 (ln).length c3, ln) (by simp)).2.2.2
      clear k4
      go_wp2_with fail
      refine (unhide CJ _ _ _ (S5.box (w2.heap.size, false, .slice a1 (ln).length c1, ln) (by simp)).2.2.1 (S5.box (w4.heap.size, false, .slice a3 (ln).length c3, ln) (by simp)).2.2.1).mono ?_
      rintro e w6 ⟨rfl, k5⟩
      have S6 := S5.later k5
      clear cA0 cA1 zA cY0 cY1 zY
      clear k5
      go_wp2
      go_ret
      exact ⟨rfl, S6.below⟩
  · have CI := hide (fun (W : World) => implBigTen_any W n)
    have CS := hide (fun (W : World) => specBigTen_any W n)
    rw [tenR_no hno] at CI CS
    have CJ := hide (fun (W : World) (u v : Value) (hu : Reads W u ([] : List Int)) (hv : Reads W v ([] : List Int)) => jtBig_same W false u v [] hu hv)
    have CK := hide (fun (W : World) => implBigTen_any W k)
    obtain ⟨xl, xb, hx⟩ := tenR_neg k
    rw [hx] at CK
    clear hx hno
    go_wp2_with fail
    refine (unhide CI _).mono ?_
    rintro e w2 ⟨a1, c1, rfl, o1, k1⟩
    have S2 := (S1.later k1).add false (.slice a1 (([] : List Int)).length c1) (([] : List Int)) o1.reads
    have R2 := S1.later k1
    simp only [List.nil_append, List.cons_append, World.size_alloc] at S2
    clear o1 k1
    go_wp2_with fail
    refine (unhide CK _).mono ?_
    rintro e w3 ⟨a2, c2, rfl, o2, k2⟩
    have S3 := (S2.later k2).add false (.slice a2 (xl).length c2) (xl) o2.reads
    have R3 := S2.later k2
    simp only [List.nil_append, List.cons_append, World.size_alloc] at S3
    clear o2 k2
    go_wp2_with fail
    refine (unhide CS _).mono ?_
    rintro e w4 ⟨a3, c3, rfl, o3, k3⟩
    have S4 := (S3.later k3).add false (.slice a3 (([] : List Int)).length c3) (([] : List Int)) o3.reads
    have R4 := S3.later k3
    simp only [List.nil_append, List.cons_append, World.size_alloc] at S4
    have cA0 : w4.cell? ⟨w2.heap.size, 0, none⟩ = some (.bool false) := (R4.box (w2.heap.size, false, .slice a1 (([] : List Int)).length c1, ([] : List Int)) (by simp)).1
    have cA1 : w4.cell? ⟨w2.heap.size, 1, none⟩ = some (.slice a1 (([] : List Int)).length c1) := (R4.box (w2.heap.size, false, .slice a1 (([] : List Int)).length c1, ([] : List Int)) (by simp)).2.1
    have zA : w2.heap.size < w4.heap.size := (R4.box (w2.heap.size, false, .slice a1 (([] : List Int)).length c1, ([] : List Int)) (by simp)).2.2.2
    clear o3 k3
    go_wp2_with fail
    refine (unhide CJ _ _ _ (S4.box (w2.heap.size, false, .slice a1 (([] : List Int)).length c1, ([] : List Int)) (by simp)).2.2.1 (S4.box (w4.heap.size, false, .slice a3 (([] : List Int)).length c3, ([] : List Int)) (by simp)).2.2.1).mono ?_
    rintro e w5 ⟨rfl, k4⟩
    have S5 := S4.later k4
    clear cA0 cA1 zA
    have cA0 : w5.cell? ⟨w2.heap.size, 0, none⟩ = some (.bool false) := (S5.box (w2.heap.size, false, .slice a1 (([] : List Int)).length c1, ([] : List Int)) (by simp)).1
    have cA1 : w5.cell? ⟨w2.heap.size, 1, none⟩ = some (.slice a1 (([] : List Int)).length c1) := (S5.box (w2.heap.size, false, .slice a1 (([] : List Int)).length c1, ([] : List Int)) (by simp)).2.1
    have zA : w2.heap.size < w5.heap.size := (S5.box (w2.heap.size, false, .slice a1 (([] : List Int)).length c1, ([] : List Int)) (by simp)).2.2.2
    have cY0 : w5.cell? ⟨w4.heap.size, 0, none⟩ = some (.bool false) := (S5.box (w4.heap.size, false, .slice a3 (([] : List Int)).length c3, ([] : List Int)) (by simp)).1
    have cY1 : w5.cell? ⟨w4.heap.size, 1, none⟩ = some (.slice a3 (([] : List Int)).length c3) := (S5.box (w4.heap.size, false, .slice a3 (([] : List Int)).length c3, ([] : List Int)) (by simp)).2.1
    have zY : w4.heap.size < w5.heap.size := (S5.box (w4.heap.size, false, .slice a3 (([] : List Int)).length c3, ([] : List Int)) (by simp)).2.2.2
    clear k4
    go_wp2_with fail
    refine (unhide CJ _ _ _ (S5.box (w2.heap.size, false, .slice a1 (([] : List Int)).length c1, ([] : List Int)) (by simp)).2.2.1 (S5.box (w4.heap.size, false, .slice a3 (([] : List Int)).length c3, ([] : List Int)) (by simp)).2.2.1).mono ?_
    rintro e w6 ⟨rfl, k5⟩
    have S6 := S5.later k5
    clear cA0 cA1 zA cY0 cY1 zY
    clear k5
    go_wp2
    go_ret
    exact ⟨rfl, S6.below⟩

end Go.Proofs.YtjkhmliehgghcaaDoor
