/- The law FnValuePut: its walk. -/
import Derived.Test.YtdklikicngmkbaaGreatDoorH12
import Derived.Test.YtdklikicngmkbaaGreatDoorG29
import Derived.Test.YtdklikicngmkbaaGreatDoorVgP
import Derived.Test.YtdklikicngmkbaaGreatDoorDrVb
import Derived.Test.YtdklikicngmkbaaGreatDoorH05
import Derived.Test.YtdklikicngmkbaaGreatDoorH00
import Derived.Deep.RegionHeld3
namespace Go.Proofs.YtdklikicngmkbaaGreatDoor
open Go.RowKit
set_option maxRecDepth 100000
set_option linter.unusedSimpArgs false
set_option linter.unusedVariables false

theorem some_ne {P : ByteArray} (h : 0 < P.size) : P.toList.isEmpty = false := by
  rw [empty_size, decide_eq_false_iff_not]; omega

set_option maxHeartbeats 8000000 in
theorem xValuePutP_walk (w : World) (u : Value) (hu : Byt w u) (tt : Tab w) (he : Er w) (mx : Mx w) :
    Calls Tryz.prog 3 #[u] w fun e w' => e = .returned (.bool true) ∧ Below w.heap.size w w' := by
  have C0 := hide (drawValuePut_any w u hu)
  obtain ⟨ao, N, cap, rfl, hn⟩ := byt_len hu
  clear hu
  by_cases hl : (1048576 : Int) < N
  · have t0 : decide ((1048576 : Int) < N) = true := by simpa using hl
    go_enter Tryz.func3, Tryz.ntmps3
    go_wp2
    go_ret
    exact ⟨rfl, Below.refl _ _⟩
  have t0 : decide ((1048576 : Int) < N) = false := by simpa using hl
  go_enter Tryz.func3, Tryz.ntmps3
  go_wp2_with fail
  refine (unhide C0).mono ?_
  rintro e w1 ⟨⟨k, y, n, l, sc, d, mo, da, t⟩, ag, cg, rfl, og, hl17, ht20, B1⟩
  simp only at og hl17 ht20
  have CP := hide (fun W (b : Below w.heap.size w W) (r : Reads W (.slice ag l.length cg) l) => implValuePut_any W k y n ag l cg sc d mo da t (by unfold maxLen; omega) r (tt.later b) (mx.later b))
  have CS := hide (fun W (r : Reads W (.slice ag l.length cg) l) => specValuePut_any W k y n ag l cg sc d mo da t (by unfold maxLen; omega) r)
  have CO := hide (fun W (b : Below w.heap.size w W) (r : Reads W (.slice ag l.length cg) l) => implValueOk_any W k y n ag l cg sc d mo da t (by unfold maxLen; omega) r (tt.later b))
  have CQ := hide (fun W (r : Reads W (.slice ag l.length cg) l) => specValueOk_any W k y n ag l cg sc d mo da t (by unfold maxLen; omega) r)
  have G1 := V9.new w1 (.int .i64 k) (.bool y) (.bool n) (.slice ag l.length cg) (.int .i64 sc) (.int .i64 d) (.int .i64 mo) (.int .i64 da) (.string t) 31
  have bA := (Below.refl w1.heap.size w1).alloc (Nat.le_refl _) (.cells #[.int .i64 k, .bool y, .bool n, .slice ag l.length cg, .int .i64 sc, .int .i64 d, .int .i64 mo, .int .i64 da, .string t] 31)
  have B1' := B1.trans (bA.mono B1.size)
  have r1 := hide (og.reads.later bA)
  have CJ := hide (fun W ag2 cg2 (r1 : Reads W (.slice ag2 l.length cg2) l) (r2 : Reads W (.slice ag l.length cg) l) => jtVal_same W k y n ag2 ag l cg2 cg sc d mo da t r1 r2)
  have CG := hide (fun W (b : Below w.heap.size w W) (hs : (valPutR k y n l sc d mo da t).size ≤ 2000000) => implValueGet_any W (valPutR k y n l sc d mo da t) hs (tt.later b) (he.later b) (mx.later b))
  clear C0 bA B1 og hl17 ht20
  obtain ⟨s, hs⟩ : ∃ s, s = valPutR k y n l sc d mo da t := ⟨_, rfl⟩
  simp only [← hs] at CP CS CG
  obtain ⟨a0, a1, a2, a3, a4, a5, a6, a7, a8, -, -, -, -, -, -, -, -, -, -⟩ := id G1
  have e1 : (s.toList == s.toList) = true := by simp
  have e2 : (s.toList != s.toList) = false := by simp
  have HS := hide hs
  clear hs
  go_wp2_with fail
  refine (unhide CP _ B1' (unhide r1)).mono ?_
  rintro e w2 ⟨rfl, b2⟩
  have G2 := G1.later b2
  have B2 := B1'.trans (b2.mono B1'.size)
  have r2 := hide ((unhide r1).later b2)
  clear a0 a1 a2 a3 a4 a5 a6 a7 a8 G1 B1' b2 r1 CP
  obtain ⟨a0, a1, a2, a3, a4, a5, a6, a7, a8, -, -, -, -, -, -, -, -, -, -⟩ := id G2
  go_wp2_with fail
  refine (unhide CS _ (unhide r2)).mono ?_
  rintro e w3 ⟨rfl, b3⟩
  have G3 := G2.later b3
  have B3 := B2.trans (b3.mono B2.size)
  have r3 := hide ((unhide r2).later b3)
  clear a0 a1 a2 a3 a4 a5 a6 a7 a8 G2 B2 b3 r2
  obtain ⟨a0, a1, a2, a3, a4, a5, a6, a7, a8, -, -, -, -, -, -, -, -, -, -⟩ := id G3
  cases hv : valB k y n l sc d mo da t
  · have es : s = ⟨#[]⟩ := by rw [unhide HS]; unfold valPutR; rw [hv, if_neg (by simp)]
    simp only [hv] at CO CQ
    clear HS CG CJ hv
    subst es
    have e0 : ((⟨#[]⟩ : ByteArray).toList == (⟨#[]⟩ : ByteArray).toList) = true := by simp
    have n0 : (⟨#[]⟩ : ByteArray).toList.isEmpty = true := by rw [empty_size]; rfl
    have Stab := hide (fun (w' : World) (h : Below w3.heap.size w3 w') => (⟨(G3.later h).c0, (G3.later h).c1, (G3.later h).c2, (G3.later h).c3, (G3.later h).c4, (G3.later h).c5, (G3.later h).c6, (G3.later h).c7, (G3.later h).c8⟩ : w'.cell? ⟨w1.heap.size, 0, none⟩ = some (.int .i64 k) ∧ w'.cell? ⟨w1.heap.size, 1, none⟩ = some (.bool y) ∧ w'.cell? ⟨w1.heap.size, 2, none⟩ = some (.bool n) ∧ w'.cell? ⟨w1.heap.size, 3, none⟩ = some (.slice ag l.length cg) ∧ w'.cell? ⟨w1.heap.size, 4, none⟩ = some (.int .i64 sc) ∧ w'.cell? ⟨w1.heap.size, 5, none⟩ = some (.int .i64 d) ∧ w'.cell? ⟨w1.heap.size, 6, none⟩ = some (.int .i64 mo) ∧ w'.cell? ⟨w1.heap.size, 7, none⟩ = some (.int .i64 da) ∧ w'.cell? ⟨w1.heap.size, 8, none⟩ = some (.string t)))
    have BW : Below w3.heap.size w3 w3.drew := (Below.refl _ _).drew
    go_wp2_with fail
    go_region_held3 (fun w' => w'.cell? ⟨w1.heap.size, 0, none⟩ = some (.int .i64 k) ∧ w'.cell? ⟨w1.heap.size, 1, none⟩ = some (.bool y) ∧ w'.cell? ⟨w1.heap.size, 2, none⟩ = some (.bool n) ∧ w'.cell? ⟨w1.heap.size, 3, none⟩ = some (.slice ag l.length cg) ∧ w'.cell? ⟨w1.heap.size, 4, none⟩ = some (.int .i64 sc) ∧ w'.cell? ⟨w1.heap.size, 5, none⟩ = some (.int .i64 d) ∧ w'.cell? ⟨w1.heap.size, 6, none⟩ = some (.int .i64 mo) ∧ w'.cell? ⟨w1.heap.size, 7, none⟩ = some (.int .i64 da) ∧ w'.cell? ⟨w1.heap.size, 8, none⟩ = some (.string t))
      (first | exact unhide Stab _ (Below.refl _ _).drew | (refine unhide Stab _ ?_; assumption))
      (first | (go_at_call 11; refine (unhide CS _ ((unhide r3).later BW)).mono ?_; rintro e w4 ⟨rfl, b4⟩; have BX : Below w3.heap.size w3 w4 := BW.trans b4) | (go_at_call 12; refine (unhide CO _ (B3.trans (BX.mono B3.size)) ((unhide r3).later BX)).mono ?_; rintro e w5 ⟨rfl, b5⟩; have BY : Below w3.heap.size w3 w5 := BX.trans (b5.mono BX.size)) | (go_at_call 13; refine (unhide CQ _ ((unhide r3).later BY)).mono ?_; rintro e w6 ⟨rfl, b6⟩; have BZ : Below w3.heap.size w3 w6 := BY.trans (b6.mono BY.size)))
    go_wp2
    go_ret
    exact ⟨rfl, B3.trans (BZ.mono B3.size)⟩
  · have hp : VT s ⟨k, y, n, l, sc, d, mo, da, t⟩ := ⟨hv, by rw [unhide HS]; unfold valPutR; rw [if_pos hv]⟩
    simp only [hv] at CO
    obtain ⟨z0, z1⟩ := vt_short hp
    have HP := hide hp
    have n0 : s.toList.isEmpty = false := some_ne z0
    have CG := hide (fun W b => unhide CG W b (by omega))
    clear HS hv hp z0 z1 CS CQ
    go_wp2_with fail
    refine (unhide CG _ B3).mono ?_
    rintro e w4 ⟨U, au, cu, ok, rfl, ou, b4, hc⟩
    obtain ⟨rfl, hu⟩ : ok = true ∧ VT s U := by
      rcases hc with h | ⟨-, -, h⟩
      · exact h
      · exact absurd (unhide HP) (h _)
    have eU := vt_one hu (unhide HP)
    subst eU
    clear hu hc CG HP
    simp only at ou
    have G4 := G3.later b4
    have B4 := B3.trans (b4.mono B3.size)
    have r4 := hide ((unhide r3).later b4)
    have U4 := V9.new w4 (.int .i64 k) (.bool y) (.bool n) (.slice au l.length cu) (.int .i64 sc) (.int .i64 d) (.int .i64 mo) (.int .i64 da) (.string t) 31
    have bA := (Below.refl w4.heap.size w4).alloc (Nat.le_refl _) (.cells #[.int .i64 k, .bool y, .bool n, .slice au l.length cu, .int .i64 sc, .int .i64 d, .int .i64 mo, .int .i64 da, .string t] 31)
    have G4 := G4.later bA
    have B4 := B4.trans (bA.mono B4.size)
    have r4 := hide ((unhide r4).later bA)
    have q4 := hide (ou.reads.later bA)
    clear a0 a1 a2 a3 a4 a5 a6 a7 a8 G3 B3 b4 r3 ou bA
    obtain ⟨a0, a1, a2, a3, a4, a5, a6, a7, a8, -, -, -, -, -, -, -, -, -, -⟩ := id G4
    obtain ⟨c0, c1, c2, c3, c4, c5, c6, c7, c8, -, -, -, -, -, -, -, -, -, -⟩ := id U4
    go_wp2_with fail
    refine (unhide CJ _ _ _ (unhide q4) (unhide r4)).mono ?_
    rintro e w5 ⟨rfl, b5⟩
    have G5 := G4.later b5
    have B5 := B4.trans (b5.mono B4.size)
    have r5 := hide ((unhide r4).later b5)
    clear a0 a1 a2 a3 a4 a5 a6 a7 a8 c0 c1 c2 c3 c4 c5 c6 c7 c8 G4 B4 b5 r4 q4 U4 CJ
    obtain ⟨a0, a1, a2, a3, a4, a5, a6, a7, a8, -, -, -, -, -, -, -, -, -, -⟩ := id G5
    go_wp2_with fail
    refine (unhide CO _ B5 (unhide r5)).mono ?_
    rintro e w6 ⟨rfl, b6⟩
    go_wp2
    go_ret
    exact ⟨rfl, B5.trans (b6.mono B5.size)⟩

end Go.Proofs.YtdklikicngmkbaaGreatDoor
