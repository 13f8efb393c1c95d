/- The law FnValueGet: its walk. -/
import Derived.Test.YtdklikicngmkbaaGreatDoorH12
import Derived.Test.YtdklikicngmkbaaGreatDoorG29
import Derived.Test.YtdklikicngmkbaaGreatDoorH07
import Derived.Test.YtdklikicngmkbaaGreatDoorH05
import Derived.Test.YtdklikicngmkbaaGreatDoorH00
import Derived.Deep.RegionHeld3
namespace Go.Proofs.YtdklikicngmkbaaGreatDoor
open Go.RowKit
set_option maxRecDepth 100000
set_option linter.unusedSimpArgs false
set_option linter.unusedVariables false

set_option maxHeartbeats 8000000 in
theorem xValueGetP_walk (w : World) (u : Value) (hu : Byt w u) (tt : Tab w) (he : Er w) (mx : Mx w) :
    Calls Tryz.prog 4 #[u] w fun e w' => e = .returned (.bool true) ∧ Below w.heap.size w w' := by
  have C0 := hide (drawValueGet_any w u hu)
  obtain ⟨ao, N, cap, rfl, hn⟩ := byt_len hu
  clear hu
  by_cases hl : (1048576 : Int) < N
  · have t0 : decide ((1048576 : Int) < N) = true := by simpa using hl
    go_enter Tryz.func4, Tryz.ntmps4
    go_wp2
    go_ret
    exact ⟨rfl, Below.refl _ _⟩
  have t0 : decide ((1048576 : Int) < N) = false := by simpa using hl
  go_enter Tryz.func4, Tryz.ntmps4
  go_wp2_with fail
  refine (unhide C0).mono ?_
  rintro e w1 ⟨s, rfl, hs, B1⟩
  have hz : s.size ≤ 2000000 := by omega
  have CS := hide (fun W => specValueGet_any W s hz)
  have CI := hide (fun W (b : Below w.heap.size w W) => implValueGet_any W s hz (tt.later b) (he.later b) (mx.later b))
  clear C0 hz hs
  go_wp2_with fail
  refine (unhide CI _ B1).mono ?_
  rintro e w2 ⟨⟨k, y, n, l, sc, d, mo, da, t⟩, ag, cg, ok, rfl, og, b2, hcg⟩
  have HG := hide hcg
  have G2 := V9.new w2 (.int .i64 k) (.bool y) (.bool n) (.slice ag l.length cg) (.int .i64 sc) (.int .i64 d) (.int .i64 mo) (.int .i64 da) (.string t) 31
  have bA := (Below.refl w2.heap.size w2).alloc (Nat.le_refl _) (.cells #[.int .i64 k, .bool y, .bool n, .slice ag l.length cg, .int .i64 sc, .int .i64 d, .int .i64 mo, .int .i64 da, .string t] 31)
  have B2 := (B1.trans (b2.mono B1.size)).trans (bA.mono (B1.trans (b2.mono B1.size)).size)
  have rg := hide (og.reads.later bA)
  clear b2 bA B1 og hcg CI
  go_wp2_with fail
  refine (unhide CS _).mono ?_
  rintro e w3 ⟨U, aw, cw, ok2, rfl, ow, b3, hcs⟩
  obtain ⟨eU, eo, -, htz⟩ := gv_same (unhide HG) hcs
  subst eU eo
  simp only at ow htz
  have HC := hide hcs
  have G3 := G2.later b3
  have B3 := B2.trans (b3.mono B2.size)
  have rg := hide ((unhide rg).later b3)
  have W3 := V9.new w3 (.int .i64 k) (.bool y) (.bool n) (.slice aw l.length cw) (.int .i64 sc) (.int .i64 d) (.int .i64 mo) (.int .i64 da) (.string t) 31
  have bA := (Below.refl w3.heap.size w3).alloc (Nat.le_refl _) (.cells #[.int .i64 k, .bool y, .bool n, .slice aw l.length cw, .int .i64 sc, .int .i64 d, .int .i64 mo, .int .i64 da, .string t] 31)
  have G3 := G3.later bA
  have B3 := B3.trans (bA.mono B3.size)
  have rg := hide ((unhide rg).later bA)
  have rw3 := hide (ow.reads.later bA)
  have hgz : w2.heap.size < w3.heap.size := by have := b3.size; simp only [World.size_alloc] at this; omega
  clear b3 bA G2 B2 ow hcs CS
  have CJ := hide (fun W (r1 : Reads W (.slice ag l.length cg) l) (r2 : Reads W (.slice aw l.length cw) l) => jtVal_same W k y n ag aw l cg cw sc d mo da t r1 r2)
  obtain ⟨a0, a1, a2, a3, a4, a5, a6, a7, a8, -, -, -, -, -, -, -, -, -, -⟩ := id G3
  obtain ⟨c0, c1, c2, c3, c4, c5, c6, c7, c8, -, -, -, -, -, -, -, -, -, -⟩ := id W3
  cases ok2
  · go_wp2_with fail
    refine (unhide CJ _ (unhide rg) (unhide rw3)).mono ?_
    rintro e w4 ⟨rfl, b4⟩
    have G4 := G3.later b4
    have W4 := W3.later b4
    have B4 := B3.trans (b4.mono B3.size)
    have r4 := (unhide rg).later b4
    have q4 := (unhide rw3).later b4
    clear a0 a1 a2 a3 a4 a5 a6 a7 a8 c0 c1 c2 c3 c4 c5 c6 c7 c8 G3 W3 B3 b4 rg rw3
    obtain ⟨a0, a1, a2, a3, a4, a5, a6, a7, a8, -, -, -, -, -, -, -, -, -, -⟩ := id G4
    obtain ⟨c0, c1, c2, c3, c4, c5, c6, c7, c8, -, -, -, -, -, -, -, -, -, -⟩ := id W4
    go_wp2_with fail
    refine (unhide CJ _ r4 q4).mono ?_
    rintro e w5 ⟨rfl, b5⟩
    go_wp2
    go_ret
    exact ⟨rfl, B4.trans (b5.mono B4.size)⟩
  · obtain ⟨hv, hp⟩ : valB k y n l sc d mo da t = true ∧ putR k y n l sc d mo da t = s := by
      rcases unhide HC with ⟨-, h⟩ | ⟨h, -⟩
      · exact h
      · cases h
    have hpr : valPutR k y n l sc d mo da t = s := by unfold valPutR; rw [if_pos hv]; exact hp
    have CP := fun W (r : Reads W (.slice ag l.length cg) l) (b : Below w.heap.size w W) => implValuePut_any W k y n ag l cg sc d mo da t (by unfold maxLen; omega) r (tt.later b) (mx.later b)
    have CO := fun W (r : Reads W (.slice ag l.length cg) l) (b : Below w.heap.size w W) => implValueOk_any W k y n ag l cg sc d mo da t (by unfold maxLen; omega) r (tt.later b)
    simp only [hpr] at CP
    simp only [hv] at CO
    have CP := hide CP
    have CO := hide CO
    have e1 : (s.toList == s.toList) = true := by simp
    clear hv hp hpr HC HG htz
    go_wp2_with fail
    refine (unhide CJ _ (unhide rg) (unhide rw3)).mono ?_
    rintro e w4 ⟨rfl, b4⟩
    have G4 := G3.later b4
    have B4 := B3.trans (b4.mono B3.size)
    have r4 := hide ((unhide rg).later b4)
    clear a0 a1 a2 a3 a4 a5 a6 a7 a8 c0 c1 c2 c3 c4 c5 c6 c7 c8 G3 W3 B3 b4 rg rw3 CJ
    obtain ⟨a0, a1, a2, a3, a4, a5, a6, a7, a8, -, -, -, -, -, -, -, -, -, -⟩ := id G4
    go_wp2_with fail
    refine (unhide CP _ (unhide r4) B4).mono ?_
    rintro e w5 ⟨rfl, b5⟩
    have G5 := G4.later b5
    have B5 := B4.trans (b5.mono B4.size)
    have r5 := hide ((unhide r4).later b5)
    clear a0 a1 a2 a3 a4 a5 a6 a7 a8 G4 B4 b5 r4 CP
    obtain ⟨a0, a1, a2, a3, a4, a5, a6, a7, a8, -, -, -, -, -, -, -, -, -, -⟩ := id G5
    go_wp2_with fail
    refine (unhide CO _ (unhide r5) B5).mono ?_
    rintro e w6 ⟨rfl, b6⟩
    go_wp2
    go_ret
    exact ⟨rfl, B5.trans (b6.mono B5.size)⟩

end Go.Proofs.YtdklikicngmkbaaGreatDoor
