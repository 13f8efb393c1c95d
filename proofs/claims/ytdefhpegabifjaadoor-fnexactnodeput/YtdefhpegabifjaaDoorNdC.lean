/- A copy of a node; two nodes that are the same. -/
import Derived.Test.YtdefhpegabifjaaDoorNdA
namespace Go.Proofs.YtdefhpegabifjaaDoor
open Go.RowKit
set_option maxRecDepth 100000
set_option linter.unusedSimpArgs false
set_option linter.unusedVariables false

set_option maxHeartbeats 2000000 in
theorem toNode_any (w : World) (lf : Bool) (vk vv vi : Value) (ks vs : List ByteArray) (is : List Int) (hk : ReadsS w vk ks) (hv : ReadsS w vv vs) (hi : Reads w vi is) (lk : ks.length ≤ 1048576) (lv : vs.length ≤ 1048576) (li : is.length ≤ 1048576) :
    Calls Tryd.prog 7 #[.agg #[.bool lf, vk, vv, vi]] w (GivesNode w lf ks vs is) := by
  have sk : ∀ i (h : i < ks.length), ks[i].size ≤ maxLen := by obtain ⟨_, _, _, _, _, r⟩ := hk; exact r.siz
  have sv : ∀ i (h : i < vs.length), vs[i].size ≤ maxLen := by obtain ⟨_, _, _, _, _, r⟩ := hv; exact r.siz
  have C1 := hide (fun W (b : Below w.heap.size w W) => toStringS_any W vk ks (hk.later b) lk)
  have C2 := hide (fun W (b : Below w.heap.size w W) => toStringS_any W vv vs (hv.later b) lv)
  have C3 := hide (fun W (b : Below w.heap.size w W) => toIntS_any W vi is (hi.later b) li)
  have SK := hide sk
  have SV := hide sv
  clear hk hv hi sk sv
  go_enter Tryd.func7, Tryd.ntmps7
  go_wp2_with fail
  obtain ⟨W0, hW0⟩ : ∃ W0, W0 = ((w.alloc (.cells #[.bool lf, vk, vv, vi] 25)).alloc (.cells #[.bool false, .slice none 0 0, .slice none 0 0, .slice none 0 0] 28)).alloc (.cells #[.bool lf, .slice none 0 0, .slice none 0 0, .slice none 0 0] 28) := ⟨_, rfl⟩
  have hz0 : W0.heap.size = w.heap.size + 1 + 1 + 1 := by rw [hW0]; simp
  have A0 : N4 W0 w.heap.size (.bool lf) vk vv vi := by rw [hW0]; exact ((N4.new w _ _ _ _ _).later ((Below.refl _ _).alloc (Nat.le_refl _) _)).later ((Below.refl _ _).alloc (Nat.le_refl _) _)
  have R0 : N4 W0 (w.heap.size + 1) (.bool false) (.slice none 0 0) (.slice none 0 0) (.slice none 0 0) := by
    rw [hW0]
    have h := (N4.new (w.alloc (.cells #[.bool lf, vk, vv, vi] 25)) (.bool false) (.slice none 0 0) (.slice none 0 0) (.slice none 0 0) 28).later ((Below.refl _ _).alloc (Nat.le_refl _) (.cells #[.bool lf, .slice none 0 0, .slice none 0 0, .slice none 0 0] 28))
    simpa only [World.size_alloc] using h
  have O0 : N4 W0 (w.heap.size + 1 + 1) (.bool lf) (.slice none 0 0) (.slice none 0 0) (.slice none 0 0) := by
    rw [hW0]
    have h := N4.new ((w.alloc (.cells #[.bool lf, vk, vv, vi] 25)).alloc (.cells #[.bool false, .slice none 0 0, .slice none 0 0, .slice none 0 0] 28)) (.bool lf) (.slice none 0 0) (.slice none 0 0) (.slice none 0 0) 28
    simpa only [World.size_alloc] using h
  have B0 : Below w.heap.size w W0 := by rw [hW0]; exact (((Below.refl _ _).alloc (Nat.le_refl _) _).alloc (by simp) _).alloc (by simp; omega) _
  rw [← hW0]
  clear hW0
  refine (unhide C1 _ B0).mono ?_
  rintro e w1 ⟨ak, ck, rfl, o1, b1⟩
  have A1 := A0.later b1
  have R1 := R0.later b1
  have O1 := O0.later b1
  have B1 := B0.trans (b1.mono B0.size)
  have z1 := b1.size
  have o1 := ownsRow_mono o1 (B' := w.heap.size + 1 + 1 + 1) (by omega)
  clear b1 A0 R0 O0 B0 C1
  obtain ⟨p0, p1, p2, p3, -, -, -, -, -⟩ := id A1
  obtain ⟨q0, q1, q2, q3, g0, g1, g2, g3, -⟩ := id O1
  go_wp2_with fail
  have A2 := A1.other (a := ⟨w.heap.size + 1 + 1, 1, none⟩) (by simp; omega) (.slice ak ks.length ck)
  have R2 := R1.other (a := ⟨w.heap.size + 1 + 1, 1, none⟩) (by simp) (.slice ak ks.length ck)
  have O2 := O1.put1 (.slice ak ks.length ck)
  have B2 := B1.setCell (p := ⟨w.heap.size + 1 + 1, 1, none⟩) (by simp; omega) (.slice ak ks.length ck)
  have o2 := ownsRow_setCell_below o1 (a := ⟨w.heap.size + 1 + 1, 1, none⟩) (by simp) (.slice ak ks.length ck)
  have z2 : w.heap.size + 1 + 1 + 1 ≤ (w1.setCell ⟨w.heap.size + 1 + 1, 1, none⟩ (.slice ak ks.length ck)).heap.size := by simp [World.setCell]; omega
  clear A1 R1 O1 B1 o1 p0 p1 p2 p3 q0 q1 q2 q3 g0 g1 g2 g3
  generalize w1.setCell ⟨w.heap.size + 1 + 1, 1, none⟩ (.slice ak ks.length ck) = W2 at *
  refine (unhide C2 _ B2).mono ?_
  rintro e w3 ⟨av, cv, rfl, u3, b3⟩
  have A3 := A2.later b3
  have R3 := R2.later b3
  have O3 := O2.later b3
  have B3 := B2.trans (b3.mono B2.size)
  have z3 := b3.size
  have o3 := ownsRow_later o2 b3
  have u3 := ownsRow_mono u3 (B' := w.heap.size + 1 + 1 + 1) (by omega)
  clear b3 A2 R2 O2 B2 C2 o2
  obtain ⟨p0, p1, p2, p3, -, -, -, -, -⟩ := id A3
  obtain ⟨q0, q1, q2, q3, g0, g1, g2, g3, -⟩ := id O3
  go_wp2_with fail
  have A4 := A3.other (a := ⟨w.heap.size + 1 + 1, 2, none⟩) (by simp; omega) (.slice av vs.length cv)
  have R4 := R3.other (a := ⟨w.heap.size + 1 + 1, 2, none⟩) (by simp) (.slice av vs.length cv)
  have O4 := O3.put2 (.slice av vs.length cv)
  have B4 := B3.setCell (p := ⟨w.heap.size + 1 + 1, 2, none⟩) (by simp; omega) (.slice av vs.length cv)
  have o4 := ownsRow_setCell_below o3 (a := ⟨w.heap.size + 1 + 1, 2, none⟩) (by simp) (.slice av vs.length cv)
  have u4 := ownsRow_setCell_below u3 (a := ⟨w.heap.size + 1 + 1, 2, none⟩) (by simp) (.slice av vs.length cv)
  have z4 : w.heap.size + 1 + 1 + 1 ≤ (w3.setCell ⟨w.heap.size + 1 + 1, 2, none⟩ (.slice av vs.length cv)).heap.size := by simp [World.setCell]; omega
  clear A3 R3 O3 B3 o3 u3 p0 p1 p2 p3 q0 q1 q2 q3 g0 g1 g2 g3
  generalize w3.setCell ⟨w.heap.size + 1 + 1, 2, none⟩ (.slice av vs.length cv) = W4 at *
  refine (unhide C3 _ B4).mono ?_
  rintro e w5 ⟨ai, ci, rfl, v5, b5⟩
  have A5 := A4.later b5
  have R5 := R4.later b5
  have O5 := O4.later b5
  have B5 := B4.trans (b5.mono B4.size)
  have z5 := b5.size
  have o5 := ownsRow_later o4 b5
  have u5 := ownsRow_later u4 b5
  have v5 := v5.mono (B' := w.heap.size + 1 + 1 + 1) (by omega)
  clear b5 A4 R4 O4 B4 C3 o4 u4 A5
  obtain ⟨p0, p1, p2, p3, f0, f1, f2, f3, pz⟩ := id R5
  obtain ⟨q0, q1, q2, q3, g0, g1, g2, g3, qz⟩ := id O5
  go_wp2
  have R6 := ((((R5.other (a := ⟨w.heap.size + 1 + 1, 3, none⟩) (by simp) (.slice ai is.length ci)).put0 (.bool lf)).put1 (.slice ak ks.length ck)).put2 (.slice av vs.length cv)).put3 (.slice ai is.length ci)
  have B6 := ((((B5.setCell (p := ⟨w.heap.size + 1 + 1, 3, none⟩) (by simp; omega) (.slice ai is.length ci)).setCell (p := ⟨w.heap.size + 1, 0, none⟩) (by simp) (.bool lf)).setCell (p := ⟨w.heap.size + 1, 1, none⟩) (by simp) (.slice ak ks.length ck)).setCell (p := ⟨w.heap.size + 1, 2, none⟩) (by simp) (.slice av vs.length cv)).setCell (p := ⟨w.heap.size + 1, 3, none⟩) (by simp) (.slice ai is.length ci)
  have o6 := ownsRow_setCell_below (ownsRow_setCell_below (ownsRow_setCell_below (ownsRow_setCell_below (ownsRow_setCell_below (o5) (a := ⟨w.heap.size + 1 + 1, 3, none⟩) (by simp; try omega) (.slice ai is.length ci)) (a := ⟨w.heap.size + 1, 0, none⟩) (by simp; try omega) (.bool lf)) (a := ⟨w.heap.size + 1, 1, none⟩) (by simp; try omega) (.slice ak ks.length ck)) (a := ⟨w.heap.size + 1, 2, none⟩) (by simp; try omega) (.slice av vs.length cv)) (a := ⟨w.heap.size + 1, 3, none⟩) (by simp; try omega) (.slice ai is.length ci)
  have u6 := ownsRow_setCell_below (ownsRow_setCell_below (ownsRow_setCell_below (ownsRow_setCell_below (ownsRow_setCell_below (u5) (a := ⟨w.heap.size + 1 + 1, 3, none⟩) (by simp; try omega) (.slice ai is.length ci)) (a := ⟨w.heap.size + 1, 0, none⟩) (by simp; try omega) (.bool lf)) (a := ⟨w.heap.size + 1, 1, none⟩) (by simp; try omega) (.slice ak ks.length ck)) (a := ⟨w.heap.size + 1, 2, none⟩) (by simp; try omega) (.slice av vs.length cv)) (a := ⟨w.heap.size + 1, 3, none⟩) (by simp; try omega) (.slice ai is.length ci)
  have v6 := (((((v5.setBelow (a := ⟨w.heap.size + 1 + 1, 3, none⟩) (by simp) (.slice ai is.length ci)).setBelow (a := ⟨w.heap.size + 1, 0, none⟩) (by simp) (.bool lf)).setBelow (a := ⟨w.heap.size + 1, 1, none⟩) (by simp) (.slice ak ks.length ck)).setBelow (a := ⟨w.heap.size + 1, 2, none⟩) (by simp) (.slice av vs.length cv)).setBelow (a := ⟨w.heap.size + 1, 3, none⟩) (by simp) (.slice ai is.length ci))
  clear R5 O5 B5 o5 u5 v5 f0 f1 f2 f3 g0 g1 g2 g3 p0 p1 p2 p3 q0 q1 q2 q3 pz qz
  generalize (((((w5.setCell ⟨w.heap.size + 1 + 1, 3, none⟩ (.slice ai is.length ci)).setCell ⟨w.heap.size + 1, 0, none⟩ (.bool lf)).setCell ⟨w.heap.size + 1, 1, none⟩ (.slice ak ks.length ck)).setCell ⟨w.heap.size + 1, 2, none⟩ (.slice av vs.length cv)).setCell ⟨w.heap.size + 1, 3, none⟩ (.slice ai is.length ci)) = W6 at *
  obtain ⟨r0, r1, r2, r3, -, -, -, -, -⟩ := id R6
  refine bodyPost_ret (v := .agg #[.bool lf, .slice ak ks.length ck, .slice av vs.length cv, .slice ai is.length ci]) (by simp [results, Tryd.results7, go_sem, r0, r1, r2, r3]) rfl ?_
  exact ⟨ak, ck, av, cv, ai, ci, rfl, OwnS.reads o6 (unhide SK), OwnS.reads u6 (unhide SV), v6.reads, B6⟩

set_option maxHeartbeats 2000000 in
theorem eqNode_same (w : World) (lf : Bool) (vk vv vi uk uv ui : Value) (ks vs : List ByteArray) (is : List Int) (hk : ReadsS w vk ks) (hv : ReadsS w vv vs) (hi : Reads w vi is) (gk : ReadsS w uk ks) (gv : ReadsS w uv vs) (gi : Reads w ui is) :
    Calls Tryd.prog 9 #[.agg #[.bool lf, vk, vv, vi], .agg #[.bool lf, uk, uv, ui]] w fun e w' => e = .returned (.bool true) ∧ Below w.heap.size w w' := by
  have C1 := hide (fun W (b : Below w.heap.size w W) => eqStringS_same W vk uk ks (hk.later b) (gk.later b))
  have C2 := hide (fun W (b : Below w.heap.size w W) => eqStringS_same W vv uv vs (hv.later b) (gv.later b))
  have C3 := hide (fun W (b : Below w.heap.size w W) => eqIntS_any W vi ui is is (hi.later b) (gi.later b))
  clear hk hv hi gk gv gi
  rw [show decide (is = is) = true by simp] at C3
  have hlf : (lf != lf) = false := by cases lf <;> rfl
  obtain ⟨W0, hW0⟩ : ∃ W0, W0 = (w.alloc (.cells #[.bool lf, vk, vv, vi] 28)).alloc (.cells #[.bool lf, uk, uv, ui] 28) := ⟨_, rfl⟩
  have hz0 : W0.heap.size = w.heap.size + 1 + 1 := by rw [hW0]; simp
  have A0 : N4 W0 w.heap.size (.bool lf) vk vv vi := by rw [hW0]; exact (N4.new w _ _ _ _ _).later ((Below.refl _ _).alloc (Nat.le_refl _) _)
  have R0 : N4 W0 (w.heap.size + 1) (.bool lf) uk uv ui := by
    rw [hW0]
    have h := N4.new (w.alloc (.cells #[.bool lf, vk, vv, vi] 28)) (.bool lf) uk uv ui 28
    simpa only [World.size_alloc] using h
  have B0 : Below w.heap.size w W0 := by rw [hW0]; exact ((Below.refl _ _).alloc (Nat.le_refl _) _).alloc (by simp) _
  go_enter Tryd.func9, Tryd.ntmps9
  go_wp2_with fail
  rw [← hW0]
  clear hW0
  obtain ⟨p0, p1, p2, p3, -, -, -, -, -⟩ := id A0
  obtain ⟨q0, q1, q2, q3, -, -, -, -, -⟩ := id R0
  go_wp2_with fail
  refine (unhide C1 _ B0).mono ?_
  rintro e w1 ⟨rfl, b1⟩
  have A1 := A0.later b1
  have R1 := R0.later b1
  have B1 := B0.trans (b1.mono B0.size)
  clear p0 p1 p2 p3 q0 q1 q2 q3 A0 R0 B0 b1 C1
  obtain ⟨p0, p1, p2, p3, -, -, -, -, -⟩ := id A1
  obtain ⟨q0, q1, q2, q3, -, -, -, -, -⟩ := id R1
  go_wp2_with fail
  refine (unhide C2 _ B1).mono ?_
  rintro e w2 ⟨rfl, b2⟩
  have A2 := A1.later b2
  have R2 := R1.later b2
  have B2 := B1.trans (b2.mono B1.size)
  clear p0 p1 p2 p3 q0 q1 q2 q3 A1 R1 B1 b2 C2
  obtain ⟨p0, p1, p2, p3, -, -, -, -, -⟩ := id A2
  obtain ⟨q0, q1, q2, q3, -, -, -, -, -⟩ := id R2
  go_wp2_with fail
  refine (unhide C3 _ B2).mono ?_
  rintro e w3 ⟨rfl, b3⟩
  go_wp2
  go_ret
  exact ⟨rfl, B2.trans (b3.mono B2.size)⟩

end Go.Proofs.YtdefhpegabifjaaDoor
