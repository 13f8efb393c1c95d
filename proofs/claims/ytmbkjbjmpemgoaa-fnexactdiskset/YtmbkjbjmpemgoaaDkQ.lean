/- DiskSet, by the program and by the specification. -/
import Derived.Test.YtmbkjbjmpemgoaaDkF
import Derived.Test.YtmbkjbjmpemgoaaDkP
namespace Go.Proofs.Ytmbkjbjmpemgoaa
open Go.RowKit

/-- DiskSet does something. -/
def setB (cs : List ByteArray) (ws : List (Int × ByteArray)) (room left r l : Int) : Bool := diskB cs ws room left && decide (-1 ≤ r) && decide (-1 ≤ l)

theorem diskB_len {cs : List ByteArray} {ws : List (Int × ByteArray)} {room left : Int} (h : diskB cs ws room left = true) : cs.length ≤ 1048576 ∧ ws.length ≤ 1048576 := by
  simp only [diskB, Bool.and_eq_true, decide_eq_true_eq] at h
  omega

theorem setB_len {cs : List ByteArray} {ws : List (Int × ByteArray)} {room left r l : Int} (h : setB cs ws room left r l = true) : cs.length ≤ 1048576 ∧ ws.length ≤ 1048576 := by
  simp only [setB, Bool.and_eq_true] at h
  exact diskB_len h.1.1

theorem GivesDisk.none {w w' : World} (h : Below w.heap.size w w') : GivesDisk w [] [] 0 0 (.returned (.agg #[.slice .none 0 0, .slice .none 0 0, .int .i64 0, .int .i64 0])) w' :=
  ⟨.none, 0, .none, 0, w.heap.size, rfl, World.ownsRow_nil _ _ _ _, World.ownsRow_nil _ _ _ _, Nat.le_refl _, (fun k (hk : Option.none = some k) => by cases hk), h⟩

theorem implDiskSet_no (w : World) (vc vw : Value) (cs : List ByteArray) (ws : List (Int × ByteArray)) (room left r l : Int) (hc : ReadsS w vc cs) (hw : ReadsW w vw ws) (hn : setB cs ws room left r l = false) :
    Calls Try.prog 16 #[.agg #[vc, vw, .int .i64 room, .int .i64 left], .int .i64 r, .int .i64 l] w (GivesDisk w [] [] 0 0) := by
  have C := fun W (h : Below w.heap.size w W) => implDiskOk_any W vc vw cs ws room left (hc.later h) (hw.later h)
  by_cases h1 : diskB cs ws room left = true
  · rw [h1] at C
    have HC := hide C
    clear C
    by_cases h2 : -1 ≤ r
    · have d2 : decide (r < -1) = false := by simp; omega
      have h3 : ¬ -1 ≤ l := fun h3 => by simp [setB, h1, h2, h3] at hn
      have d3 : decide (l < -1) = true := by simp; omega
      clear hn h1
      go_enter Try.func16, Try.ntmps16
      go_wp2_with fail
      refine (unhide HC _ (((Below.refl _ _).alloc (Nat.le_refl _) _).alloc (by simp) _)).mono ?_
      rintro e w1 ⟨rfl, b1⟩
      obtain ⟨hc1, hf1⟩ := bcell b1
      have hz1 : w.heap.size + 1 < w1.heap.size := by have := b1.size; simp at this; omega
      have B1 : Below w.heap.size w w1 := (((Below.refl _ _).alloc (Nat.le_refl _) _).alloc (by simp) _).trans (b1.mono (by simp <;> omega))
      go_wp2
      refine bodyPost_ret (v := .agg #[.slice none 0 0, .slice none 0 0, .int .i64 0, .int .i64 0]) (by simp [results, Try.results16, go_sem, hc1]) rfl (GivesDisk.none ?_)
      exact (((B1.setCell (by simp) _).setCell (by simp) _).setCell (by simp) _).setCell (by simp) _
    · have d2 : decide (r < -1) = true := by simp; omega
      clear hn h1
      go_enter Try.func16, Try.ntmps16
      go_wp2_with fail
      refine (unhide HC _ (((Below.refl _ _).alloc (Nat.le_refl _) _).alloc (by simp) _)).mono ?_
      rintro e w1 ⟨rfl, b1⟩
      obtain ⟨hc1, hf1⟩ := bcell b1
      have hz1 : w.heap.size + 1 < w1.heap.size := by have := b1.size; simp at this; omega
      have B1 : Below w.heap.size w w1 := (((Below.refl _ _).alloc (Nat.le_refl _) _).alloc (by simp) _).trans (b1.mono (by simp <;> omega))
      go_wp2
      refine bodyPost_ret (v := .agg #[.slice none 0 0, .slice none 0 0, .int .i64 0, .int .i64 0]) (by simp [results, Try.results16, go_sem, hc1]) rfl (GivesDisk.none ?_)
      exact (((B1.setCell (by simp) _).setCell (by simp) _).setCell (by simp) _).setCell (by simp) _
  · rw [Bool.eq_false_iff.2 h1] at C
    have HC := hide C
    clear C hn h1
    go_enter Try.func16, Try.ntmps16
    go_wp2_with fail
    refine (unhide HC _ (((Below.refl _ _).alloc (Nat.le_refl _) _).alloc (by simp) _)).mono ?_
    rintro e w1 ⟨rfl, b1⟩
    obtain ⟨hc1, hf1⟩ := bcell b1
    have hz1 : w.heap.size + 1 < w1.heap.size := by have := b1.size; simp at this; omega
    have B1 : Below w.heap.size w w1 := (((Below.refl _ _).alloc (Nat.le_refl _) _).alloc (by simp) _).trans (b1.mono (by simp <;> omega))
    go_wp2
    refine bodyPost_ret (v := .agg #[.slice none 0 0, .slice none 0 0, .int .i64 0, .int .i64 0]) (by simp [results, Try.results16, go_sem, hc1]) rfl (GivesDisk.none ?_)
    exact (((B1.setCell (by simp) _).setCell (by simp) _).setCell (by simp) _).setCell (by simp) _

theorem specDiskSet_no (w : World) (vc vw : Value) (cs : List ByteArray) (ws : List (Int × ByteArray)) (room left r l : Int) (hc : ReadsS w vc cs) (hw : ReadsW w vw ws) (hn : setB cs ws room left r l = false) :
    Calls Try.prog 15 #[.agg #[vc, vw, .int .i64 room, .int .i64 left], .int .i64 r, .int .i64 l] w (GivesDisk w [] [] 0 0) := by
  have C := fun W (h : Below w.heap.size w W) => l7Ok_any W vc vw cs ws room left (hc.later h) (hw.later h)
  by_cases h1 : diskB cs ws room left = true
  · rw [h1] at C
    have HC := hide C
    clear C
    by_cases h2 : -1 ≤ r
    · have d2 : decide (r < -1) = false := by simp; omega
      have h3 : ¬ -1 ≤ l := fun h3 => by simp [setB, h1, h2, h3] at hn
      have d3 : decide (l < -1) = true := by simp; omega
      clear hn h1
      go_enter Try.func15, Try.ntmps15
      go_wp2_with fail
      refine (unhide HC _ (((Below.refl _ _).alloc (Nat.le_refl _) _).alloc (by simp) _)).mono ?_
      rintro e w1 ⟨rfl, b1⟩
      obtain ⟨hc1, hf1⟩ := bcell b1
      have hz1 : w.heap.size + 1 < w1.heap.size := by have := b1.size; simp at this; omega
      have B1 : Below w.heap.size w w1 := (((Below.refl _ _).alloc (Nat.le_refl _) _).alloc (by simp) _).trans (b1.mono (by simp <;> omega))
      go_wp2
      refine bodyPost_ret (v := .agg #[.slice none 0 0, .slice none 0 0, .int .i64 0, .int .i64 0]) (by simp [results, Try.results15, go_sem, hc1]) rfl (GivesDisk.none ?_)
      exact (((B1.setCell (by simp) _).setCell (by simp) _).setCell (by simp) _).setCell (by simp) _
    · have d2 : decide (r < -1) = true := by simp; omega
      clear hn h1
      go_enter Try.func15, Try.ntmps15
      go_wp2_with fail
      refine (unhide HC _ (((Below.refl _ _).alloc (Nat.le_refl _) _).alloc (by simp) _)).mono ?_
      rintro e w1 ⟨rfl, b1⟩
      obtain ⟨hc1, hf1⟩ := bcell b1
      have hz1 : w.heap.size + 1 < w1.heap.size := by have := b1.size; simp at this; omega
      have B1 : Below w.heap.size w w1 := (((Below.refl _ _).alloc (Nat.le_refl _) _).alloc (by simp) _).trans (b1.mono (by simp <;> omega))
      go_wp2
      refine bodyPost_ret (v := .agg #[.slice none 0 0, .slice none 0 0, .int .i64 0, .int .i64 0]) (by simp [results, Try.results15, go_sem, hc1]) rfl (GivesDisk.none ?_)
      exact (((B1.setCell (by simp) _).setCell (by simp) _).setCell (by simp) _).setCell (by simp) _
  · rw [Bool.eq_false_iff.2 h1] at C
    have HC := hide C
    clear C hn h1
    go_enter Try.func15, Try.ntmps15
    go_wp2_with fail
    refine (unhide HC _ (((Below.refl _ _).alloc (Nat.le_refl _) _).alloc (by simp) _)).mono ?_
    rintro e w1 ⟨rfl, b1⟩
    obtain ⟨hc1, hf1⟩ := bcell b1
    have hz1 : w.heap.size + 1 < w1.heap.size := by have := b1.size; simp at this; omega
    have B1 : Below w.heap.size w w1 := (((Below.refl _ _).alloc (Nat.le_refl _) _).alloc (by simp) _).trans (b1.mono (by simp <;> omega))
    go_wp2
    refine bodyPost_ret (v := .agg #[.slice none 0 0, .slice none 0 0, .int .i64 0, .int .i64 0]) (by simp [results, Try.results15, go_sem, hc1]) rfl (GivesDisk.none ?_)
    exact (((B1.setCell (by simp) _).setCell (by simp) _).setCell (by simp) _).setCell (by simp) _

theorem DBox.set23 {w : World} {b : Nat} {vc vw : Value} {room left p q : Int} (h : DBox w b vc vw room left) : DBox ((w.setCell ⟨b, 2, none⟩ (.int .i64 p)).setCell ⟨b, 3, none⟩ (.int .i64 q)) b vc vw p q := by
  obtain ⟨c0, c1, c2, c3⟩ := h
  constructor <;> simp [go_sem, c0, c1, c2, c3]

theorem implDiskSet_yes (w : World) (vc vw : Value) (cs : List ByteArray) (ws : List (Int × ByteArray)) (room left r l : Int) (hc : ReadsS w vc cs) (hw : ReadsW w vw ws) (hy : setB cs ws room left r l = true) :
    Calls Try.prog 16 #[.agg #[vc, vw, .int .i64 room, .int .i64 left], .int .i64 r, .int .i64 l] w (GivesDisk w cs ws r l) := by
  obtain ⟨hcl, hwl⟩ := setB_len hy
  have C := fun W (h : Below w.heap.size w W) => implDiskOk_any W vc vw cs ws room left (hc.later h) (hw.later h)
  have P := hide (fun W (h : Below w.heap.size w W) => diskCopy_any W vc vw cs ws room left (hc.later h) (hw.later h) hcl hwl)
  simp only [setB, Bool.and_eq_true, decide_eq_true_eq] at hy
  obtain ⟨⟨h1, h2⟩, h3⟩ := hy
  rw [h1] at C
  have HC := hide C
  have d2 : decide (r < -1) = false := by simp; omega
  have d3 : decide (l < -1) = false := by simp; omega
  clear C h1
  go_enter Try.func16, Try.ntmps16
  go_wp2_with fail
  refine (unhide HC _ (((Below.refl _ _).alloc (Nat.le_refl _) _).alloc (by simp) _)).mono ?_
  rintro e w1 ⟨rfl, b1⟩
  have al := fun (W : World) (o : Obj) => (Below.refl W.heap.size W).alloc (Nat.le_refl _) o
  have A1 := ((DBox.new w vc vw room left 25).later (al _ (.cells #[.slice none 0 0, .slice none 0 0, .int .i64 0, .int .i64 0] 25))).later b1
  have R1 := (DBox.new (w.alloc (.cells #[vc, vw, .int .i64 room, .int .i64 left] 25)) (.slice none 0 0) (.slice none 0 0) 0 0 25).later b1
  have F1 := ((Free.new w #[vc, vw, .int .i64 room, .int .i64 left] 25).later (al _ (.cells #[.slice none 0 0, .slice none 0 0, .int .i64 0, .int .i64 0] 25))).later b1
  have E1 := (Free.new (w.alloc (.cells #[vc, vw, .int .i64 room, .int .i64 left] 25)) #[.slice none 0 0, .slice none 0 0, .int .i64 0, .int .i64 0] 25).later b1
  rw [World.size_alloc] at R1 E1
  have B1 : Below w.heap.size w w1 := (((Below.refl _ _).alloc (Nat.le_refl _) _).alloc (by simp) _).trans (b1.mono (by simp <;> omega))
  clear b1
  obtain ⟨a0, a1, a2, a3⟩ := id A1
  go_wp2_with fail
  refine (unhide P _ B1).mono ?_
  rintro e w2 ⟨ac, cc, aw, cw, E2, rfl, o2, q2, le2, lt2, b2⟩
  have B2 := B1.trans (b2.mono B1.size)
  have z1 := F1.1
  have z2 : w.heap.size + 1 < w1.heap.size := E1.1
  have z3 := b2.size
  clear a0 a1 a2 a3
  obtain ⟨a0, a1, a2, a3⟩ := A1.later b2
  obtain ⟨zA, fA⟩ := F1.later b2
  have A3 := (((A1.later b2).set0 (x := .slice ac cs.length cc)).set1 (x := .slice aw ws.length cw)).set23 (p := room) (q := left)
  have R3 := ((((R1.later b2).other (o := 0) (x := .slice ac cs.length cc) (Nat.succ_ne_self w.heap.size)).other (o := 1) (x := .slice aw ws.length cw) (Nat.succ_ne_self w.heap.size)).other (o := 2) (x := .int .i64 room) (Nat.succ_ne_self w.heap.size)).other (o := 3) (x := .int .i64 left) (Nat.succ_ne_self w.heap.size)
  have F3 := (((F1.later b2).set (b' := w.heap.size) (o := 0) (x := .slice ac cs.length cc)).set (b' := w.heap.size) (o := 1) (x := .slice aw ws.length cw)).set (b' := w.heap.size) (o := 2) (x := .int .i64 room) |>.set (b' := w.heap.size) (o := 3) (x := .int .i64 left)
  have E3 := (((E1.later b2).set (b' := w.heap.size) (o := 0) (x := .slice ac cs.length cc)).set (b' := w.heap.size) (o := 1) (x := .slice aw ws.length cw)).set (b' := w.heap.size) (o := 2) (x := .int .i64 room) |>.set (b' := w.heap.size) (o := 3) (x := .int .i64 left)
  have B3 := (((B2.setCell (p := ⟨w.heap.size, 0, none⟩) (Nat.le_refl _) (.slice ac cs.length cc)).setCell (p := ⟨w.heap.size, 1, none⟩) (Nat.le_refl _) (.slice aw ws.length cw)).setCell (p := ⟨w.heap.size, 2, none⟩) (Nat.le_refl _) (.int .i64 room)).setCell (p := ⟨w.heap.size, 3, none⟩) (Nat.le_refl _) (.int .i64 left)
  have O3 : OwnS w1.heap.size _ _ cs := ownsRow_setCell_below (ownsRow_setCell_below (ownsRow_setCell_below (ownsRow_setCell_below o2 (a := ⟨w.heap.size, 0, none⟩) z1 (.slice ac cs.length cc)) (a := ⟨w.heap.size, 1, none⟩) z1 (.slice aw ws.length cw)) (a := ⟨w.heap.size, 2, none⟩) z1 (.int .i64 room)) (a := ⟨w.heap.size, 3, none⟩) z1 (.int .i64 left)
  have zE : w.heap.size < E2 := by omega
  have Q3 : OwnW E2 _ _ ws := ownsRow_setCell_below (ownsRow_setCell_below (ownsRow_setCell_below (ownsRow_setCell_below q2 (a := ⟨w.heap.size, 0, none⟩) zE (.slice ac cs.length cc)) (a := ⟨w.heap.size, 1, none⟩) zE (.slice aw ws.length cw)) (a := ⟨w.heap.size, 2, none⟩) zE (.int .i64 room)) (a := ⟨w.heap.size, 3, none⟩) zE (.int .i64 left)
  have K1 := hide A3
  have K2 := hide R3
  have K3 := hide F3
  have K4 := hide E3
  have K5 := hide B3
  have K6 := hide O3
  have K7 := hide Q3
  clear al A1 R1 F1 E1 b2 A3 R3 F3 E3 B3 O3 Q3 o2 q2 B2
  iterate 8 (first | go_values | go_skip | go_guarded | go_step | go_upon | go_in | go_back | go_simp)
  generalize (((w2.setCell ⟨w.heap.size, 0, none⟩ (.slice ac cs.length cc)).setCell ⟨w.heap.size, 1, none⟩ (.slice aw ws.length cw)).setCell ⟨w.heap.size, 2, none⟩ (.int .i64 room)).setCell ⟨w.heap.size, 3, none⟩ (.int .i64 left) = w3 at *
  clear a0 a1 a2 a3 zA fA
  obtain ⟨a0, a1, a2, a3⟩ := unhide K1
  obtain ⟨r0, r1, r2, r3⟩ := unhide K2
  obtain ⟨zA, fA⟩ := unhide K3
  obtain ⟨zR, fR⟩ := unhide K4
  go_wp2
  refine bodyPost_ret (v := .agg #[.slice ac cs.length cc, .slice aw ws.length cw, .int .i64 r, .int .i64 l]) (by simp [results, Try.results16, go_sem, r0, r1, r2, r3]) rfl ⟨ac, cc, aw, cw, E2, rfl, ?_, ?_, by omega, lt2, ?_⟩
  · exact ownsRow_mono (ownsRow_setCell_below (ownsRow_setCell_below (ownsRow_setCell_below (ownsRow_setCell_below (ownsRow_setCell_below (ownsRow_setCell_below (unhide K6) z1 _) z1 _) z2 _) z2 _) z2 _) z2 _) (by omega)
  · exact ownsRow_setCell_below (ownsRow_setCell_below (ownsRow_setCell_below (ownsRow_setCell_below (ownsRow_setCell_below (ownsRow_setCell_below (unhide K7) (by simp; omega) _) (by simp; omega) _) (by simp; omega) _) (by simp; omega) _) (by simp; omega) _) (by simp; omega) _
  · exact ((((((unhide K5).setCell (by simp) _).setCell (by simp) _).setCell (by simp) _).setCell (by simp) _).setCell (by simp) _).setCell (by simp) _

theorem specDiskSet_yes (w : World) (vc vw : Value) (cs : List ByteArray) (ws : List (Int × ByteArray)) (room left r l : Int) (hc : ReadsS w vc cs) (hw : ReadsW w vw ws) (hy : setB cs ws room left r l = true) :
    Calls Try.prog 15 #[.agg #[vc, vw, .int .i64 room, .int .i64 left], .int .i64 r, .int .i64 l] w (GivesDisk w cs ws r l) := by
  obtain ⟨hcl, hwl⟩ := setB_len hy
  have C := fun W (h : Below w.heap.size w W) => l7Ok_any W vc vw cs ws room left (hc.later h) (hw.later h)
  have P := hide (fun W (h : Below w.heap.size w W) => l7Copy_any W vc vw cs ws room left (hc.later h) (hw.later h) hcl hwl)
  simp only [setB, Bool.and_eq_true, decide_eq_true_eq] at hy
  obtain ⟨⟨h1, h2⟩, h3⟩ := hy
  rw [h1] at C
  have HC := hide C
  have d2 : decide (r < -1) = false := by simp; omega
  have d3 : decide (l < -1) = false := by simp; omega
  clear C h1
  go_enter Try.func15, Try.ntmps15
  go_wp2_with fail
  refine (unhide HC _ (((Below.refl _ _).alloc (Nat.le_refl _) _).alloc (by simp) _)).mono ?_
  rintro e w1 ⟨rfl, b1⟩
  have al := fun (W : World) (o : Obj) => (Below.refl W.heap.size W).alloc (Nat.le_refl _) o
  have A1 := ((DBox.new w vc vw room left 25).later (al _ (.cells #[.slice none 0 0, .slice none 0 0, .int .i64 0, .int .i64 0] 25))).later b1
  have R1 := (DBox.new (w.alloc (.cells #[vc, vw, .int .i64 room, .int .i64 left] 25)) (.slice none 0 0) (.slice none 0 0) 0 0 25).later b1
  have F1 := ((Free.new w #[vc, vw, .int .i64 room, .int .i64 left] 25).later (al _ (.cells #[.slice none 0 0, .slice none 0 0, .int .i64 0, .int .i64 0] 25))).later b1
  have E1 := (Free.new (w.alloc (.cells #[vc, vw, .int .i64 room, .int .i64 left] 25)) #[.slice none 0 0, .slice none 0 0, .int .i64 0, .int .i64 0] 25).later b1
  rw [World.size_alloc] at R1 E1
  have B1 : Below w.heap.size w w1 := (((Below.refl _ _).alloc (Nat.le_refl _) _).alloc (by simp) _).trans (b1.mono (by simp <;> omega))
  clear b1
  obtain ⟨a0, a1, a2, a3⟩ := id A1
  go_wp2_with fail
  refine (unhide P _ B1).mono ?_
  rintro e w2 ⟨ac, cc, aw, cw, E2, rfl, o2, q2, le2, lt2, b2⟩
  have B2 := B1.trans (b2.mono B1.size)
  have z1 := F1.1
  have z2 : w.heap.size + 1 < w1.heap.size := E1.1
  have z3 := b2.size
  clear a0 a1 a2 a3
  obtain ⟨a0, a1, a2, a3⟩ := A1.later b2
  obtain ⟨r0, r1, r2, r3⟩ := R1.later b2
  obtain ⟨zA, fA⟩ := F1.later b2
  obtain ⟨zR, fR⟩ := E1.later b2
  clear al A1 R1 F1 E1 b2
  go_wp2
  refine bodyPost_ret (v := .agg #[.slice ac cs.length cc, .slice aw ws.length cw, .int .i64 r, .int .i64 l]) (by simp [results, Try.results15, go_sem, r0, r1, r2, r3, zR]) rfl ⟨ac, cc, aw, cw, E2, rfl, ?_, ?_, by omega, lt2, ?_⟩
  · exact ownsRow_mono (ownsRow_later (ownsRow_setCell_below (ownsRow_setCell_below (ownsRow_setCell_below (ownsRow_setCell_below o2 z2 _) z2 _) z2 _) z2 _) ((Below.refl _ _).alloc (Nat.le_refl _) _)) (by omega)
  · exact ownsRow_later (ownsRow_setCell_below (ownsRow_setCell_below (ownsRow_setCell_below (ownsRow_setCell_below q2 (by simp; omega) _) (by simp; omega) _) (by simp; omega) _) (by simp; omega) _) ((Below.refl _ _).alloc (Nat.le_refl _) _)
  · exact ((((B2.setCell (by simp) _).setCell (by simp) _).setCell (by simp) _).setCell (by simp) _).alloc (by simpa using B2.size) _

end Go.Proofs.Ytmbkjbjmpemgoaa
