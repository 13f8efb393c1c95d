/- Both divisions where they refuse, and at numbers. -/
import Derived.Test.YtlmbcicfpidhcaaDivM
namespace Go.Proofs.Ytlmbcicfpidhcaa
open Go.RowKit

theorem noDiv (w : World) : ∀ W', Below w.heap.size w W' → w.heap.size ≤ W'.heap.size → GivesDiv w 0 0 false (.returned (.tuple #[.agg #[.bool false, .slice none 0 0], .agg #[.bool false, .slice none 0 0], .bool false])) W' := fun W' h hs =>
  ⟨none, none, 0, 0, w.heap.size, w.heap.size, w.heap.size, w.heap.size, by simp [L_zero, sg], by simp only [Int.natAbs_zero, L_zero]; exact Own.nil _ _, by simp only [Int.natAbs_zero, L_zero]; exact Own.nil _ _, Nat.le_refl _, Nat.le_refl _, fun k hk => by simp [Value.ownBlock] at hk, fun k hk => by simp [Value.ownBlock] at hk, .inl (Nat.le_refl _), hs, hs, h⟩

set_option maxHeartbeats 1000000 in
theorem implBigDiv_no (w : World) (p q : Bool) (u v : Value) (l m : List Int) (hu : Reads w u l) (hv : Reads w v m) (hno : okB p l = true → okB q m = true → m = []) :
    Calls Try.prog 20 #[.agg #[.bool p, u], .agg #[.bool q, v]] w (GivesDiv w 0 0 false) := by
  have CA := hide (fun W (h : Below w.heap.size w W) => implBigOk_any W p u l (hu.later h))
  have CB := hide (fun W (h : Below w.heap.size w W) => implBigOk_any W q v m (hv.later h))
  have HG := hide (noDiv w)
  obtain ⟨ao, b1, off, cap, rfl, hu⟩ := hu
  obtain ⟨ao', b2, off', cap', rfl, hv⟩ := hv
  clear hu hv
  have D0 := DBx.start w p q (.slice ao l.length cap) (.slice ao' m.length cap')
  cases ho : okB p l with
  | false =>
    rw [ho] at CA
    clear ho hno
    go_enter Try.func20, Try.ntmps20
    go_wp2_with fail
    refine (unhide CA _ D0.below).mono ?_
    rintro e w1 ⟨rfl, k1⟩
    have D1 := D0.later k1
    clear k1 D0 CA CB
    obtain ⟨x1, x2, x3, x4, x5, x6, x7, x8, x9, x10, x11, x12, x13, x14⟩ := id D1
    have HX := hide x14
    clear x14
    go_wp2
    refine bodyPost_ret (v := .tuple #[.agg #[.bool false, .slice none 0 0], .agg #[.bool false, .slice none 0 0], .bool false]) (by simp [results, Try.results20, go_sem, x5, x6, x7, x8]) rfl ?_
    exact unhide HG _ (((((unhide HX).setCell (by simp only; omega) _).setCell (by simp only; omega) _).setCell (by simp only; omega) _).setCell (by simp only; omega) _) (by simp; omega)
  | true =>
    rw [ho] at CA
    have hn := hno ho
    clear ho hno
    cases hq : okB q m with
    | false =>
      rw [hq] at CB
      clear hq hn
      go_enter Try.func20, Try.ntmps20
      go_wp2_with fail
      refine (unhide CA _ D0.below).mono ?_
      rintro e w1 ⟨rfl, k1⟩
      have D1 := D0.later k1
      clear k1 D0 CA
      obtain ⟨x1, x2, x3, x4, x5, x6, x7, x8, x9, x10, x11, x12, x13, x14⟩ := id D1
      have HX := hide x14
      clear x14
      go_wp2_with fail
      refine (unhide CB _ (unhide HX)).mono ?_
      rintro e w2 ⟨rfl, k2⟩
      have D2 := D1.later k2
      clear k2 D1 CB HX x1 x2 x3 x4 x5 x6 x7 x8 x9 x10 x11 x12 x13
      obtain ⟨x1, x2, x3, x4, x5, x6, x7, x8, x9, x10, x11, x12, x13, x14⟩ := id D2
      have HX := hide x14
      clear x14
      go_wp2
      refine bodyPost_ret (v := .tuple #[.agg #[.bool false, .slice none 0 0], .agg #[.bool false, .slice none 0 0], .bool false]) (by simp [results, Try.results20, go_sem, x5, x6, x7, x8]) rfl ?_
      exact unhide HG _ (((((unhide HX).setCell (by simp only; omega) _).setCell (by simp only; omega) _).setCell (by simp only; omega) _).setCell (by simp only; omega) _) (by simp; omega)
    | true =>
      have hm := hn hq
      subst hm
      rw [hq] at CB
      clear hq hn
      go_enter Try.func20, Try.ntmps20
      go_wp2_with fail
      refine (unhide CA _ D0.below).mono ?_
      rintro e w1 ⟨rfl, k1⟩
      have D1 := D0.later k1
      clear k1 D0 CA
      obtain ⟨x1, x2, x3, x4, x5, x6, x7, x8, x9, x10, x11, x12, x13, x14⟩ := id D1
      have HX := hide x14
      clear x14
      go_wp2_with fail
      refine (unhide CB _ (unhide HX)).mono ?_
      rintro e w2 ⟨rfl, k2⟩
      have D2 := D1.later k2
      clear k2 D1 CB HX x1 x2 x3 x4 x5 x6 x7 x8 x9 x10 x11 x12 x13
      obtain ⟨x1, x2, x3, x4, x5, x6, x7, x8, x9, x10, x11, x12, x13, x14⟩ := id D2
      have HX := hide x14
      clear x14
      go_wp2
      refine bodyPost_ret (v := .tuple #[.agg #[.bool false, .slice none 0 0], .agg #[.bool false, .slice none 0 0], .bool false]) (by simp [results, Try.results20, go_sem, x5, x6, x7, x8]) rfl ?_
      exact unhide HG _ (((((unhide HX).setCell (by simp only; omega) _).setCell (by simp only; omega) _).setCell (by simp only; omega) _).setCell (by simp only; omega) _) (by simp; omega)

set_option maxHeartbeats 1000000 in
theorem specBigDiv_no (w : World) (p q : Bool) (u v : Value) (l m : List Int) (hu : Reads w u l) (hv : Reads w v m) (hno : okB p l = true → okB q m = true → m = []) :
    Calls Try.prog 24 #[.agg #[.bool p, u], .agg #[.bool q, v]] w (GivesDiv w 0 0 false) := by
  have CA := hide (fun W (h : Below w.heap.size w W) => l1Ok_any W p u l (hu.later h))
  have CB := hide (fun W (h : Below w.heap.size w W) => l1Ok_any W q v m (hv.later h))
  have HG := hide (noDiv w)
  obtain ⟨ao, b1, off, cap, rfl, hu⟩ := hu
  obtain ⟨ao', b2, off', cap', rfl, hv⟩ := hv
  clear hu hv
  have D0 := DBx.start w p q (.slice ao l.length cap) (.slice ao' m.length cap')
  cases ho : okB p l with
  | false =>
    rw [ho] at CA
    clear ho hno
    go_enter Try.func24, Try.ntmps24
    go_wp2_with fail
    refine (unhide CA _ D0.below).mono ?_
    rintro e w1 ⟨rfl, k1⟩
    have D1 := D0.later k1
    clear k1 D0 CA CB
    obtain ⟨x1, x2, x3, x4, x5, x6, x7, x8, x9, x10, x11, x12, x13, x14⟩ := id D1
    have HX := hide x14
    clear x14
    go_wp2
    refine bodyPost_ret (v := .tuple #[.agg #[.bool false, .slice none 0 0], .agg #[.bool false, .slice none 0 0], .bool false]) (by simp [results, Try.results24, go_sem, x5, x6, x7, x8]) rfl ?_
    exact unhide HG _ (((((unhide HX).setCell (by simp only; omega) _).setCell (by simp only; omega) _).setCell (by simp only; omega) _).setCell (by simp only; omega) _) (by simp; omega)
  | true =>
    rw [ho] at CA
    have hn := hno ho
    clear ho hno
    cases hq : okB q m with
    | false =>
      rw [hq] at CB
      clear hq hn
      go_enter Try.func24, Try.ntmps24
      go_wp2_with fail
      refine (unhide CA _ D0.below).mono ?_
      rintro e w1 ⟨rfl, k1⟩
      have D1 := D0.later k1
      clear k1 D0 CA
      obtain ⟨x1, x2, x3, x4, x5, x6, x7, x8, x9, x10, x11, x12, x13, x14⟩ := id D1
      have HX := hide x14
      clear x14
      go_wp2_with fail
      refine (unhide CB _ (unhide HX)).mono ?_
      rintro e w2 ⟨rfl, k2⟩
      have D2 := D1.later k2
      clear k2 D1 CB HX x1 x2 x3 x4 x5 x6 x7 x8 x9 x10 x11 x12 x13
      obtain ⟨x1, x2, x3, x4, x5, x6, x7, x8, x9, x10, x11, x12, x13, x14⟩ := id D2
      have HX := hide x14
      clear x14
      go_wp2
      refine bodyPost_ret (v := .tuple #[.agg #[.bool false, .slice none 0 0], .agg #[.bool false, .slice none 0 0], .bool false]) (by simp [results, Try.results24, go_sem, x5, x6, x7, x8]) rfl ?_
      exact unhide HG _ (((((unhide HX).setCell (by simp only; omega) _).setCell (by simp only; omega) _).setCell (by simp only; omega) _).setCell (by simp only; omega) _) (by simp; omega)
    | true =>
      have hm := hn hq
      subst hm
      rw [hq] at CB
      clear hq hn
      go_enter Try.func24, Try.ntmps24
      go_wp2_with fail
      refine (unhide CA _ D0.below).mono ?_
      rintro e w1 ⟨rfl, k1⟩
      have D1 := D0.later k1
      clear k1 D0 CA
      obtain ⟨x1, x2, x3, x4, x5, x6, x7, x8, x9, x10, x11, x12, x13, x14⟩ := id D1
      have HX := hide x14
      clear x14
      go_wp2_with fail
      refine (unhide CB _ (unhide HX)).mono ?_
      rintro e w2 ⟨rfl, k2⟩
      have D2 := D1.later k2
      clear k2 D1 CB HX x1 x2 x3 x4 x5 x6 x7 x8 x9 x10 x11 x12 x13
      obtain ⟨x1, x2, x3, x4, x5, x6, x7, x8, x9, x10, x11, x12, x13, x14⟩ := id D2
      have HX := hide x14
      clear x14
      go_wp2
      refine bodyPost_ret (v := .tuple #[.agg #[.bool false, .slice none 0 0], .agg #[.bool false, .slice none 0 0], .bool false]) (by simp [results, Try.results24, go_sem, x5, x6, x7, x8]) rfl ?_
      exact unhide HG _ (((((unhide HX).setCell (by simp only; omega) _).setCell (by simp only; omega) _).setCell (by simp only; omega) _).setCell (by simp only; omega) _) (by simp; omega)

/-- A division of numbers, of the document's program. -/
theorem specDiv_z {W : World} {a b : Int} (ha : (L a.natAbs).length ≤ 16) (hb : (L b.natAbs).length ≤ 16) {u v : Value} (hu : Reads W u (L a.natAbs)) (hv : Reads W v (L b.natAbs)) :
    Calls Try.prog 24 #[.agg #[.bool (sg a), u], .agg #[.bool (sg b), v]] W (GivesDiv W (a.tdiv b) (restZ a b) (decide (b ≠ 0))) := by
  by_cases h : b = 0
  · subst h
    rw [Int.natAbs_zero, L_zero] at hv
    have := specBigDiv_no W (sg a) (sg 0) u v _ _ hu hv (fun _ _ => rfl)
    simpa [restZ] using this
  · rw [decide_eq_true h]
    exact specBigDiv_ok W (sg a) (sg b) u v a.natAbs b.natAbs hu hv (okB_z ha) (okB_z hb) (by omega) ha hb _ _ (zof_quot a b) (by unfold restZ; rw [if_neg h]; exact zof_rest a b)

end Go.Proofs.Ytlmbcicfpidhcaa
