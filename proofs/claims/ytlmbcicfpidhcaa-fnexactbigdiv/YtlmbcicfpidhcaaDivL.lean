/- BigDiv of the program at numbers that are ok; jtZero; numbers by their signs and limbs. -/
import Derived.Test.YtlmbcicfpidhcaaJtZ
import Derived.Test.YtlmbcicfpidhcaaDivK
import Derived.Test.YtlmbcicfpidhcaaG06
import Derived.Test.YtlmbcicfpidhcaaG04
import Derived.Test.YtlmbcicfpidhcaaDrawB
namespace Go.Proofs.Ytlmbcicfpidhcaa
open Go.RowKit


theorem small_z {a : Int} (h : (L a.natAbs).length ≤ 16) : a.natAbs < 10000 ^ 99 :=
  Nat.lt_of_lt_of_le (lt_of_L_len (Nat.le_refl _)) (Nat.pow_le_pow_right (by decide) (by omega))

theorem zof_quot (a b : Int) : a.tdiv b = zof (!(sg a == sg b)) (a.natAbs / b.natAbs) := by
  have z0 : ∀ g, zof g 0 = 0 := fun g => by unfold zof; split <;> rfl
  have pos : ∀ m n : Nat, (m : Int).tdiv n = ((m / n : Nat) : Int) := fun m n => by rw [Int.tdiv_eq_ediv_of_nonneg (by omega)]; simp
  obtain ⟨m, hm⟩ := Int.eq_nat_or_neg a
  obtain ⟨n, hn⟩ := Int.eq_nat_or_neg b
  by_cases m0 : m = 0
  · have : a = 0 := by omega
    subst this
    simp [z0]
  by_cases n0 : n = 0
  · have : b = 0 := by omega
    subst this
    simp [z0]
  have hma : a.natAbs = m := by omega
  have hnb : b.natAbs = n := by omega
  rw [hma, hnb]
  unfold zof sg
  rcases hm with rfl | rfl <;> rcases hn with rfl | rfl
  · have h1 : ¬ (m : Int) < 0 := by omega
    have h2 : ¬ (n : Int) < 0 := by omega
    rw [decide_eq_false h1, decide_eq_false h2, pos]; simp
  · have h1 : ¬ (m : Int) < 0 := by omega
    have h2 : -(n : Int) < 0 := by omega
    rw [decide_eq_false h1, decide_eq_true h2, Int.tdiv_neg, pos]; simp
  · have h1 : -(m : Int) < 0 := by omega
    have h2 : ¬ (n : Int) < 0 := by omega
    rw [decide_eq_true h1, decide_eq_false h2, Int.neg_tdiv, pos]; simp
  · have h1 : -(m : Int) < 0 := by omega
    have h2 : -(n : Int) < 0 := by omega
    rw [decide_eq_true h1, decide_eq_true h2, Int.neg_tdiv, Int.tdiv_neg, pos]; simp

theorem zof_rest (a b : Int) : a.tmod b = zof (sg a) (a.natAbs % b.natAbs) := by
  have h1 : (a.tmod b).natAbs = a.natAbs % b.natAbs := Int.natAbs_tmod a b
  unfold zof sg
  rcases Int.lt_or_le a 0 with ha | ha
  · have h2 : a.tmod b ≤ 0 := by
      have e : a.tmod b = -((-a).tmod b) := by rw [Int.neg_tmod]; simp
      have := Int.tmod_nonneg b (show 0 ≤ -a by omega)
      omega
    simp [ha]
    omega
  · have h2 := Int.tmod_nonneg b ha
    have ha' : ¬ a < 0 := by omega
    simp [ha']
    omega

/-- A division by 0 answers nothing. -/
theorem implBigDiv_zero (w : World) (p q : Bool) (u v : Value) (l : List Int) (hu : Reads w u l) (hv : Reads w v []) :
    Calls Try.prog 20 #[.agg #[.bool p, u], .agg #[.bool q, v]] w (GivesDiv w 0 0 false) := by
  have CA := hide (fun W (h : Below w.heap.size w W) => implBigOk_any W p u l (hu.later h))
  have CB := hide (fun W (h : Below w.heap.size w W) => implBigOk_any W q v [] (hv.later h))
  have hG : ∀ W', Below w.heap.size w W' → w.heap.size ≤ W'.heap.size → GivesDiv w 0 0 false (.returned (.tuple #[.agg #[.bool false, .slice none 0 0], .agg #[.bool false, .slice none 0 0], .bool false])) W' := fun W' h hs =>
    ⟨none, none, 0, 0, w.heap.size, w.heap.size, w.heap.size, w.heap.size, by simp [L_zero, sg], by simp only [Int.natAbs_zero, L_zero]; exact Own.nil _ _, by simp only [Int.natAbs_zero, L_zero]; exact Own.nil _ _, Nat.le_refl _, Nat.le_refl _, fun k hk => by simp [Value.ownBlock] at hk, fun k hk => by simp [Value.ownBlock] at hk, .inl (Nat.le_refl _), hs, hs, h⟩
  have HG := hide hG
  clear hG
  obtain ⟨ao, b1, off, cap, rfl, hu⟩ := hu
  obtain ⟨ao', b2, off', cap', rfl, hv⟩ := hv
  clear hu hv
  have D0 := DBx.start w p q (.slice ao l.length cap) (.slice ao' 0 cap')
  cases ho : okB p l with
  | false =>
    rw [ho] at CA
    clear ho
    go_enter Try.func20, Try.ntmps20
    go_wp2_with fail
    refine (unhide CA _ D0.below).mono ?_
    rintro e w1 ⟨rfl, k1⟩
    have D1 := D0.later k1
    clear k1 D0 CA CB
    obtain ⟨x1, x2, x3, x4, x5, x6, x7, x8, x9, x10, x11, x12, x13, x14⟩ := id D1
    have HX := hide x14
    clear x14
    go_wp2
    refine bodyPost_ret (v := .tuple #[.agg #[.bool false, .slice none 0 0], .agg #[.bool false, .slice none 0 0], .bool false]) (by simp [results, Try.results20, go_sem, x5, x6, x7, x8]) rfl ?_
    exact unhide HG _ (((((unhide HX).setCell (by simp only; omega) _).setCell (by simp only; omega) _).setCell (by simp only; omega) _).setCell (by simp only; omega) _) (by simp; omega)
  | true =>
    rw [ho] at CA
    clear ho
    go_enter Try.func20, Try.ntmps20
    go_wp2_with fail
    refine (unhide CA _ D0.below).mono ?_
    rintro e w1 ⟨rfl, k1⟩
    have D1 := D0.later k1
    clear k1 D0 CA
    obtain ⟨x1, x2, x3, x4, x5, x6, x7, x8, x9, x10, x11, x12, x13, x14⟩ := id D1
    have HX := hide x14
    clear x14
    generalize okB q [] = oq at CB
    go_wp2_with fail
    refine (unhide CB _ (unhide HX)).mono ?_
    rintro e w2 ⟨rfl, k2⟩
    have D2 := D1.later k2
    clear k2 D1 CB HX x1 x2 x3 x4 x5 x6 x7 x8 x9 x10 x11 x12 x13
    obtain ⟨x1, x2, x3, x4, x5, x6, x7, x8, x9, x10, x11, x12, x13, x14⟩ := id D2
    have HX := hide x14
    clear x14
    cases oq
    · go_wp2
      refine bodyPost_ret (v := .tuple #[.agg #[.bool false, .slice none 0 0], .agg #[.bool false, .slice none 0 0], .bool false]) (by simp [results, Try.results20, go_sem, x5, x6, x7, x8]) rfl ?_
      exact unhide HG _ (((((unhide HX).setCell (by simp only; omega) _).setCell (by simp only; omega) _).setCell (by simp only; omega) _).setCell (by simp only; omega) _) (by simp; omega)
    · go_wp2
      refine bodyPost_ret (v := .tuple #[.agg #[.bool false, .slice none 0 0], .agg #[.bool false, .slice none 0 0], .bool false]) (by simp [results, Try.results20, go_sem, x5, x6, x7, x8]) rfl ?_
      exact unhide HG _ (((((unhide HX).setCell (by simp only; omega) _).setCell (by simp only; omega) _).setCell (by simp only; omega) _).setCell (by simp only; omega) _) (by simp; omega)

/-- What a division of numbers leaves. -/
def restZ (a b : Int) : Int := if b = 0 then 0 else a.tmod b

theorem implDiv_z {W : World} {a b : Int} (ha : (L a.natAbs).length ≤ 16) (hb : (L b.natAbs).length ≤ 16) {u v : Value} (hu : Reads W u (L a.natAbs)) (hv : Reads W v (L b.natAbs)) :
    Calls Try.prog 20 #[.agg #[.bool (sg a), u], .agg #[.bool (sg b), v]] W (GivesDiv W (a.tdiv b) (restZ a b) (decide (b ≠ 0))) := by
  by_cases h : b = 0
  · subst h
    rw [Int.natAbs_zero, L_zero] at hv
    have := implBigDiv_zero W (sg a) (sg 0) u v _ hu hv
    simpa [restZ] using this
  · rw [decide_eq_true h]
    exact implBigDiv_ok W (sg a) (sg b) u v a.natAbs b.natAbs hu hv (okB_z ha) (okB_z hb) (by omega) (small_z ha) (small_z hb) _ _ (zof_quot a b) (by unfold restZ; rw [if_neg h]; exact zof_rest a b)

end Go.Proofs.Ytlmbcicfpidhcaa
