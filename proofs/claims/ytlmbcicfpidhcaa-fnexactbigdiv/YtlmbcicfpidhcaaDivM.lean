/- BigDiv of the document's program, by a contract. -/
import Derived.Test.YtlmbcicfpidhcaaDivL
import Derived.Test.YtlmbcicfpidhcaaG11
import Derived.Test.YtlmbcicfpidhcaaG15
namespace Go.Proofs.Ytlmbcicfpidhcaa
open Go.RowKit

theorem l1Big_num (W : World) (neg : Bool) (v : Value) (n : Nat) (z : Int) (hz : z = zof neg n) (hl : (L n).length ≤ 16) (hr : Reads W v (L n)) :
    Calls Try.prog 50 #[.bool neg, v] W fun e w' => ∃ (ao : Option Addr) (cap : Nat), e = .returned (.tuple #[.agg #[.bool (sg z), .slice ao (L z.natAbs).length cap], .bool true]) ∧ Own W.heap.size w' (.slice ao (L z.natAbs).length cap) (L z.natAbs) ∧ Below W.heap.size W w' := by
  subst hz
  have hn : n < 10000 ^ 200 := Nat.lt_of_lt_of_le (lt_of_L_len (Nat.le_refl _)) (Nat.pow_le_pow_right (by decide) (by omega))
  have := l1Big_any W neg v (zof neg n) (fun h => zof_sg _ _ h) (by rw [zof_abs]; exact hr) (by rw [zof_abs]; exact hn)
  unfold GivesBig2 outR at this
  rw [if_pos ⟨rfl, by rw [zof_abs]; exact hl⟩] at this
  exact this

theorem len_mono {m n : Nat} (h : m ≤ n) (hl : (L n).length ≤ 16) : (L m).length ≤ 16 :=
  L_len_le (Nat.lt_of_le_of_lt h (lt_of_L_len hl))

set_option maxHeartbeats 1000000 in
theorem specBigDiv_ok (w : World) (p q : Bool) (u v : Value) (a b : Nat) (hu : Reads w u (L a)) (hv : Reads w v (L b)) (ho : okB p (L a) = true) (hq : okB q (L b) = true) (hb0 : 0 < b) (hla : (L a).length ≤ 16) (hlb : (L b).length ≤ 16)
    (Q R : Int) (hQ : Q = zof (!(p == q)) (a / b)) (hR : R = zof p (a % b)) :
    Calls Try.prog 24 #[.agg #[.bool p, u], .agg #[.bool q, v]] w (GivesDiv w Q R true) := by
  have ha : a < 10000 ^ 100 := Nat.lt_of_lt_of_le (lt_of_L_len hla) (Nat.pow_le_pow_right (by decide) (by decide))
  have hb : b < 10000 ^ 100 := Nat.lt_of_lt_of_le (lt_of_L_len hlb) (Nat.pow_le_pow_right (by decide) (by decide))
  have CA := hide (fun W (h : Below w.heap.size w W) => l1Ok_any W p u (L a) (hu.later h))
  have CB := hide (fun W (h : Below w.heap.size w W) => l1Ok_any W q v (L b) (hv.later h))
  rw [ho] at CA
  rw [hq] at CB
  have CT := hide (fun W (h : Below w.heap.size w W) => l1DivAbs_any W _ _ a b (hu.later h) (hv.later h) hb0 ha hb)
  have CQ := hide (fun W s (h : Reads W s (L (a / b))) => l1Big_num W (!(p == q)) s (a / b) Q hQ (len_mono (Nat.div_le_self a b) hla) h)
  have CR := hide (fun W s (h : Reads W s (L (a % b))) => l1Big_num W p s (a % b) R hR (len_mono (Nat.mod_le a b) hla) h)
  clear ha hb hQ hR ho hq hla hlb
  have hlb : (L b).length ≠ 0 := fun e => by have := L_len_zero.1 e; omega
  have tb : (((L b).length : Int) == 0) = false := by rw [beq_eq_false_iff_ne]; omega
  clear hlb
  obtain ⟨ao, b1, off, cap, rfl, hu⟩ := hu
  obtain ⟨ao', b2, off', cap', rfl, hv⟩ := hv
  have h1 := hu.big
  have h2 := hv.big
  have h3 := hv.le
  unfold maxLen at h1 h2
  clear hu hv
  have D0 := DBx.start w p q (.slice ao (L a).length cap) (.slice ao' (L b).length cap')
  go_enter Try.func24, Try.ntmps24
  go_wp2_with fail
  refine (unhide CA _ D0.below).mono ?_
  rintro e w1 ⟨rfl, k1⟩
  have D1 := D0.later k1
  clear k1 D0 CA
  obtain ⟨x1, x2, x3, x4, x5, x6, x7, x8, x9, x10, x11, x12, x13, x14⟩ := id D1
  have HX := hide x14
  clear x14
  go_wp2_with fail
  refine (unhide CB _ (unhide HX)).mono ?_
  rintro e w2 ⟨rfl, k2⟩
  have D2 := D1.later k2
  clear k2 D1 CB HX x1 x2 x3 x4 x5 x6 x7 x8 x9 x10 x11 x12 x13
  obtain ⟨x1, x2, x3, x4, x5, x6, x7, x8, x9, x10, x11, x12, x13, x14⟩ := id D2
  have HX := hide x14
  clear x14
  go_wp2_with fail
  refine (unhide CT _ (unhide HX)).mono ?_
  rintro e w3 ⟨qo, ro, qc, rc, B, rfl, hB, oq, or, lr, k3⟩
  have D3 := D2.later k3
  have y2 := D2.lt
  clear k3 D2 CT HX x1 x2 x3 x4 x5 x6 x7 x8 x9 x10 x11 x12 x13
  obtain ⟨x1, x2, x3, x4, x5, x6, x7, x8, x9, x10, x11, x12, x13, x14⟩ := id D3
  have HX := hide x14
  clear x14
  go_wp2_with fail
  refine (unhide CQ _ _ oq.reads).mono ?_
  rintro e w4 ⟨qo', qc', rfl, o4, k4⟩
  have al4 : ∀ o, Below w4.heap.size w4 (w4.alloc o) := fun o => (Below.refl _ _).alloc (Nat.le_refl _) o
  have D4 := (D3.later k4).later (al4 (.cells #[.bool (sg Q), .slice qo' (L Q.natAbs).length qc'] 25))
  have z4 := k4.size
  have or4 := (or.reads.later k4).later (al4 (.cells #[.bool (sg Q), .slice qo' (L Q.natAbs).length qc'] 25))
  have o4' := o4.later (al4 (.cells #[.bool (sg Q), .slice qo' (L Q.natAbs).length qc'] 25))
  have c0 : (w4.alloc (.cells #[.bool (sg Q), .slice qo' (L Q.natAbs).length qc'] 25)).cell? ⟨w4.heap.size, 0, none⟩ = some (.bool (sg Q)) := by go_simp
  have c1 : (w4.alloc (.cells #[.bool (sg Q), .slice qo' (L Q.natAbs).length qc'] 25)).cell? ⟨w4.heap.size, 1, none⟩ = some (.slice qo' (L Q.natAbs).length qc') := by go_simp
  have lq := fun k hk => (o4.lt k hk).2
  have C0 := hide c0
  have C1 := hide c1
  clear c0 c1 k4 al4 oq or o4 lr hB CQ HX D3 x1 x2 x3 x4 x5 x6 x7 x8 x9 x10 x11 x12
  obtain ⟨x1, x2, x3, x4, x5, x6, x7, x8, x9, x10, x11, x12, x15, x14⟩ := id D4
  have HX := hide x14
  clear x14
  go_wp2_with fail
  refine (unhide CR _ _ or4).mono ?_
  rintro e w5 ⟨ro', rc', rfl, o5, k5⟩
  have al5 : ∀ o, Below w5.heap.size w5 (w5.alloc o) := fun o => (Below.refl _ _).alloc (Nat.le_refl _) o
  have D5 := (D4.later k5).later (al5 (.cells #[.bool (sg R), .slice ro' (L R.natAbs).length rc'] 25))
  have z5 := k5.size
  simp only [World.size_alloc] at z5
  have o4'' := (o4'.later k5).later (al5 (.cells #[.bool (sg R), .slice ro' (L R.natAbs).length rc'] 25))
  have o5' := o5.later (al5 (.cells #[.bool (sg R), .slice ro' (L R.natAbs).length rc'] 25))
  have g0 := cell_later (al5 (.cells #[.bool (sg R), .slice ro' (L R.natAbs).length rc'] 25)) (cell_later k5 (unhide C0))
  have g1 := cell_later (al5 (.cells #[.bool (sg R), .slice ro' (L R.natAbs).length rc'] 25)) (cell_later k5 (unhide C1))
  have lr := fun k hk => (o5.lt k hk).2
  clear k5 al5 o5 o4' or4 CR HX D4 C0 C1 x1 x2 x3 x4 x5 x6 x7 x8 x9 x10 x11 x12 x15
  obtain ⟨x1, x2, x3, x4, x5, x6, x7, x8, x9, x10, x11, x12, x15, x14⟩ := id D5
  have HX := hide x14
  clear x14
  have g2 : (w5.alloc (.cells #[.bool (sg R), .slice ro' (L R.natAbs).length rc'] 25)).cell? ⟨w5.heap.size, 0, none⟩ = some (.bool (sg R)) := by go_simp
  have g3 : (w5.alloc (.cells #[.bool (sg R), .slice ro' (L R.natAbs).length rc'] 25)).cell? ⟨w5.heap.size, 1, none⟩ = some (.slice ro' (L R.natAbs).length rc') := by go_simp
  have z6 : (w5.alloc (.cells #[.bool (sg R), .slice ro' (L R.natAbs).length rc'] 25)).heap.size = w5.heap.size + 1 := World.size_alloc _ _
  have Z6 := hide z6
  clear z6
  simp only [World.size_alloc] at o5' x15
  go_wp2_with fail
  generalize w5.alloc (.cells #[.bool (sg R), .slice ro' (L R.natAbs).length rc'] 25) = W0 at *
  have d1 : ¬ (w4.heap.size = w.heap.size + 1 + 1) := by omega
  have d2 : ¬ (w4.heap.size = w.heap.size + 1 + 1 + 1) := by omega
  have d3 : ¬ (w5.heap.size = w.heap.size + 1 + 1) := by omega
  have d4 : ¬ (w5.heap.size = w.heap.size + 1 + 1 + 1) := by omega
  go_region
  all_goals
    go_wp2
    have z6 := unhide Z6
    refine bodyPost_ret (v := .tuple #[.agg #[.bool (sg Q), .slice qo' (L Q.natAbs).length qc'], .agg #[.bool (sg R), .slice ro' (L R.natAbs).length rc'], .bool true]) (by simp [results, Try.results24, go_sem, x5, x6, x7, x8]) rfl ?_
    refine ⟨qo', ro', qc', rc', w3.heap.size, w4.heap.size, w4.heap.size + 1, w5.heap.size, rfl, ?_, ?_, by omega, by omega, lq, lr, .inl (Nat.le_succ _), ?_, ?_, ?_⟩
    · exact (((o4''.setBelow (by simp only; omega) _).setBelow (by simp only; omega) _).setBelow (by simp only; omega) _).setBelow (by simp only; omega) _
    · exact (((o5'.setBelow (by simp only; omega) _).setBelow (by simp only; omega) _).setBelow (by simp only; omega) _).setBelow (by simp only; omega) _
    · simp; omega
    · simp; omega
    · exact (((((unhide HX).setCell (by simp only; omega) _).setCell (by simp only; omega) _).setCell (by simp only; omega) _).setCell (by simp only; omega) _).drew

end Go.Proofs.Ytlmbcicfpidhcaa
