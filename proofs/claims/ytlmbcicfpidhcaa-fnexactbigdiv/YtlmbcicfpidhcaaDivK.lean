/- BigDiv of the program, by a contract. -/
import Derived.Test.YtlmbcicfpidhcaaG11
import Derived.Deep.RegionHeld
namespace Go.Proofs.Ytlmbcicfpidhcaa
open Go.RowKit

/-- The boxes of a division: both numbers, and two answers that stand empty. -/
structure DBx (w W : World) (p q : Bool) (s t : Value) : Prop where
  a0 : W.cell? ⟨w.heap.size, 0, none⟩ = some (.bool p)
  a1 : W.cell? ⟨w.heap.size, 1, none⟩ = some s
  b0 : W.cell? ⟨w.heap.size + 1, 0, none⟩ = some (.bool q)
  b1 : W.cell? ⟨w.heap.size + 1, 1, none⟩ = some t
  c0 : W.cell? ⟨w.heap.size + 1 + 1, 0, none⟩ = some (.bool false)
  c1 : W.cell? ⟨w.heap.size + 1 + 1, 1, none⟩ = some (.slice none 0 0)
  d0 : W.cell? ⟨w.heap.size + 1 + 1 + 1, 0, none⟩ = some (.bool false)
  d1 : W.cell? ⟨w.heap.size + 1 + 1 + 1, 1, none⟩ = some (.slice none 0 0)
  fc0 : W.frozen? ⟨w.heap.size + 1 + 1, 0, none⟩ = false
  fc1 : W.frozen? ⟨w.heap.size + 1 + 1, 1, none⟩ = false
  fd0 : W.frozen? ⟨w.heap.size + 1 + 1 + 1, 0, none⟩ = false
  fd1 : W.frozen? ⟨w.heap.size + 1 + 1 + 1, 1, none⟩ = false
  lt : w.heap.size + 1 + 1 + 1 < W.heap.size
  below : Below w.heap.size w W

theorem DBx.later {w W W' : World} {p q : Bool} {s t : Value} (h : DBx w W p q s t) (b : Below W.heap.size W W') : DBx w W' p q s t :=
  ⟨cell_later b h.a0, cell_later b h.a1, cell_later b h.b0, cell_later b h.b1, cell_later b h.c0, cell_later b h.c1, cell_later b h.d0, cell_later b h.d1,
    frozen_later b h.fc0 (by have := h.lt; omega), frozen_later b h.fc1 (by have := h.lt; omega), frozen_later b h.fd0 h.lt, frozen_later b h.fd1 h.lt, lt_later b h.lt, h.below.trans (b.mono h.below.size)⟩

theorem DBx.start (w : World) (p q : Bool) (s t : Value) :
    DBx w ((((w.alloc (.cells #[.bool p, s] 25)).alloc (.cells #[.bool q, t] 25)).alloc (.cells #[.bool false, .slice none 0 0] 25)).alloc (.cells #[.bool false, .slice none 0 0] 25)) p q s t :=
  ⟨by go_simp, by go_simp, by go_simp, by go_simp, by go_simp, by go_simp, by go_simp, by go_simp, by go_simp, by go_simp, by go_simp, by go_simp, by simp,
    ((((Below.refl _ _).alloc (Nat.le_refl _) _).alloc (by simp) _).alloc (by simp; omega) _).alloc (by simp; omega) _⟩

/-- What a division answers: two numbers of its own, in other blocks, and whether. -/
def GivesDiv (w : World) (Q R : Int) (ok : Bool) (e : Ending) (w' : World) : Prop :=
  ∃ (qo ro : Option Addr) (qc rc Bq Eq Br Er : Nat), e = .returned (.tuple #[.agg #[.bool (sg Q), .slice qo (L Q.natAbs).length qc], .agg #[.bool (sg R), .slice ro (L R.natAbs).length rc], .bool ok]) ∧
    Own Bq w' (.slice qo (L Q.natAbs).length qc) (L Q.natAbs) ∧ Own Br w' (.slice ro (L R.natAbs).length rc) (L R.natAbs) ∧ w.heap.size ≤ Bq ∧ w.heap.size ≤ Br ∧
    (∀ k, (Value.slice qo (L Q.natAbs).length qc).ownBlock = some k → k < Eq) ∧ (∀ k, (Value.slice ro (L R.natAbs).length rc).ownBlock = some k → k < Er) ∧ (Eq ≤ Br ∨ Er ≤ Bq) ∧ Eq ≤ w'.heap.size ∧ Er ≤ w'.heap.size ∧ Below w.heap.size w w'

set_option maxHeartbeats 1000000 in
theorem implBigDiv_ok (w : World) (p q : Bool) (u v : Value) (a b : Nat) (hu : Reads w u (L a)) (hv : Reads w v (L b)) (ho : okB p (L a) = true) (hq : okB q (L b) = true) (hb0 : 0 < b) (ha : a < 10000 ^ 99) (hb : b < 10000 ^ 99)
    (Q R : Int) (hQ : Q = zof (!(p == q)) (a / b)) (hR : R = zof p (a % b)) :
    Calls Try.prog 20 #[.agg #[.bool p, u], .agg #[.bool q, v]] w (GivesDiv w Q R true) := by
  have CA := hide (fun W (h : Below w.heap.size w W) => implBigOk_any W p u (L a) (hu.later h))
  have CB := hide (fun W (h : Below w.heap.size w W) => implBigOk_any W q v (L b) (hv.later h))
  rw [ho] at CA
  rw [hq] at CB
  have CT := hide (fun W (h : Below w.heap.size w W) => through_any W _ _ a b (hu.later h) (hv.later h) hb0 ha hb)
  have HQ := hide hQ
  have HR := hide hR
  clear ha hb hQ hR ho hq
  have hlb : (L b).length ≠ 0 := fun e => by have := L_len_zero.1 e; omega
  have tb : (((L b).length : Int) == 0) = false := by rw [beq_eq_false_iff_ne]; omega
  clear hlb
  obtain ⟨ao, b1, off, cap, rfl, hu⟩ := hu
  obtain ⟨ao', b2, off', cap', rfl, hv⟩ := hv
  have h1 := hu.big
  have h2 := hv.big
  have h3 := hv.le
  unfold maxLen at h1 h2
  clear hu hv
  have D0 := DBx.start w p q (.slice ao (L a).length cap) (.slice ao' (L b).length cap')
  go_enter Try.func20, Try.ntmps20
  go_wp2_with fail
  refine (unhide CA _ D0.below).mono ?_
  rintro e w1 ⟨rfl, k1⟩
  have D1 := D0.later k1
  clear k1 D0 CA
  obtain ⟨x1, x2, x3, x4, x5, x6, x7, x8, x9, x10, x11, x12, x13, x14⟩ := id D1
  have HX := hide x14
  clear x14
  go_wp2_with fail
  refine (unhide CB _ (unhide HX)).mono ?_
  rintro e w2 ⟨rfl, k2⟩
  have D2 := D1.later k2
  clear k2 D1 CB HX x1 x2 x3 x4 x5 x6 x7 x8 x9 x10 x11 x12 x13
  obtain ⟨x1, x2, x3, x4, x5, x6, x7, x8, x9, x10, x11, x12, x13, x14⟩ := id D2
  have HX := hide x14
  clear x14
  go_wp2_with fail
  refine (unhide CT _ (unhide HX)).mono ?_
  rintro e w3 ⟨qo, ro, qc, rc, rfl, oq, eq, or, z3, k3⟩
  have D3 := D2.later k3
  have y2 := D2.lt
  clear k3 D2 CT HX x1 x2 x3 x4 x5 x6 x7 x8 x9 x10 x11 x12 x13
  obtain ⟨x1, x2, x3, x4, x5, x6, x7, x8, x9, x10, x11, x12, x13, x14⟩ := id D3
  have HX := hide x14
  clear x14
  have stab : ∀ w' : World, Below w3.heap.size w3 w' → (w'.cell? ⟨w.heap.size, 0, none⟩ = some (.bool p) ∧ w'.cell? ⟨w.heap.size + 1, 0, none⟩ = some (.bool q)) :=
    fun w' h => ⟨cell_later h x1, cell_later h x3⟩
  have Stab := hide stab
  clear stab x1 x2 x3 x4 x5 x6 x7 x8 x9 x10 x11 x12
  go_wp2_with fail
  go_region_held (fun w' => w'.cell? ⟨w.heap.size, 0, none⟩ = some (.bool p) ∧ w'.cell? ⟨w.heap.size + 1, 0, none⟩ = some (.bool q))
    (first | with_reducible exact unhide Stab _ (Below.refl _ _).drew | with_reducible exact unhide Stab _ BW4 | with_reducible exact unhide Stab _ BW5 | (obtain ⟨s1, s2⟩ := unhide Stab _ BW5; with_reducible exact ⟨cell_set2 s1 (by omega) _ _, cell_set2 s2 (by omega) _ _⟩) | (obtain ⟨s1, s2⟩ := unhide Stab _ BW5; with_reducible exact ⟨cell_set2 (cell_set2 s1 (by omega) _ _) (by omega) _ _, cell_set2 (cell_set2 s2 (by omega) _ _) (by omega) _ _⟩))
    (first
      | (go_at_call_of 54 (Value.slice qo (L (a / b)).length qc); refine (signed_any _ _ qo _ qc).mono ?_; rintro e w4 ⟨he, k4⟩; obtain ⟨qo', qc', e4, o4, bb4⟩ := signed_gives (w := w) (z := Q) (oq.later (Below.refl _ _).drew) (unhide HX).drew k4 (unhide HQ); rw [e4] at he; subst he; have E4 := hide e4; clear e4; have BW4 : Below w3.heap.size w3 w4 := (Below.refl _ _).drew.trans k4; have D4 := D3.later BW4)
      | (go_at_call_of 54 (Value.slice ro (L (a % b)).length rc); refine (signed_any _ _ ro _ rc).mono ?_; rintro e w5 ⟨he, k5⟩; obtain ⟨ro', rc', e5, o5, bb5⟩ := signed_gives (w := w) (z := R) (or.later BW4) bb4 k5 (unhide HR); rw [e5] at he; subst he; have E5 := hide e5; clear e5; have BW5 : Below w3.heap.size w3 w5 := BW4.trans (k5.mono BW4.size); have D5 := D4.later k5; have g5 := D5.c0; have g6 := D5.c1; have g7 := D5.d0; have g8 := D5.d1; have g9 := D5.fc0; have g10 := D5.fc1; have g11 := D5.fd0; have g12 := D5.fd1; have o4' := o4.later k5))
  have hqb : ∀ k, (Value.slice qo' (L Q.natAbs).length qc').ownBlock = some k → k < w2.heap.size + 1 := by
    intro k hk
    have e4 := unhide E4
    by_cases hz : (L (a / b)).length = 0
    · rw [if_pos hz] at e4
      simp only [Value.agg.injEq, Array.mk.injEq, List.cons.injEq, Value.slice.injEq] at e4
      obtain ⟨_, ⟨rfl, _⟩, _⟩ := e4
      simp [Value.ownBlock] at hk
    · rw [if_neg hz] at e4
      simp only [Value.agg.injEq, Array.mk.injEq, List.cons.injEq, Value.slice.injEq] at e4
      obtain ⟨_, ⟨rfl, hn, rfl⟩, _⟩ := e4
      rw [← hn] at hk
      exact eq k hk
  have z5 := BW5.size
  have o5' := o5
  clear E4 E5
  go_wp2
  refine bodyPost_ret (v := .tuple #[.agg #[.bool (sg Q), .slice qo' (L Q.natAbs).length qc'], .agg #[.bool (sg R), .slice ro' (L R.natAbs).length rc'], .bool true]) (by simp [results, Try.results20, go_sem, g5, g6, g7, g8]) rfl ?_
  refine ⟨qo', ro', qc', rc', w2.heap.size, w2.heap.size + 1, w2.heap.size + 1, w5.heap.size, rfl, ?_, ?_, by omega, by omega, hqb, fun k hk => (o5.lt k hk).2, .inl (Nat.le_refl _), ?_, ?_, ?_⟩
  · exact (((o4'.setBelow (by simp only; omega) _).setBelow (by simp only; omega) _).setBelow (by simp only; omega) _).setBelow (by simp only; omega) _
  · exact (((o5'.setBelow (by simp only; omega) _).setBelow (by simp only; omega) _).setBelow (by simp only; omega) _).setBelow (by simp only; omega) _
  · simp; omega
  · simp
  · exact (((bb5.setCell (by simp only; omega) _).setCell (by simp only; omega) _).setCell (by simp only; omega) _).setCell (by simp only; omega) _

end Go.Proofs.Ytlmbcicfpidhcaa
