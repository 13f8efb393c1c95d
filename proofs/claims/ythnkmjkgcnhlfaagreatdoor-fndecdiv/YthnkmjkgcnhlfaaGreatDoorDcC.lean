/- DecCmp of the program and of the specification, by contracts. -/
import Derived.Test.YthnkmjkgcnhlfaaGreatDoorDcR
import Derived.Test.YthnkmjkgcnhlfaaGreatDoorH13
import Derived.Test.YthnkmjkgcnhlfaaGreatDoorH16
import Derived.Test.YthnkmjkgcnhlfaaGreatDoorH03
import Derived.Test.YthnkmjkgcnhlfaaGreatDoorEbS
import Derived.Deep.RegionHeld
import Derived.Deep.RegionHeld3
import Derived.Deep.DeepCutAuto
namespace Go.Proofs.YthnkmjkgcnhlfaaGreatDoor
open Go.RowKit
set_option maxRecDepth 100000

/-- Two decimals in their boxes. -/
structure Dx2 (w0 w' : World) (p : Bool) (u : Value) (s : Int) (q : Bool) (v : Value) (t : Int) : Prop where
  below : Below w0.heap.size w0 w'
  a0 : w'.cell? ⟨w0.heap.size, 0, none⟩ = some (.bool p)
  a1 : w'.cell? ⟨w0.heap.size, 1, none⟩ = some u
  a2 : w'.cell? ⟨w0.heap.size, 2, none⟩ = some (.int .i64 s)
  b0 : w'.cell? ⟨w0.heap.size + 1, 0, none⟩ = some (.bool q)
  b1 : w'.cell? ⟨w0.heap.size + 1, 1, none⟩ = some v
  b2 : w'.cell? ⟨w0.heap.size + 1, 2, none⟩ = some (.int .i64 t)

theorem Dx2.later {w0 w w' : World} {p q : Bool} {u v : Value} {s t : Int} (h : Dx2 w0 w p u s q v t) (k : Below w.heap.size w w') : Dx2 w0 w' p u s q v t :=
  ⟨h.below.trans (k.mono h.below.size), cell_later k h.a0, cell_later k h.a1, cell_later k h.a2, cell_later k h.b0, cell_later k h.b1, cell_later k h.b2⟩

theorem Dx2.start (w : World) (p q : Bool) (u v : Value) (s t : Int) : Dx2 w ((w.alloc (.cells #[.bool p, u, .int .i64 s] 27)).alloc (.cells #[.bool q, v, .int .i64 t] 27)) p u s q v t :=
  ⟨((Below.refl _ _).alloc (Nat.le_refl _) _).alloc (by simp) _, by go_simp, by go_simp, by go_simp, by go_simp, by go_simp, by go_simp⟩

/-- What DecCmp answers. -/
def dcmpR (p : Bool) (l : List Int) (s : Int) (q : Bool) (m : List Int) (t : Int) : Int :=
  if decB p l s = true ∧ decB q m t = true then cmpZ (zof p ((val l).toNat * 10 ^ (t - s).toNat)) (zof q ((val m).toNat * 10 ^ (s - t).toNat)) else 2

-- TAIL
theorem sg_times {p : Bool} {a k : Nat} (h : p = sg (zof p a)) : p = sg (zof p (a * 10 ^ k)) := by
  have hp : 0 < 10 ^ k := Nat.pow_pos (by decide)
  have hz : 0 < a → 0 < a * 10 ^ k := fun h => Nat.mul_pos h hp
  generalize a * 10 ^ k = n at *
  unfold sg zof at *
  cases p
  · rw [if_neg (by simp), eq_comm, decide_eq_false_iff_not]; omega
  · rw [if_pos rfl, eq_comm, decide_eq_true_iff] at *
    omega

set_option maxHeartbeats 4000000 in
theorem l2Cmp_any (w : World) (p q : Bool) (u v : Value) (a b s t : Nat) (hu : Reads w u (L a)) (hv : Reads w v (L b)) (hs : s ≤ 12) (ht : t ≤ 12) (ha : a < 10000 ^ 16) (hb : b < 10000 ^ 16) (hp : p = sg (zof p a)) (hq : q = sg (zof q b)) :
    Calls Tryz.prog 77 #[.agg #[.bool p, u, .int .i64 s], .agg #[.bool q, v, .int .i64 t]] w fun e w' => e = .returned (.int .i64 (cmpZ (zof p (a * 10 ^ (t - s))) (zof q (b * 10 ^ (s - t))))) ∧ Below w.heap.size w w' := by
  obtain ⟨m, hm⟩ : ∃ m : Nat, max (s : Int) (t : Int) = m := ⟨max s t, by omega⟩
  have CG := hide (fun W => l2Greater_any W s t)
  rw [hm] at CG
  have CA := hide (fun W (h : Below w.heap.size w W) => l2At_any W p u a s m (hu.later h) (by omega) (by omega) (pow16 ha (by decide)))
  have CB := hide (fun W (h : Below w.heap.size w W) => l2At_any W q v b t m (hv.later h) (by omega) (by omega) (pow16 hb (by decide)))
  rw [show m - s = t - s by omega] at CA
  rw [show m - t = s - t by omega] at CB
  have CC := hide (fun W x y (hx : Reads W x (L (a * 10 ^ (t - s)))) (hy : Reads W y (L (b * 10 ^ (s - t)))) => l1Cmp_any W p q x y _ _ hx hy (sg_times hp) (sg_times hq))
  generalize a * 10 ^ (t - s) = A at *
  generalize b * 10 ^ (s - t) = B at *
  generalize cmpZ (zof p A) (zof q B) = Z at *
  clear hp hq hm ha hb hs ht
  obtain ⟨ao, b1, off, cap, rfl, hu0⟩ := id hu
  obtain ⟨ao', b2, off', cap', rfl, hv0⟩ := id hv
  clear hu0 hv0 hu hv
  have S0 : Stt w ((w.alloc (.cells #[.bool p, .slice ao (L a).length cap, .int .i64 s] 27)).alloc (.cells #[.bool q, .slice ao' (L b).length cap', .int .i64 t] 27)) [(w.heap.size, 0, .bool p), (w.heap.size, 1, .slice ao (L a).length cap), (w.heap.size, 2, .int .i64 s), (w.heap.size + 1, 0, .bool q), (w.heap.size + 1, 1, .slice ao' (L b).length cap'), (w.heap.size + 1, 2, .int .i64 t)] [] := by
    have K := Dx2.start w p q (.slice ao (L a).length cap) (.slice ao' (L b).length cap') s t
    refine ⟨K.below, fun c hc => ?_, by simp⟩
    simp only [List.mem_cons, List.not_mem_nil, or_false] at hc
    rcases hc with rfl | rfl | rfl | rfl | rfl | rfl
    · exact K.a0
    · exact K.a1
    · exact K.a2
    · exact K.b0
    · exact K.b1
    · exact K.b2
  go_enter Tryz.func77, Tryz.ntmps77
  go_wp2_with fail
  refine (unhide CG _).mono ?_
  rintro e w1 ⟨rfl, rfl⟩
  generalize ((w.alloc (.cells #[.bool p, .slice ao (L a).length cap, .int .i64 s] 27)).alloc (.cells #[.bool q, .slice ao' (L b).length cap', .int .i64 t] 27)) = W0 at *
  go_wp2
  have staba : ∀ w' : World, Below W0.heap.size W0 w' → ((w'.cell? ⟨w.heap.size, 0, none⟩ = some (.bool p) ∧ w'.cell? ⟨w.heap.size, 1, none⟩ = some (.slice ao (L a).length cap) ∧ w'.cell? ⟨w.heap.size, 2, none⟩ = some (.int .i64 s)) ∧ Below W0.heap.size W0 w') := fun w' h => ⟨⟨(S0.later h).cells (w.heap.size, 0, .bool p) (by simp), (S0.later h).cells (w.heap.size, 1, .slice ao (L a).length cap) (by simp), (S0.later h).cells (w.heap.size, 2, .int .i64 s) (by simp)⟩, h⟩
  have hBa : ∀ X : World, ((X.cell? ⟨w.heap.size, 0, none⟩ = some (.bool p) ∧ X.cell? ⟨w.heap.size, 1, none⟩ = some (.slice ao (L a).length cap) ∧ X.cell? ⟨w.heap.size, 2, none⟩ = some (.int .i64 s)) ∧ Below W0.heap.size W0 X) → Below W0.heap.size W0 X := fun X h => h.2
  have Staba := hide staba
  have HBa := hide hBa
  clear staba hBa
  have za0 : W0.cell? ⟨w.heap.size, 0, none⟩ = some (.bool p) := S0.cells (w.heap.size, 0, .bool p) (by simp)
  have za1 : W0.cell? ⟨w.heap.size, 1, none⟩ = some (.slice ao (L a).length cap) := S0.cells (w.heap.size, 1, .slice ao (L a).length cap) (by simp)
  have za2 : W0.cell? ⟨w.heap.size, 2, none⟩ = some (.int .i64 s) := S0.cells (w.heap.size, 2, .int .i64 s) (by simp)
  go_cut [6] (fun sp wk => ∃ (nB Bf Et : Nat) (ab : Option Addr) (cb : Nat), sp = .pointer (some ⟨nB, 0, none⟩) ∧ Stt w wk ([(w.heap.size, 0, .bool p), (w.heap.size, 1, .slice ao (L a).length cap), (w.heap.size, 2, .int .i64 s), (w.heap.size + 1, 0, .bool q), (w.heap.size + 1, 1, .slice ao' (L b).length cap'), (w.heap.size + 1, 2, .int .i64 t)] ++ [(nB, 0, .bool p), (nB, 1, .slice ab (L A).length cb)]) (([] : List (Nat × Nat × Value × List Int)) ++ [(Bf, Et, .slice ab (L A).length cb, L A)]))
  case first =>
    go_region_held (fun w' => (w'.cell? ⟨w.heap.size, 0, none⟩ = some (.bool p) ∧ w'.cell? ⟨w.heap.size, 1, none⟩ = some (.slice ao (L a).length cap) ∧ w'.cell? ⟨w.heap.size, 2, none⟩ = some (.int .i64 s)) ∧ Below W0.heap.size W0 w')
      (first | with_reducible exact unhide Staba _ (Below.refl _ _).drew | with_reducible exact unhide Staba _ ((Below.refl _ _).alloc (Nat.le_refl _) _).drew | (refine unhide Staba _ ?_; assumption) | (refine unhide Staba _ (Below.alloc (unhide HBa _ ?_) (Below.size (unhide HBa _ ?_)) _) <;> assumption) | exact unhide Staba _ (BW5.alloc BW5.size _) | exact unhide Staba _ ((BW5.setCell (Nat.le_refl _) _).setCell (Nat.le_refl _) _))
      (first
        | (go_at_call 90; refine (unhide CA _ ?_).mono ?_; exact S0.below.trans ((unhide HBa _ (by assumption)).mono S0.below.size); rintro e w5 ⟨ab, cb, rfl, o5, b5⟩; have S5 := (S0.later (unhide HBa _ (by assumption))).own b5 o5; have BW5 : Below W0.heap.size W0 w5 := (unhide HBa _ (by assumption)).trans (b5.mono (unhide HBa _ (by assumption)).size); (try (have E5 := EBox.drew b5; obtain ⟨e0, e1, e2, e3, e4⟩ := id E5))))
    all_goals
      go_wp2
      go_meet
      case rel => first
        | exact ⟨_, _, _, ab, cb, rfl, (S5.box (.bool p) (.slice ab (L A).length cb) _)⟩
        | exact ⟨_, _, _, ab, cb, rfl, S0.fill S5 E5 (Nat.le_refl _) (EBox.new _).lt _ _⟩
  case rest =>
  obtain ⟨nX, Bx, Ex, ax, cx, rfl, S1⟩ := hcut
  simp only [List.nil_append, List.cons_append] at S1
  clear S0 Staba HBa za0 za1 za2 CA
  generalize wc = W1 at *
  go_wp2
  have stabb : ∀ w' : World, Below W1.heap.size W1 w' → ((w'.cell? ⟨w.heap.size + 1, 0, none⟩ = some (.bool q) ∧ w'.cell? ⟨w.heap.size + 1, 1, none⟩ = some (.slice ao' (L b).length cap') ∧ w'.cell? ⟨w.heap.size + 1, 2, none⟩ = some (.int .i64 t)) ∧ Below W1.heap.size W1 w') := fun w' h => ⟨⟨(S1.later h).cells (w.heap.size + 1, 0, .bool q) (by simp), (S1.later h).cells (w.heap.size + 1, 1, .slice ao' (L b).length cap') (by simp), (S1.later h).cells (w.heap.size + 1, 2, .int .i64 t) (by simp)⟩, h⟩
  have hBb : ∀ X : World, ((X.cell? ⟨w.heap.size + 1, 0, none⟩ = some (.bool q) ∧ X.cell? ⟨w.heap.size + 1, 1, none⟩ = some (.slice ao' (L b).length cap') ∧ X.cell? ⟨w.heap.size + 1, 2, none⟩ = some (.int .i64 t)) ∧ Below W1.heap.size W1 X) → Below W1.heap.size W1 X := fun X h => h.2
  have Stabb := hide stabb
  have HBb := hide hBb
  clear stabb hBb
  have zb0 : W1.cell? ⟨w.heap.size + 1, 0, none⟩ = some (.bool q) := S1.cells (w.heap.size + 1, 0, .bool q) (by simp)
  have zb1 : W1.cell? ⟨w.heap.size + 1, 1, none⟩ = some (.slice ao' (L b).length cap') := S1.cells (w.heap.size + 1, 1, .slice ao' (L b).length cap') (by simp)
  have zb2 : W1.cell? ⟨w.heap.size + 1, 2, none⟩ = some (.int .i64 t) := S1.cells (w.heap.size + 1, 2, .int .i64 t) (by simp)
  go_cut [7] (fun sp wk => ∃ (nB Bf Et : Nat) (ab : Option Addr) (cb : Nat), sp = .pointer (some ⟨nB, 0, none⟩) ∧ Stt w wk ([(w.heap.size, 0, .bool p), (w.heap.size, 1, .slice ao (L a).length cap), (w.heap.size, 2, .int .i64 s), (w.heap.size + 1, 0, .bool q), (w.heap.size + 1, 1, .slice ao' (L b).length cap'), (w.heap.size + 1, 2, .int .i64 t), (nX, 0, .bool p), (nX, 1, .slice ax (L A).length cx)] ++ [(nB, 0, .bool q), (nB, 1, .slice ab (L B).length cb)]) ([(Bx, Ex, .slice ax (L A).length cx, L A)] ++ [(Bf, Et, .slice ab (L B).length cb, L B)]))
  case first =>
    go_region_held (fun w' => (w'.cell? ⟨w.heap.size + 1, 0, none⟩ = some (.bool q) ∧ w'.cell? ⟨w.heap.size + 1, 1, none⟩ = some (.slice ao' (L b).length cap') ∧ w'.cell? ⟨w.heap.size + 1, 2, none⟩ = some (.int .i64 t)) ∧ Below W1.heap.size W1 w')
      (first | with_reducible exact unhide Stabb _ (Below.refl _ _).drew | with_reducible exact unhide Stabb _ ((Below.refl _ _).alloc (Nat.le_refl _) _).drew | (refine unhide Stabb _ ?_; assumption) | (refine unhide Stabb _ (Below.alloc (unhide HBb _ ?_) (Below.size (unhide HBb _ ?_)) _) <;> assumption) | exact unhide Stabb _ (BW5.alloc BW5.size _) | exact unhide Stabb _ ((BW5.setCell (Nat.le_refl _) _).setCell (Nat.le_refl _) _))
      (first
        | (go_at_call 90; refine (unhide CB _ ?_).mono ?_; exact S1.below.trans ((unhide HBb _ (by assumption)).mono S1.below.size); rintro e w5 ⟨ab, cb, rfl, o5, b5⟩; have S5 := (S1.later (unhide HBb _ (by assumption))).own b5 o5; have BW5 : Below W1.heap.size W1 w5 := (unhide HBb _ (by assumption)).trans (b5.mono (unhide HBb _ (by assumption)).size); (try (have E5 := EBox.drew b5; obtain ⟨e0, e1, e2, e3, e4⟩ := id E5))))
    all_goals
      go_wp2
      go_meet
      case rel => first
        | exact ⟨_, _, _, ab, cb, rfl, (S5.box (.bool q) (.slice ab (L B).length cb) _)⟩
        | exact ⟨_, _, _, ab, cb, rfl, S1.fill S5 E5 (Nat.le_refl _) (EBox.new _).lt _ _⟩
  case rest =>
  obtain ⟨nY, By, Ey, ay, cy, rfl, S2⟩ := hcut
  simp only [List.nil_append, List.cons_append] at S2
  clear S1 Stabb HBb zb0 zb1 zb2 CB
  have x0 : wc.cell? ⟨nX, 0, none⟩ = some (.bool p) := S2.cells (nX, 0, .bool p) (by simp)
  have x1 : wc.cell? ⟨nX, 1, none⟩ = some (.slice ax (L A).length cx) := S2.cells (nX, 1, .slice ax (L A).length cx) (by simp)
  have y0 : wc.cell? ⟨nY, 0, none⟩ = some (.bool q) := S2.cells (nY, 0, .bool q) (by simp)
  have y1 : wc.cell? ⟨nY, 1, none⟩ = some (.slice ay (L B).length cy) := S2.cells (nY, 1, .slice ay (L B).length cy) (by simp)
  go_wp2_with fail
  refine (unhide CC wc _ _ (S2.owns (Bx, Ex, .slice ax (L A).length cx, L A) (by simp)).1.reads (S2.owns (By, Ey, .slice ay (L B).length cy, L B) (by simp)).1.reads).mono ?_
  rintro e w9 ⟨rfl, b9⟩
  go_wp2
  go_ret
  exact ⟨rfl, S2.below.trans (b9.mono S2.below.size)⟩

set_option maxHeartbeats 4000000 in
theorem specDecCmp_any (w : World) (p q : Bool) (u v : Value) (l m : List Int) (s t : Int) (hu : Reads w u l) (hv : Reads w v m) :
    Calls Tryz.prog 40 #[.agg #[.bool p, u, .int .i64 s], .agg #[.bool q, v, .int .i64 t]] w fun e w' => e = .returned (.int .i64 (dcmpR p l s q m t)) ∧ Below w.heap.size w w' := by
  have CA := hide (fun W (h : Below w.heap.size w W) => l2Ok_any W p u l s (hu.later h))
  have CB := hide (fun W (h : Below w.heap.size w W) => l2Ok_any W q v m t (hv.later h))
  obtain ⟨ao, b1, off, cap, rfl, hu0⟩ := id hu
  obtain ⟨ao', b2, off', cap', rfl, hv0⟩ := id hv
  clear hu0 hv0
  have K0 := Dx2.start w p q (.slice ao l.length cap) (.slice ao' m.length cap') s t
  by_cases ha : decB p l s = true
  · rw [ha] at CA
    by_cases hb : decB q m t = true
    · rw [hb] at CB
      obtain ⟨ha1, ha2, ha3, ha4⟩ := decB_iff.1 ha
      obtain ⟨hb1, hb2, hb3, hb4⟩ := decB_iff.1 hb
      obtain ⟨ea, la⟩ := ok_limbs (okB_true ha1)
      obtain ⟨eb, lb⟩ := ok_limbs (okB_true hb1)
      have hsp := ok_sign (okB_true ha1)
      have hsq := ok_sign (okB_true hb1)
      unfold zv at hsp hsq
      have Hfin := hide (by unfold dcmpR; rw [if_pos ⟨ha, hb⟩] : dcmpR p l s q m t = cmpZ (zof p ((val l).toNat * 10 ^ (t - s).toNat)) (zof q ((val m).toNat * 10 ^ (s - t).toNat)))
      have hua : Reads w (.slice ao l.length cap) (L (val l).toNat) := by rw [← ea]; exact hu
      have hva : Reads w (.slice ao' m.length cap') (L (val m).toNat) := by rw [← eb]; exact hv
      generalize (val l).toNat = a at *
      generalize (val m).toNat = b at *
      obtain ⟨s, rfl⟩ := Int.eq_ofNat_of_zero_le ha3
      obtain ⟨t, rfl⟩ := Int.eq_ofNat_of_zero_le hb3
      clear ha1 ha2 hb1 hb2 ha hb hu hv ea eb
      have C := hide (fun W (h : Below w.heap.size w W) => l2Cmp_any W p q _ _ a b s t (hua.later h) (hva.later h) (by omega) (by omega) la lb hsp hsq)
      rw [show ((t : Int) - (s : Int)).toNat = t - s by omega, show ((s : Int) - (t : Int)).toNat = s - t by omega] at Hfin
      clear hua hva hsp hsq la lb
      go_enter Tryz.func40, Tryz.ntmps40
      go_wp2_with fail
      refine (unhide CA _ K0.below).mono ?_
      rintro e w1 ⟨rfl, b1⟩
      have K1 := K0.later b1
      obtain ⟨kb1, ka01, ka11, ka21, kc01, kc11, kc21⟩ := id K1
      clear b1
      go_wp2_with fail
      refine (unhide CB w1 kb1).mono ?_
      rintro e w2 ⟨rfl, b2⟩
      have K2 := K1.later b2
      obtain ⟨kb2, ka02, ka12, ka22, kc02, kc12, kc22⟩ := id K2
      clear b2 ka01 ka11 ka21 kc01 kc11 kc21
      go_wp2_with fail
      refine (unhide C w2 kb2).mono ?_
      rintro e w3 ⟨rfl, b3⟩
      go_wp2
      go_ret
      exact ⟨by rw [unhide Hfin]; rfl, kb2.trans (b3.mono kb2.size)⟩
    · have hb' : decB q m t = false := by simpa using hb
      rw [hb'] at CB
      have Hfin := hide (by unfold dcmpR; rw [if_neg (by simp [hb'])] : dcmpR p l s q m t = 2)
      clear hu hv ha hb hb'
      go_enter Tryz.func40, Tryz.ntmps40
      go_wp2_with fail
      refine (unhide CA _ K0.below).mono ?_
      rintro e w1 ⟨rfl, b1⟩
      have K1 := K0.later b1
      obtain ⟨kb1, ka01, ka11, ka21, kc01, kc11, kc21⟩ := id K1
      clear b1
      go_wp2_with fail
      refine (unhide CB w1 kb1).mono ?_
      rintro e w2 ⟨rfl, b2⟩
      have K2 := K1.later b2
      obtain ⟨kb2, ka02, ka12, ka22, kc02, kc12, kc22⟩ := id K2
      clear b2 ka01 ka11 ka21 kc01 kc11 kc21
      go_wp2
      go_ret
      exact ⟨by rw [unhide Hfin]; rfl, kb2⟩
  · have ha' : decB p l s = false := by simpa using ha
    rw [ha'] at CA
    have Hfin := hide (by unfold dcmpR; rw [if_neg (by simp [ha'])] : dcmpR p l s q m t = 2)
    clear hu hv ha ha'
    go_enter Tryz.func40, Tryz.ntmps40
    go_wp2_with fail
    refine (unhide CA _ K0.below).mono ?_
    rintro e w1 ⟨rfl, b1⟩
    have K1 := K0.later b1
    obtain ⟨kb1, ka01, ka11, ka21, kc01, kc11, kc21⟩ := id K1
    clear b1
    go_wp2
    go_ret
    exact ⟨by rw [unhide Hfin]; rfl, kb1⟩

set_option maxHeartbeats 4000000 in
theorem implDecCmp_any (w : World) (p q : Bool) (u v : Value) (l m : List Int) (s t : Int) (hu : Reads w u l) (hv : Reads w v m) (tt : Tab w) :
    Calls Tryz.prog 19 #[.agg #[.bool p, u, .int .i64 s], .agg #[.bool q, v, .int .i64 t]] w fun e w' => e = .returned (.int .i64 (dcmpR p l s q m t)) ∧ Below w.heap.size w w' := by
  have CA := hide (fun W (h : Below w.heap.size w W) => implDecOk_any W p u l s (hu.later h) (tt.later h))
  have CB := hide (fun W (h : Below w.heap.size w W) => implDecOk_any W q v m t (hv.later h) (tt.later h))
  obtain ⟨ao, b1, off, cap, rfl, hu0⟩ := id hu
  obtain ⟨ao', b2, off', cap', rfl, hv0⟩ := id hv
  clear hu0 hv0
  have K0 := Dx2.start w p q (.slice ao l.length cap) (.slice ao' m.length cap') s t
  by_cases ha : decB p l s = true
  · rw [ha] at CA
    by_cases hb : decB q m t = true
    · rw [hb] at CB
      obtain ⟨ha1, ha2, ha3, ha4⟩ := decB_iff.1 ha
      obtain ⟨hb1, hb2, hb3, hb4⟩ := decB_iff.1 hb
      obtain ⟨ea, la⟩ := ok_limbs (okB_true ha1)
      obtain ⟨eb, lb⟩ := ok_limbs (okB_true hb1)
      have hsp := ok_sign (okB_true ha1)
      have hsq := ok_sign (okB_true hb1)
      unfold zv at hsp hsq
      have Hfin := hide (by unfold dcmpR; rw [if_pos ⟨ha, hb⟩] : dcmpR p l s q m t = cmpZ (zof p ((val l).toNat * 10 ^ (t - s).toNat)) (zof q ((val m).toNat * 10 ^ (s - t).toNat)))
      have hua : Reads w (.slice ao l.length cap) (L (val l).toNat) := by rw [← ea]; exact hu
      have hva : Reads w (.slice ao' m.length cap') (L (val m).toNat) := by rw [← eb]; exact hv
      generalize (val l).toNat = a at *
      generalize (val m).toNat = b at *
      obtain ⟨s, rfl⟩ := Int.eq_ofNat_of_zero_le ha3
      obtain ⟨t, rfl⟩ := Int.eq_ofNat_of_zero_le hb3
      clear ha1 ha2 hb1 hb2 ha hb hu hv ea eb
      obtain ⟨X, hX⟩ : ∃ X, X = zof p (a * 10 ^ ((t : Int) - s).toNat) := ⟨_, rfl⟩
      obtain ⟨Y, hY⟩ : ∃ Y, Y = zof q (b * 10 ^ ((s : Int) - t).toNat) := ⟨_, rfl⟩
      rw [← hX, ← hY] at Hfin
      have RA := hide (fun W (h : Below w.heap.size w W) (z : Int) (hz : z = (t : Int) - s) => (by subst hz; exact raised_any W p _ a _ (hua.later h) (by omega) (pow16 la (by decide)) X hX : Calls Tryz.prog 47 #[.agg #[.bool p, .slice ao l.length cap], .int .i64 z] W (GivesBig W (sg X) (L X.natAbs))))
      have RB := hide (fun W (h : Below w.heap.size w W) (z : Int) (hz : z = (s : Int) - t) => (by subst hz; exact raised_any W q _ b _ (hva.later h) (by omega) (pow16 lb (by decide)) Y hY : Calls Tryz.prog 47 #[.agg #[.bool q, .slice ao' m.length cap'], .int .i64 z] W (GivesBig W (sg Y) (L Y.natAbs))))
      have HZ1 := hide (show (t : Int) - (s : Int) = (t : Int) - s from rfl)
      have HZ2 := hide (show (s : Int) - (t : Int) = (s : Int) - t from rfl)
      have HZ1' := hide (show IntKind.i64.wrap ((t : Int) - (s : Int)) = (t : Int) - s by rw [IntKind.wrap_i64]; omega)
      have HZ2' := hide (show IntKind.i64.wrap ((s : Int) - (t : Int)) = (s : Int) - t by rw [IntKind.wrap_i64]; omega)
      have bX : X.natAbs < 10000 ^ 199 := by
        rw [hX]
        have e : (zof p (a * 10 ^ ((t : Int) - s).toNat)).natAbs = a * 10 ^ ((t : Int) - s).toNat := by unfold zof; split; exact (Int.natAbs_neg _).trans (Int.natAbs_natCast _); exact Int.natAbs_natCast _
        rw [e]
        have h1 : 10 ^ ((t : Int) - s).toNat ≤ 10000 ^ 100 := Nat.le_of_lt (ten_small (by omega))
        refine Nat.lt_of_lt_of_le (Nat.mul_lt_mul_of_lt_of_le la h1 (Nat.pow_pos (by decide))) ?_
        rw [← Nat.pow_add]
        exact Nat.pow_le_pow_right (by decide) (by decide)
      have bY : Y.natAbs < 10000 ^ 199 := by
        rw [hY]
        have e : (zof q (b * 10 ^ ((s : Int) - t).toNat)).natAbs = b * 10 ^ ((s : Int) - t).toNat := by unfold zof; split; exact (Int.natAbs_neg _).trans (Int.natAbs_natCast _); exact Int.natAbs_natCast _
        rw [e]
        have h1 : 10 ^ ((s : Int) - t).toNat ≤ 10000 ^ 100 := Nat.le_of_lt (ten_small (by omega))
        refine Nat.lt_of_lt_of_le (Nat.mul_lt_mul_of_lt_of_le lb h1 (Nat.pow_pos (by decide))) ?_
        rw [← Nat.pow_add]
        exact Nat.pow_le_pow_right (by decide) (by decide)
      obtain ⟨D, hD⟩ : ∃ D, D = X - Y := ⟨_, rfl⟩
      have hc : cmpZ X Y = if D < 0 then -1 else if 0 < D then 1 else 0 := by
        unfold cmpZ
        (repeat' split) <;> omega
      have C0 := hide (fun W x (h : Reads W x (L Y.natAbs)) => turned_any W (sg Y) x Y.natAbs h)
      have hz' : D = zof (sg X) X.natAbs + zof (!(sg Y) && decide (Y.natAbs ≠ 0)) Y.natAbs := by
        rw [hD]
        unfold zof sg
        by_cases h1 : X < 0 <;> by_cases h2 : Y < 0 <;> simp [h1, h2] <;> (try split) <;> omega
      have C4 := hide (fun W x y (hx : Reads W x (L X.natAbs)) (hy : Reads W y (L Y.natAbs)) => sumOf_any W (sg X) (!(sg Y) && decide (Y.natAbs ≠ 0)) x y X.natAbs Y.natAbs hx hy bX bY D hz')
      have C5 := hide (fun W x (h : Reads W x (L D.natAbs)) => signOf_any W x D h)
      generalize (!(sg Y) && decide (Y.natAbs ≠ 0)) = qq at *
      generalize (if D < 0 then (-1 : Int) else if 0 < D then 1 else 0) = R at *
      have Hc := hide hc
      clear hua hva hsp hsq la lb hX hY hD hc hz' bX bY
      go_enter Tryz.func19, Tryz.ntmps19
      go_wp2_with fail
      refine (unhide CA _ K0.below).mono ?_
      rintro e w1 ⟨rfl, b1⟩
      have K1 := K0.later b1
      obtain ⟨kb1, ka01, ka11, ka21, kc01, kc11, kc21⟩ := id K1
      clear b1
      go_wp2_with fail
      refine (unhide CB w1 kb1).mono ?_
      rintro e w2 ⟨rfl, b2⟩
      have K2 := K1.later b2
      obtain ⟨kb2, ka02, ka12, ka22, kc02, kc12, kc22⟩ := id K2
      clear b2 ka01 ka11 ka21 kc01 kc11 kc21
      have S2 : Stt w w2 [(w.heap.size, 0, .bool p), (w.heap.size, 1, .slice ao l.length cap), (w.heap.size, 2, .int .i64 s), (w.heap.size + 1, 0, .bool q), (w.heap.size + 1, 1, .slice ao' m.length cap'), (w.heap.size + 1, 2, .int .i64 t)] [] := by
        refine ⟨K2.below, fun c hc => ?_, by simp⟩
        simp only [List.mem_cons, List.not_mem_nil, or_false] at hc
        rcases hc with rfl | rfl | rfl | rfl | rfl | rfl
        · exact K2.a0
        · exact K2.a1
        · exact K2.a2
        · exact K2.b0
        · exact K2.b1
        · exact K2.b2
      have stab : ∀ w' : World, Below w2.heap.size w2 w' → ((w'.cell? ⟨w.heap.size, 0, none⟩ = some (.bool p) ∧ w'.cell? ⟨w.heap.size, 1, none⟩ = some (.slice ao l.length cap) ∧ w'.cell? ⟨w.heap.size, 2, none⟩ = some (.int .i64 s) ∧ w'.cell? ⟨w.heap.size + 1, 0, none⟩ = some (.bool q) ∧ w'.cell? ⟨w.heap.size + 1, 1, none⟩ = some (.slice ao' m.length cap') ∧ w'.cell? ⟨w.heap.size + 1, 2, none⟩ = some (.int .i64 t)) ∧ Below w2.heap.size w2 w') := fun w' h => ⟨⟨(S2.later h).cells (w.heap.size, 0, .bool p) (by simp), (S2.later h).cells (w.heap.size, 1, .slice ao l.length cap) (by simp), (S2.later h).cells (w.heap.size, 2, .int .i64 s) (by simp), (S2.later h).cells (w.heap.size + 1, 0, .bool q) (by simp), (S2.later h).cells (w.heap.size + 1, 1, .slice ao' m.length cap') (by simp), (S2.later h).cells (w.heap.size + 1, 2, .int .i64 t) (by simp)⟩, h⟩
      have hB : ∀ X : World, ((X.cell? ⟨w.heap.size, 0, none⟩ = some (.bool p) ∧ X.cell? ⟨w.heap.size, 1, none⟩ = some (.slice ao l.length cap) ∧ X.cell? ⟨w.heap.size, 2, none⟩ = some (.int .i64 s) ∧ X.cell? ⟨w.heap.size + 1, 0, none⟩ = some (.bool q) ∧ X.cell? ⟨w.heap.size + 1, 1, none⟩ = some (.slice ao' m.length cap') ∧ X.cell? ⟨w.heap.size + 1, 2, none⟩ = some (.int .i64 t)) ∧ Below w2.heap.size w2 X) → Below w2.heap.size w2 X := fun X h => h.2
      have Stab := hide stab
      have HB := hide hB
      clear stab hB
      go_wp2
      go_cut [5, 6] (fun sp sr wk => ∃ (nB nC Bf Et Bk Ek : Nat) (ab ad : Option Addr) (cb cd : Nat), sp = .pointer (some ⟨nB, 0, none⟩) ∧ sr = .pointer (some ⟨nC, 0, none⟩) ∧ Stt w wk ([(w.heap.size, 0, .bool p), (w.heap.size, 1, .slice ao l.length cap), (w.heap.size, 2, .int .i64 s), (w.heap.size + 1, 0, .bool q), (w.heap.size + 1, 1, .slice ao' m.length cap'), (w.heap.size + 1, 2, .int .i64 t)] ++ [(nB, 0, .bool (sg X)), (nB, 1, .slice ab (L X.natAbs).length cb), (nC, 0, .bool (sg Y)), (nC, 1, .slice ad (L Y.natAbs).length cd)]) ([] ++ [(Bf, Et, .slice ab (L X.natAbs).length cb, L X.natAbs), (Bk, Ek, .slice ad (L Y.natAbs).length cd, L Y.natAbs)]))
      case first => as_aux_lemma =>
        go_region_held3 (fun w' => (w'.cell? ⟨w.heap.size, 0, none⟩ = some (.bool p) ∧ w'.cell? ⟨w.heap.size, 1, none⟩ = some (.slice ao l.length cap) ∧ w'.cell? ⟨w.heap.size, 2, none⟩ = some (.int .i64 s) ∧ w'.cell? ⟨w.heap.size + 1, 0, none⟩ = some (.bool q) ∧ w'.cell? ⟨w.heap.size + 1, 1, none⟩ = some (.slice ao' m.length cap') ∧ w'.cell? ⟨w.heap.size + 1, 2, none⟩ = some (.int .i64 t)) ∧ Below w2.heap.size w2 w')
          ((refine unhide Stab _ ?_; repeat' (first | with_reducible exact BW4 | with_reducible exact BW3 | with_reducible exact Below.refl _ _ | (with_reducible exact unhide HB _ (by assumption)) | refine Below.drew ?_ | refine Below.alloc ?_ ?_ _ | refine Below.setCell ?_ ?_ _ | omega | (simp <;> omega))))
          (first
            | (go_at_call_of 47 (Value.slice ao l.length cap); refine (unhide RA _ ?_ _ ?_).mono ?_; exact S2.below.trans ((unhide HB _ (by assumption)).mono S2.below.size); (first | with_reducible exact unhide HZ1 | with_reducible exact unhide HZ1'); rintro e w3 ⟨ab, cb, rfl, o3, b3⟩; have BW3 : Below w2.heap.size w2 w3 := (unhide HB _ (by assumption)).trans (b3.mono (unhide HB _ (by assumption)).size); have y3 := BW3.size; have q3 := (unhide HB _ (by assumption)).size; have E3 : EBs w3 _ := (by first | with_reducible exact EBs.drew2 b3 | with_reducible exact EBs.drew1 b3 | exact EBs.empty w3); have l3 := E3.lts; (try simp at l3))
            | (go_at_call_of 47 (Value.slice ao' m.length cap'); refine (unhide RB _ ?_ _ ?_).mono ?_; exact S2.below.trans ((unhide HB _ (by assumption)).mono S2.below.size); (first | with_reducible exact unhide HZ2 | with_reducible exact unhide HZ2'); rintro e w4 ⟨ad, cd, rfl, o4, b4⟩; have K4 : Below w3.heap.size w3 w4 := (by first | with_reducible exact b4 | with_reducible exact below_back b4 | with_reducible exact below_back2 b4); have BW4 : Below w2.heap.size w2 w4 := BW3.trans (K4.mono BW3.size); have y4 := K4.size; have q4 := b4.size; (try simp only [World.size_alloc] at q4); have o3' := o3.later K4; have E4 : EBs w4 _ := (by first | with_reducible exact E3.later b4 | with_reducible exact E3.step1 b4 | with_reducible exact E3.step2 b4); (first | (obtain ⟨⟨e0, e1, e2, e3, e4⟩, ⟨e5, e6, e7, e8, e9⟩, e10, e11⟩ := EBs.open2 E4) | (obtain ⟨⟨e0, e1, e2, e3, e4⟩, e10, e11⟩ := EBs.open1 E4) | skip); clear K4))
        all_goals
          go_wp2
          go_meet
          case rel =>
            refine ⟨_, _, _, _, _, _, ab, ad, cb, cd, rfl, rfl, S2.fill2b (E := w3.heap.size) (E' := w4.heap.size) o3' o4 (by first | omega | (simp <;> omega)) (by first | omega | (simp <;> omega)) (fun k hk => (o3.lt k hk).2) (fun k hk => (o4.lt k hk).2) y4 (Nat.le_refl _) ?_ ?_ ?_ ?_ ?_ ?_ ?_ ?_ ?_⟩
            · repeat' (first | with_reducible exact BW4 | with_reducible exact BW3 | with_reducible exact Below.refl _ _ | (with_reducible exact unhide HB _ (by assumption)) | refine Below.drew ?_ | refine Below.alloc ?_ ?_ _ | refine Below.setCell ?_ ?_ _ | omega | (simp <;> omega))
            · first | omega | (simp <;> omega)
            · intro j j1 j2 j3
              repeat (first | with_reducible rfl | rw [Below.heap_setCell _ _ _ _ (by first | exact j2 | exact j3)] | (refine (heap_alloc_lt _ _ _ ?_).trans ?_; (first | omega | (simp <;> omega))))
            · first | omega | (simp <;> omega)
            · first | omega | (simp <;> omega)
            · go_simp
            · go_simp
            · go_simp
            · go_simp
      case rest =>
      obtain ⟨nX, nY, Bx, Ex, By, Ey, ax, ay, cx, cy, rfl, rfl, S6⟩ := hcut
      simp only [List.nil_append, List.cons_append] at S6
      clear S2 Stab HB ka02 ka12 ka22 kc02 kc12 kc22 RA RB
      have x0 : wc.cell? ⟨nX, 0, none⟩ = some (.bool (sg X)) := S6.cells (nX, 0, .bool (sg X)) (by simp)
      have x1 : wc.cell? ⟨nX, 1, none⟩ = some (.slice ax (L X.natAbs).length cx) := S6.cells (nX, 1, .slice ax (L X.natAbs).length cx) (by simp)
      have y0 : wc.cell? ⟨nY, 0, none⟩ = some (.bool (sg Y)) := S6.cells (nY, 0, .bool (sg Y)) (by simp)
      have y1 : wc.cell? ⟨nY, 1, none⟩ = some (.slice ay (L Y.natAbs).length cy) := S6.cells (nY, 1, .slice ay (L Y.natAbs).length cy) (by simp)
      have RX := hide (S6.owns (Bx, Ex, .slice ax (L X.natAbs).length cx, L X.natAbs) (by simp)).1.reads
      have RY := hide (S6.owns (By, Ey, .slice ay (L Y.natAbs).length cy, L Y.natAbs) (by simp)).1.reads
      have stab : ∀ w' : World, Below wc.heap.size wc w' → (w'.cell? ⟨nX, 0, none⟩ = some (.bool (sg X)) ∧ w'.cell? ⟨nX, 1, none⟩ = some (.slice ax (L X.natAbs).length cx) ∧ w'.cell? ⟨nY, 0, none⟩ = some (.bool (sg Y)) ∧ w'.cell? ⟨nY, 1, none⟩ = some (.slice ay (L Y.natAbs).length cy)) := fun w' h => ⟨cell_later h x0, cell_later h x1, cell_later h y0, cell_later h y1⟩
      have Stab := hide stab
      clear stab
      go_wp2
      go_region_held (fun w' => w'.cell? ⟨nX, 0, none⟩ = some (.bool (sg X)) ∧ w'.cell? ⟨nX, 1, none⟩ = some (.slice ax (L X.natAbs).length cx) ∧ w'.cell? ⟨nY, 0, none⟩ = some (.bool (sg Y)) ∧ w'.cell? ⟨nY, 1, none⟩ = some (.slice ay (L Y.natAbs).length cy))
        (first | with_reducible exact unhide Stab _ (Below.refl _ _).drew | (refine unhide Stab _ ?_; assumption))
        (first
          | (go_at_call 53; refine (unhide C0 _ _ ?_).mono ?_; exact (unhide RY).later (Below.refl _ _).drew; rintro e w7 ⟨v7, rfl, r7, b7⟩; have BW7 : Below wc.heap.size wc w7 := (Below.refl _ _).drew.trans b7)
          | (go_at_call 46; refine (unhide C4 _ _ _ ?_ ?_).mono ?_; exact (unhide RX).later BW7; exact r7; rintro e w8 ⟨a8, c8, rfl, o8, b8⟩; have BW8 : Below wc.heap.size wc w8 := BW7.trans (b8.mono BW7.size))
          | (go_at_call 54; refine (unhide C5 _ _ o8.reads).mono ?_; rintro e w9 ⟨rfl, b9⟩; have BW9 : Below wc.heap.size wc w9 := BW8.trans (b9.mono BW8.size)))
      all_goals
        go_wp2
        go_ret
        exact ⟨by rw [unhide Hfin, unhide Hc]; rfl, S6.below.trans (BW9.mono S6.below.size)⟩
    · have hb' : decB q m t = false := by simpa using hb
      rw [hb'] at CB
      have Hfin := hide (by unfold dcmpR; rw [if_neg (by simp [hb'])] : dcmpR p l s q m t = 2)
      clear hu hv ha hb hb'
      go_enter Tryz.func19, Tryz.ntmps19
      go_wp2_with fail
      refine (unhide CA _ K0.below).mono ?_
      rintro e w1 ⟨rfl, b1⟩
      have K1 := K0.later b1
      obtain ⟨kb1, ka01, ka11, ka21, kc01, kc11, kc21⟩ := id K1
      clear b1
      go_wp2_with fail
      refine (unhide CB w1 kb1).mono ?_
      rintro e w2 ⟨rfl, b2⟩
      have K2 := K1.later b2
      obtain ⟨kb2, ka02, ka12, ka22, kc02, kc12, kc22⟩ := id K2
      clear b2 ka01 ka11 ka21 kc01 kc11 kc21
      go_wp2
      go_ret
      exact ⟨by rw [unhide Hfin]; rfl, kb2⟩
  · have ha' : decB p l s = false := by simpa using ha
    rw [ha'] at CA
    have Hfin := hide (by unfold dcmpR; rw [if_neg (by simp [ha'])] : dcmpR p l s q m t = 2)
    clear hu hv ha ha'
    go_enter Tryz.func19, Tryz.ntmps19
    go_wp2_with fail
    refine (unhide CA _ K0.below).mono ?_
    rintro e w1 ⟨rfl, b1⟩
    have K1 := K0.later b1
    obtain ⟨kb1, ka01, ka11, ka21, kc01, kc11, kc21⟩ := id K1
    clear b1
    go_wp2
    go_ret
    exact ⟨by rw [unhide Hfin]; rfl, kb1⟩

end Go.Proofs.YthnkmjkgcnhlfaaGreatDoor
