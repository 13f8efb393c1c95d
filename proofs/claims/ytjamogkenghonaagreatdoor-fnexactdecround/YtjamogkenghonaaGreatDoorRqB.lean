/- A quotient rounded, by the specification: l2More and l2Div by contracts. -/
import Derived.Test.YtjamogkenghonaaGreatDoorRqA
import Derived.Test.YtjamogkenghonaaGreatDoorDivS0
import Derived.Test.YtjamogkenghonaaGreatDoorCmp
import Derived.Test.YtjamogkenghonaaGreatDoorSpA
namespace Go.Proofs.YtjamogkenghonaaGreatDoor
open Go.RowKit
set_option maxRecDepth 100000

theorem l2More_any (w : World) (mode : Int) (neg odd : Bool) (c : Int) (h1 : 1 ≤ mode) (h7 : mode ≤ 7) (hc : -1 ≤ c ∧ c ≤ 1) :
    Calls Tryz.prog 87 #[.int .i64 mode, .bool neg, .bool odd, .int .i64 c] w fun e w' => e = .returned (.bool (moreZ mode neg odd c)) ∧ w' = w := by
  have hm : mode = 1 ∨ mode = 2 ∨ mode = 3 ∨ mode = 4 ∨ mode = 5 ∨ mode = 6 ∨ mode = 7 := by omega
  have hc' : c = -1 ∨ c = 0 ∨ c = 1 := by omega
  clear h1 h7 hc
  rcases hm with rfl | rfl | rfl | rfl | rfl | rfl | rfl <;> rcases hc' with rfl | rfl | rfl
  all_goals
    go_enter Tryz.func87, Tryz.ntmps87
    go_wp2
    go_ret
    refine ⟨?_, rfl⟩
    simp [moreZ]

theorem qrd_zero {neg : Bool} {a b : Nat} {mode : Int} (h : a % b = 0) : qrd neg a b mode = a / b := by
  unfold qrd awayZ
  rw [h]
  simp

theorem qrd_more {neg : Bool} {a b : Nat} {mode : Int} (h : a % b ≠ 0) : qrd neg a b mode = a / b + (if moreZ mode neg (decide ((a / b) % 2 = 1)) (cmpZ (a % b + a % b : Nat) b) = true then 1 else 0) := by
  unfold qrd awayZ
  simp [h]

set_option maxHeartbeats 4000000 in
theorem l2Div_any (w : World) (neg : Bool) (u v : Value) (a b : Nat) (mode : Int) (hu : Reads w u (L a)) (hv : Reads w v (L b)) (hb0 : 0 < b) (ha : a < 10000 ^ 99) (hb : b < 10000 ^ 99) (h1 : 1 ≤ mode) (h7 : mode ≤ 7) :
    Calls Tryz.prog 68 #[.bool neg, u, v, .int .i64 mode] w (Gives w (L (qrd neg a b mode))) := by
  have up : (10000 : Nat) ^ 99 ≤ 10000 ^ 100 := Nat.pow_le_pow_right (by decide) (by decide)
  have CD := hide (fun W (h : Below w.heap.size w W) => l1DivAbs_any W _ _ a b (hu.later h) (hv.later h) hb0 (Nat.lt_of_lt_of_le ha up) (Nat.lt_of_lt_of_le hb up))
  have hR : a % b < 10000 ^ 99 := Nat.lt_trans (Nat.mod_lt _ hb0) hb
  have hQ : a / b < 10000 ^ 99 := Nat.lt_of_le_of_lt (Nat.div_le_self _ _) ha
  have up2 : (10000 : Nat) ^ 99 ≤ 10000 ^ 200 := Nat.pow_le_pow_right (by decide) (by decide)
  have CS := hide (fun W x (hx : Reads W x (L (a % b))) => l1AddAbs_any W x x (a % b) (a % b) hx hx (Nat.lt_of_lt_of_le hR up2) (Nat.lt_of_lt_of_le hR up2))
  have CC := hide (fun W x (h : Below w.heap.size w W) (hx : Reads W x (L (a % b + a % b))) => l1CmpAbs_any W x _ (a % b + a % b) b hx (hv.later h))
  have CP := hide (fun W x y (hx : Reads W x (L (a / b))) (hy : Reads W y (L 1)) => l1AddAbs_any W x y (a / b) 1 hx hy (Nat.lt_of_lt_of_le hQ up2) (Nat.one_lt_pow (by decide) (by decide)))
  have CM := hide (fun W o => l2More_any W mode neg o (cmpZ (a % b + a % b : Nat) b) h1 h7 (cmpZ_small _ _))
  have EZ := hide (fun h => qrd_zero (neg := neg) (a := a) (b := b) (mode := mode) h)
  have EM := hide (fun h => qrd_more (neg := neg) (a := a) (b := b) (mode := mode) h)
  have HL := hide (fun h => L_first (n := a / b) h)
  have HO : decide (a / b % 2 = 1) = decide (a / b % 10000 % 2 = 1) := decide_eq_decide.2 (by omega)
  rw [HO] at EM
  clear HO up up2 hR hQ ha hb hb0 hu
  generalize cmpZ (a % b + a % b : Nat) b = Z at *
  generalize qrd neg a b mode = N at *
  generalize a / b = Q at *
  generalize a % b = R at *
  obtain ⟨ao', b2, off', cap', rfl, hv0⟩ := id hv
  clear hv0
  go_enter Tryz.func68, Tryz.ntmps68
  go_wp2_with fail
  refine (unhide CD _ (Below.refl _ _)).mono ?_
  rintro e w1 ⟨qo, ro, qc, rc, B, rfl, hB, oq, orr, lr, b1⟩
  by_cases hR0 : R = 0
  · have e0 : (((L R).length : Int) == 0) = true := by rw [hR0, L_zero]; rfl
    have E := hide (unhide EZ hR0)
    clear hR0 EM EZ CS CC CP CM
    go_wp2
    go_ret
    rw [unhide E]
    exact ⟨qo, qc, rfl, oq.mono hB, b1⟩
  · have e0 : (((L R).length : Int) == 0) = false := by
      rw [beq_eq_false_iff_ne]
      have := mt L_len_zero.1 hR0
      omega
    have E := hide (unhide EM hR0)
    clear EM EZ hR0
    have RR := hide orr.reads
    by_cases hn : 0 < (L Q).length
    · rcases oq.split with ⟨e1, hz0⟩ | ⟨g, capo', e1, hBg, hgs, hcapo, hmo⟩
      · rw [hz0] at hn
        simp at hn
      · simp only [Value.slice.injEq] at e1
        obtain ⟨rfl, hz2, rfl⟩ := e1
        have c0 := oq.cellAt (i := 0) (by simpa using hn)
        have c0' : w1.cell? ⟨g, 0, none⟩ = some (.int .i64 ((Q % 10000 : Nat) : Int)) := c0.trans (by rw [unhide HL hn])
        clear c0 hz2 HL
        have hx : Q % 10000 < 10000 := Nat.mod_lt _ (by decide)
        generalize Q % 10000 = x at *
        obtain ⟨o, ho⟩ : ∃ o, decide (x % 2 = 1) = o := ⟨_, rfl⟩
        have t1 : (x : Int).tmod 2 = ((x % 2 : Nat) : Int) := by rw [Int.tmod_eq_emod_of_nonneg (by omega)]; rfl
        have o1 : (((x : Int).tmod 2) == 1) = o := by rw [t1, ← ho, Bool.eq_iff_iff]; simp; omega
        have o2 : (((x : Int) % 2) == 1) = o := by rw [← ho, Bool.eq_iff_iff]; simp; omega
        have hn' : decide ((0 : Int) < (L Q).length) = true := by simp; omega
        rw [ho] at E
        clear ho t1
        go_wp2_with fail
        refine (unhide CS _ _ (unhide RR)).mono ?_
        rintro e w2 ⟨as2, cs2, rfl, o2s, b2⟩
        go_wp2_with fail
        refine (unhide CC _ _ (b1.trans (b2.mono b1.size)) o2s.reads).mono ?_
        rintro e w3 ⟨rfl, b3⟩
        have oq3 := (oq.later b2).later b3
        have bw3 := (b1.trans (b2.mono b1.size)).trans (b3.mono (b1.trans (b2.mono b1.size)).size)
        go_wp2_with fail
        refine (unhide CM _ o).mono ?_
        rintro e w4 ⟨rfl, rfl⟩
        cases hA : moreZ mode neg o Z with
        | false =>
          have EN : N = Q := by rw [unhide E, hA]; simp
          clear hA E
          go_wp2
          go_ret
          rw [EN]
          exact ⟨_, _, rfl, oq3.mono hB, bw3⟩
        | true =>
          have EN : N = Q + 1 := by rw [unhide E, hA]; simp
          have HEN := hide EN
          have rt : Reads (w4.alloc (.cells #[.int .i64 1] 3)) (.slice (some ⟨w4.heap.size, 0, none⟩) 1 1) (L 1) := by rw [L1]; exact (own_one w4 1 (Nat.le_refl _)).reads
          have RT := hide rt
          have RQ2 := hide (oq3.reads.alloc (.cells #[.int .i64 1] 3))
          clear hA rt EN E
          go_wp2_with fail
          refine (unhide CP _ _ _ (unhide RQ2) (unhide RT)).mono ?_
          rintro e wp ⟨aP, cP, rfl, oP, bP⟩
          have hsz := bw3.size
          go_wp2
          go_ret
          rw [unhide HEN]
          exact ⟨_, _, rfl, oP.mono (by simp; omega), bw3.trans (((Below.refl _ _).alloc (Nat.le_refl _) _).trans (bP.mono (by simp)) |>.mono bw3.size)⟩
    · have hQ0 : Q = 0 := L_len_zero.1 (by have h0 : ¬ 0 < (L Q).length := hn; omega)
      have hn' : decide ((0 : Int) < (L Q).length) = false := decide_eq_false (by omega)
      have E2 := hide (show N = Q + (if moreZ mode neg false Z = true then 1 else 0) by rw [unhide E, hQ0]; simp)
      clear E HL hQ0
      go_wp2_with fail
      refine (unhide CS _ _ (unhide RR)).mono ?_
      rintro e w2 ⟨as2, cs2, rfl, o2s, b2⟩
      go_wp2_with fail
      refine (unhide CC _ _ (b1.trans (b2.mono b1.size)) o2s.reads).mono ?_
      rintro e w3 ⟨rfl, b3⟩
      have oq3 := (oq.later b2).later b3
      have bw3 := (b1.trans (b2.mono b1.size)).trans (b3.mono (b1.trans (b2.mono b1.size)).size)
      go_wp2_with fail
      refine (unhide CM _ false).mono ?_
      rintro e w4 ⟨rfl, rfl⟩
      cases hA : moreZ mode neg false Z with
      | false =>
        have EN : N = Q := by rw [unhide E2, hA]; simp
        clear hA E2
        go_wp2
        go_ret
        rw [EN]
        exact ⟨_, _, rfl, oq3.mono hB, bw3⟩
      | true =>
        have EN : N = Q + 1 := by rw [unhide E2, hA]; simp
        have HEN := hide EN
        have rt : Reads (w4.alloc (.cells #[.int .i64 1] 3)) (.slice (some ⟨w4.heap.size, 0, none⟩) 1 1) (L 1) := by rw [L1]; exact (own_one w4 1 (Nat.le_refl _)).reads
        have RT := hide rt
        have RQ2 := hide (oq3.reads.alloc (.cells #[.int .i64 1] 3))
        clear hA rt EN E2
        go_wp2_with fail
        refine (unhide CP _ _ _ (unhide RQ2) (unhide RT)).mono ?_
        rintro e wp ⟨aP, cP, rfl, oP, bP⟩
        have hsz := bw3.size
        go_wp2
        go_ret
        rw [unhide HEN]
        exact ⟨_, _, rfl, oP.mono (by simp; omega), bw3.trans (((Below.refl _ _).alloc (Nat.le_refl _) _).trans (bP.mono (by simp)) |>.mono bw3.size)⟩

end Go.Proofs.YtjamogkenghonaaGreatDoor
