/- A quotient rounded: roundedQuotient of the program, by a contract. -/
import Derived.Test.YtjamogkenghonaaGreatDoorCutA
import Derived.Test.YtjamogkenghonaaGreatDoorDivJ0
import Derived.Test.YtjamogkenghonaaGreatDoorGb
import Derived.Deep.RegionHeld
import Derived.Deep.RegionHeld3
namespace Go.Proofs.YtjamogkenghonaaGreatDoor
open Go.RowKit
set_option maxRecDepth 100000

/-- A quotient rounded, signs apart. -/
def qrd (neg : Bool) (a b : Nat) (mode : Int) : Nat := a / b + (if awayZ mode neg (decide ((a / b) % 2 = 1)) (a % b) b = true then 1 else 0)

theorem qrd_le (neg : Bool) (a b : Nat) (mode : Int) : qrd neg a b mode ≤ a + 1 := by
  unfold qrd
  have := Nat.div_le_self a b
  split <;> omega

theorem L1 : L 1 = [1] := by rw [L_pos (by decide)]; simp [L_zero]

theorem L_first {n : Nat} (h : 0 < (L n).length) : (L n)[0] = ((n % 10000 : Nat) : Int) := by
  have hn : 0 < n := by
    rcases Nat.eq_zero_or_pos n with h0 | h0
    · subst h0; rw [L_zero] at h; simp at h
    · exact h0
  simp only [L_pos hn, List.getElem_cons_zero]

/-- Two numbers in their boxes, and the place for a third. -/
structure Bx3 (w0 w' : World) (p : Bool) (u : Value) (q : Bool) (v : Value) : Prop where
  below : Below w0.heap.size w0 w'
  a0 : w'.cell? ⟨w0.heap.size, 0, none⟩ = some (.bool p)
  a1 : w'.cell? ⟨w0.heap.size, 1, none⟩ = some u
  b0 : w'.cell? ⟨w0.heap.size + 1, 0, none⟩ = some (.bool q)
  b1 : w'.cell? ⟨w0.heap.size + 1, 1, none⟩ = some v
  c0 : w'.cell? ⟨w0.heap.size + 1 + 1, 0, none⟩ = some (.bool false)
  c1 : w'.cell? ⟨w0.heap.size + 1 + 1, 1, none⟩ = some (.slice none 0 0)
  f0 : w'.frozen? ⟨w0.heap.size + 1 + 1, 0, none⟩ = false
  f1 : w'.frozen? ⟨w0.heap.size + 1 + 1, 1, none⟩ = false
  lt : w0.heap.size + 1 + 1 < w'.heap.size

theorem Bx3.later {w0 w w' : World} {p q : Bool} {u v : Value} (h : Bx3 w0 w p u q v) (k : Below w.heap.size w w') : Bx3 w0 w' p u q v :=
  ⟨h.below.trans (k.mono h.below.size), cell_later k h.a0, cell_later k h.a1, cell_later k h.b0, cell_later k h.b1, cell_later k h.c0, cell_later k h.c1, frozen_later k h.f0 h.lt, frozen_later k h.f1 h.lt, lt_later k h.lt⟩

theorem Bx3.start (w : World) (p q : Bool) (u v : Value) : Bx3 w (((w.alloc (.cells #[.bool p, u] 28)).alloc (.cells #[.bool q, v] 28)).alloc (.cells #[.bool false, .slice none 0 0] 28)) p u q v :=
  ⟨(((Below.refl _ _).alloc (Nat.le_refl _) _).alloc (by simp) _).alloc (by simp; omega) _, by go_simp, by go_simp, by go_simp, by go_simp, by go_simp, by go_simp, by go_simp, by go_simp, by simp⟩

-- TAIL
set_option maxHeartbeats 4000000 in
theorem roundedQuotient_any (w : World) (p q : Bool) (u v : Value) (a b : Nat) (mode : Int) (hu : Reads w u (L a)) (hv : Reads w v (L b)) (hb0 : 0 < b) (ha : a < 10000 ^ 99) (hb : b < 10000 ^ 99) (h1 : 1 ≤ mode) (h7 : mode ≤ 7) (z : Int) (hz : z = zof (p != q) (qrd (p != q) a b mode)) :
    Calls Tryz.prog 45 #[.agg #[.bool p, u], .agg #[.bool q, v], .int .i64 mode] w (GivesBig w (sg z) (L z.natAbs)) := by
  have CT := hide (fun W (h : Below w.heap.size w W) => through_any W _ _ a b (hu.later h) (hv.later h) hb0 ha hb)
  have hR : a % b < 10000 ^ 199 := Nat.lt_trans (Nat.mod_lt _ hb0) (Nat.lt_of_lt_of_le hb (Nat.pow_le_pow_right (by decide) (by decide)))
  have hQ : a / b < 10000 ^ 200 := Nat.lt_of_le_of_lt (Nat.div_le_self _ _) (Nat.lt_of_lt_of_le ha (Nat.pow_le_pow_right (by decide) (by decide)))
  have CA := hide (fun W x (n o : Bool) (h : Below w.heap.size w W) (hx : Reads W x (L (a % b))) => away_any W n o x _ (a % b) b mode hx (hv.later h) hR hb0 h1 h7)
  have CP := hide (fun W x y (hx : Reads W x (L (a / b))) (hy : Reads W y (L 1)) => plus_any W x y (a / b) 1 hx hy hQ (Nat.one_lt_pow (by decide) (by decide)))
  unfold qrd at hz
  obtain ⟨ao, b1, off, cap, rfl, hu0⟩ := id hu
  obtain ⟨ao', b2, off', cap', rfl, hv0⟩ := id hv
  clear hu0 hv0 hu hv hR hQ ha hb hb0
  generalize awayZ mode = AZ at *
  have HL : ∀ h : 0 < (L (a / b)).length, (L (a / b))[0] = ((a / b % 10000 : Nat) : Int) := fun h => L_first h
  have HO : decide (a / b % 2 = 1) = decide (a / b % 10000 % 2 = 1) := decide_eq_decide.2 (by omega)
  rw [HO] at hz
  generalize a / b = Q at *
  generalize a % b = R at *
  have Hz := hide hz
  have HL' := hide HL
  clear hz HL HO
  have K0 := Bx3.start w p q (.slice ao (L a).length cap) (.slice ao' (L b).length cap')
  go_enter Tryz.func45, Tryz.ntmps45
  go_wp2_with fail
  refine (unhide CT _ K0.below).mono ?_
  rintro e w1 ⟨qo, ro, qc, rc, rfl, oq, lq, orr, zz, b1⟩
  have K1 := K0.later b1
  obtain ⟨kb1, ka0, ka1, kc0, kc1, kd0, kd1, kf0, kf1, kl⟩ := id K1
  clear b1 CT K0
  simp only [World.size_alloc] at oq lq orr zz
  have RR := hide orr.reads
  have RQ := hide oq.reads
  clear orr
  by_cases hn : 0 < (L Q).length
  · rcases oq.split with ⟨e1, hz0⟩ | ⟨g, capo', e1, hBg, hgs, hcapo, hmo⟩
    · rw [hz0] at hn
      simp at hn
    · simp only [Value.slice.injEq] at e1
      obtain ⟨rfl, hz2, rfl⟩ := e1
      have c0 := oq.cellAt (i := 0) (by simpa using hn)
      have c0' : w1.cell? ⟨g, 0, none⟩ = some (.int .i64 ((Q % 10000 : Nat) : Int)) := c0.trans (by rw [unhide HL' hn])
      clear c0 hz2
      have hx : Q % 10000 < 10000 := Nat.mod_lt _ (by decide)
      generalize Q % 10000 = x at *
      obtain ⟨o, ho⟩ : ∃ o, decide (x % 2 = 1) = o := ⟨_, rfl⟩
      have t1 : (x : Int).tmod 2 = ((x % 2 : Nat) : Int) := by rw [Int.tmod_eq_emod_of_nonneg (by omega)]; rfl
      have o1 : (((x : Int).tmod 2) == 1) = o := by rw [t1, ← ho, Bool.eq_iff_iff]; simp; omega
      have o2 : (((x : Int) % 2) == 1) = o := by rw [← ho, Bool.eq_iff_iff]; simp; omega
      clear t1
      have hn' : decide ((0 : Int) < (L Q).length) = true := by simp; omega
      rw [ho] at Hz
      clear ho
      go_wp2_with fail
      refine (unhide CA w1 _ (!(p == q)) o kb1 (unhide RR)).mono ?_
      rintro e w2 ⟨rfl, b2⟩
      have K2 := K1.later b2
      obtain ⟨jb1, -, -, -, -, jd0, jd1, jf0, jf1, jl⟩ := id K2
      cases hA : AZ (!(p == q)) o R b with
      | false =>
        have hz3 : z = zof (!(p == q)) Q := by rw [unhide Hz]; change zof (!(p == q)) (Q + if AZ (!(p == q)) o R b = true then 1 else 0) = _; rw [hA]; simp
        have G := hide (fun w3 (b3 : Below w2.heap.size w2 w3) => signed_gives (w := w) (oq.later b2) jb1 b3 hz3)
        clear hz3 hA
        go_wp2_with fail
        refine (signed_any _ _ _ _ _).mono ?_
        rintro e w3 ⟨he, b3⟩
        obtain ⟨ao3, cap3, e3, o3, bb3⟩ := unhide G w3 b3
        rw [e3] at he
        subst he
        have K3 := K2.later b3
        obtain ⟨kb3, -, -, -, -, hd0, hd1, hf0, hf1, hl3⟩ := id K3
        clear b3 G K2 K3 e3 jd0 jd1 jf0 jf1
        go_wp2
        refine bodyPost_ret (v := .agg #[.bool (sg z), .slice ao3 (L z.natAbs).length cap3]) (by simp [results, Tryz.results45, go_sem, hd0, hd1]) rfl ⟨ao3, cap3, rfl, ?_, ?_⟩
        · exact ((o3.setBelow (by simp) _).setBelow (by simp) _).mono (by omega)
        · exact (kb3.setCell (by simp; omega) _).setCell (by simp; omega) _
      | true =>
        have hz3 : z = zof (!(p == q)) (Q + 1) := by rw [unhide Hz]; change zof (!(p == q)) (Q + if AZ (!(p == q)) o R b = true then 1 else 0) = _; rw [hA]; simp
        have rt : Reads (w2.alloc (.cells #[.int .i64 1] 3)) (.slice (some ⟨w2.heap.size, 0, none⟩) 1 1) (L 1) := by rw [L1]; exact (own_one w2 1 (Nat.le_refl _)).reads
        have RT := hide rt
        have RQ2 := hide ((oq.later b2).reads.alloc (.cells #[.int .i64 1] 3))
        have K2a := K2.later ((Below.refl _ _).alloc (Nat.le_refl _) (.cells #[.int .i64 1] 3))
        clear hA rt
        go_wp2_with fail
        refine (unhide CP _ _ _ (unhide RQ2) (unhide RT)).mono ?_
        rintro e wp ⟨aP, cP, rfl, oP, bP⟩
        have K2p := K2a.later bP
        have jb1p := K2p.below
        have hz4 := K2.lt
        have G := hide (fun w3 (b3 : Below wp.heap.size wp w3) => signed_gives (w := w) oP jb1p b3 hz3)
        clear hz3 RT RQ2
        go_wp2_with fail
        refine (signed_any _ _ _ _ _).mono ?_
        rintro e w3 ⟨he, b3⟩
        obtain ⟨ao3, cap3, e3, o3, bb3⟩ := unhide G w3 b3
        rw [e3] at he
        subst he
        have K3 := K2p.later b3
        obtain ⟨kb3, -, -, -, -, hd0, hd1, hf0, hf1, hl3⟩ := id K3
        clear b3 G K2 K2a K2p K3 e3 jd0 jd1 jf0 jf1 bP oP
        go_wp2
        refine bodyPost_ret (v := .agg #[.bool (sg z), .slice ao3 (L z.natAbs).length cap3]) (by simp [results, Tryz.results45, go_sem, hd0, hd1]) rfl ⟨ao3, cap3, rfl, ?_, ?_⟩
        · exact ((o3.setBelow (by simp; omega) _).setBelow (by simp; omega) _).mono (by simp; omega)
        · exact (kb3.setCell (by simp; omega) _).setCell (by simp; omega) _
  · have hQ0 : Q = 0 := L_len_zero.1 (by have h0 : ¬ 0 < (L Q).length := hn; omega)
    have hn' : decide ((0 : Int) < (L Q).length) = false := decide_eq_false (by omega)
    have HZ2 := hide (show z = zof (p != q) (Q + if AZ (p != q) false R b = true then 1 else 0) by rw [unhide Hz, hQ0]; simp)
    clear Hz HL' hQ0
    go_wp2_with fail
    refine (unhide CA w1 _ (!(p == q)) false kb1 (unhide RR)).mono ?_
    rintro e w2 ⟨rfl, b2⟩
    have K2 := K1.later b2
    obtain ⟨jb1, -, -, -, -, jd0, jd1, jf0, jf1, jl⟩ := id K2
    cases hA : AZ (!(p == q)) false R b with
    | false =>
      have hz3 : z = zof (!(p == q)) Q := by rw [unhide HZ2]; change zof (!(p == q)) (Q + if AZ (!(p == q)) false R b = true then 1 else 0) = _; rw [hA]; simp
      have G := hide (fun w3 (b3 : Below w2.heap.size w2 w3) => signed_gives (w := w) (oq.later b2) jb1 b3 hz3)
      clear hz3 hA
      go_wp2_with fail
      refine (signed_any _ _ _ _ _).mono ?_
      rintro e w3 ⟨he, b3⟩
      obtain ⟨ao3, cap3, e3, o3, bb3⟩ := unhide G w3 b3
      rw [e3] at he
      subst he
      have K3 := K2.later b3
      obtain ⟨kb3, -, -, -, -, hd0, hd1, hf0, hf1, hl3⟩ := id K3
      clear b3 G K2 K3 e3 jd0 jd1 jf0 jf1
      go_wp2
      refine bodyPost_ret (v := .agg #[.bool (sg z), .slice ao3 (L z.natAbs).length cap3]) (by simp [results, Tryz.results45, go_sem, hd0, hd1]) rfl ⟨ao3, cap3, rfl, ?_, ?_⟩
      · exact ((o3.setBelow (by simp) _).setBelow (by simp) _).mono (by omega)
      · exact (kb3.setCell (by simp; omega) _).setCell (by simp; omega) _
    | true =>
      have hz3 : z = zof (!(p == q)) (Q + 1) := by rw [unhide HZ2]; change zof (!(p == q)) (Q + if AZ (!(p == q)) false R b = true then 1 else 0) = _; rw [hA]; simp
      have rt : Reads (w2.alloc (.cells #[.int .i64 1] 3)) (.slice (some ⟨w2.heap.size, 0, none⟩) 1 1) (L 1) := by rw [L1]; exact (own_one w2 1 (Nat.le_refl _)).reads
      have RT := hide rt
      have RQ2 := hide ((oq.later b2).reads.alloc (.cells #[.int .i64 1] 3))
      have K2a := K2.later ((Below.refl _ _).alloc (Nat.le_refl _) (.cells #[.int .i64 1] 3))
      clear hA rt
      go_wp2_with fail
      refine (unhide CP _ _ _ (unhide RQ2) (unhide RT)).mono ?_
      rintro e wp ⟨aP, cP, rfl, oP, bP⟩
      have K2p := K2a.later bP
      have jb1p := K2p.below
      have hz4 := K2.lt
      have G := hide (fun w3 (b3 : Below wp.heap.size wp w3) => signed_gives (w := w) oP jb1p b3 hz3)
      clear hz3 RT RQ2
      go_wp2_with fail
      refine (signed_any _ _ _ _ _).mono ?_
      rintro e w3 ⟨he, b3⟩
      obtain ⟨ao3, cap3, e3, o3, bb3⟩ := unhide G w3 b3
      rw [e3] at he
      subst he
      have K3 := K2p.later b3
      obtain ⟨kb3, -, -, -, -, hd0, hd1, hf0, hf1, hl3⟩ := id K3
      clear b3 G K2 K2a K2p K3 e3 jd0 jd1 jf0 jf1 bP oP
      go_wp2
      refine bodyPost_ret (v := .agg #[.bool (sg z), .slice ao3 (L z.natAbs).length cap3]) (by simp [results, Tryz.results45, go_sem, hd0, hd1]) rfl ⟨ao3, cap3, rfl, ?_, ?_⟩
      · exact ((o3.setBelow (by simp; omega) _).setBelow (by simp; omega) _).mono (by simp; omega)
      · exact (kb3.setCell (by simp; omega) _).setCell (by simp; omega) _

end Go.Proofs.YtjamogkenghonaaGreatDoor
