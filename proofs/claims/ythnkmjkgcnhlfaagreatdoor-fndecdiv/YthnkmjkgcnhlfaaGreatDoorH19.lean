/- A quotient rounded: roundedQuotient of the program, by a contract. The specification's limbs, by contracts: noughts struck, a sum, a difference. -/
import Derived.Test.YthnkmjkgcnhlfaaGreatDoorCutA
import Derived.Test.YthnkmjkgcnhlfaaGreatDoorK04
import Derived.Test.YthnkmjkgcnhlfaaGreatDoorH04
import Derived.Deep.RegionHeld
import Derived.Deep.RegionHeld3
import Derived.Test.YthnkmjkgcnhlfaaGreatDoorH17
import Derived.Test.YthnkmjkgcnhlfaaGreatDoorH09
import Derived.Test.YthnkmjkgcnhlfaaGreatDoorH02
import Derived.Test.YthnkmjkgcnhlfaaGreatDoorH01
import Derived.Test.YthnkmjkgcnhlfaaGreatDoorH00
import Derived.WalkLawsBesides
import Derived.Deep.QuietTactic
import Derived.BigQuiet
import Derived.WalkSmall
import Derived.Deep.RegionWith
namespace Go.Proofs.YthnkmjkgcnhlfaaGreatDoor
open Go.RowKit
set_option maxRecDepth 100000

/-- A quotient rounded, signs apart. -/
def qrd (neg : Bool) (a b : Nat) (mode : Int) : Nat := a / b + (if awayZ mode neg (decide ((a / b) % 2 = 1)) (a % b) b = true then 1 else 0)

theorem qrd_le (neg : Bool) (a b : Nat) (mode : Int) : qrd neg a b mode ≤ a + 1 := by
  unfold qrd
  have := Nat.div_le_self a b
  split <;> omega

theorem L1 : L 1 = [1] := by rw [L_pos (by decide)]; simp [L_zero]

theorem L_first {n : Nat} (h : 0 < (L n).length) : (L n)[0] = ((n % 10000 : Nat) : Int) := by
  have hn : 0 < n := by
    rcases Nat.eq_zero_or_pos n with h0 | h0
    · subst h0; rw [L_zero] at h; simp at h
    · exact h0
  simp only [L_pos hn, List.getElem_cons_zero]

/-- Two numbers in their boxes, and the place for a third. -/
structure Bx3 (w0 w' : World) (p : Bool) (u : Value) (q : Bool) (v : Value) : Prop where
  below : Below w0.heap.size w0 w'
  a0 : w'.cell? ⟨w0.heap.size, 0, none⟩ = some (.bool p)
  a1 : w'.cell? ⟨w0.heap.size, 1, none⟩ = some u
  b0 : w'.cell? ⟨w0.heap.size + 1, 0, none⟩ = some (.bool q)
  b1 : w'.cell? ⟨w0.heap.size + 1, 1, none⟩ = some v
  c0 : w'.cell? ⟨w0.heap.size + 1 + 1, 0, none⟩ = some (.bool false)
  c1 : w'.cell? ⟨w0.heap.size + 1 + 1, 1, none⟩ = some (.slice none 0 0)
  f0 : w'.frozen? ⟨w0.heap.size + 1 + 1, 0, none⟩ = false
  f1 : w'.frozen? ⟨w0.heap.size + 1 + 1, 1, none⟩ = false
  lt : w0.heap.size + 1 + 1 < w'.heap.size

theorem Bx3.later {w0 w w' : World} {p q : Bool} {u v : Value} (h : Bx3 w0 w p u q v) (k : Below w.heap.size w w') : Bx3 w0 w' p u q v :=
  ⟨h.below.trans (k.mono h.below.size), cell_later k h.a0, cell_later k h.a1, cell_later k h.b0, cell_later k h.b1, cell_later k h.c0, cell_later k h.c1, frozen_later k h.f0 h.lt, frozen_later k h.f1 h.lt, lt_later k h.lt⟩

theorem Bx3.start (w : World) (p q : Bool) (u v : Value) : Bx3 w (((w.alloc (.cells #[.bool p, u] 25)).alloc (.cells #[.bool q, v] 25)).alloc (.cells #[.bool false, .slice none 0 0] 25)) p u q v :=
  ⟨(((Below.refl _ _).alloc (Nat.le_refl _) _).alloc (by simp) _).alloc (by simp; omega) _, by go_simp, by go_simp, by go_simp, by go_simp, by go_simp, by go_simp, by go_simp, by go_simp, by simp⟩

-- TAIL
set_option maxHeartbeats 4000000 in
theorem roundedQuotient_any (w : World) (p q : Bool) (u v : Value) (a b : Nat) (mode : Int) (hu : Reads w u (L a)) (hv : Reads w v (L b)) (hb0 : 0 < b) (ha : a < 10000 ^ 99) (hb : b < 10000 ^ 99) (h1 : 1 ≤ mode) (h7 : mode ≤ 7) (z : Int) (hz : z = zof (p != q) (qrd (p != q) a b mode)) :
    Calls Tryz.prog 70 #[.agg #[.bool p, u], .agg #[.bool q, v], .int .i64 mode] w (GivesBig w (sg z) (L z.natAbs)) := by
  have CT := hide (fun W (h : Below w.heap.size w W) => through_any W _ _ a b (hu.later h) (hv.later h) hb0 ha hb)
  have hR : a % b < 10000 ^ 199 := Nat.lt_trans (Nat.mod_lt _ hb0) (Nat.lt_of_lt_of_le hb (Nat.pow_le_pow_right (by decide) (by decide)))
  have hQ : a / b < 10000 ^ 200 := Nat.lt_of_le_of_lt (Nat.div_le_self _ _) (Nat.lt_of_lt_of_le ha (Nat.pow_le_pow_right (by decide) (by decide)))
  have CA := hide (fun W x (n o : Bool) (h : Below w.heap.size w W) (hx : Reads W x (L (a % b))) => away_any W n o x _ (a % b) b mode hx (hv.later h) hR hb0 h1 h7)
  have CP := hide (fun W x y (hx : Reads W x (L (a / b))) (hy : Reads W y (L 1)) => plus_any W x y (a / b) 1 hx hy hQ (Nat.one_lt_pow (by decide) (by decide)))
  unfold qrd at hz
  obtain ⟨ao, b1, off, cap, rfl, hu0⟩ := id hu
  obtain ⟨ao', b2, off', cap', rfl, hv0⟩ := id hv
  clear hu0 hv0 hu hv hR hQ ha hb hb0
  generalize awayZ mode = AZ at *
  have HL : ∀ h : 0 < (L (a / b)).length, (L (a / b))[0] = ((a / b % 10000 : Nat) : Int) := fun h => L_first h
  have HO : decide (a / b % 2 = 1) = decide (a / b % 10000 % 2 = 1) := decide_eq_decide.2 (by omega)
  rw [HO] at hz
  generalize a / b = Q at *
  generalize a % b = R at *
  have Hz := hide hz
  have HL' := hide HL
  clear hz HL HO
  have K0 := Bx3.start w p q (.slice ao (L a).length cap) (.slice ao' (L b).length cap')
  go_enter Tryz.func70, Tryz.ntmps70
  go_wp2_with fail
  refine (unhide CT _ K0.below).mono ?_
  rintro e w1 ⟨qo, ro, qc, rc, rfl, oq, lq, orr, zz, b1⟩
  have K1 := K0.later b1
  obtain ⟨kb1, ka0, ka1, kc0, kc1, kd0, kd1, kf0, kf1, kl⟩ := id K1
  clear b1 CT K0
  simp only [World.size_alloc] at oq lq orr zz
  have RR := hide orr.reads
  have RQ := hide oq.reads
  clear orr
  by_cases hn : 0 < (L Q).length
  · rcases oq.split with ⟨e1, hz0⟩ | ⟨g, capo', e1, hBg, hgs, hcapo, hmo⟩
    · rw [hz0] at hn
      simp at hn
    · simp only [Value.slice.injEq] at e1
      obtain ⟨rfl, hz2, rfl⟩ := e1
      have c0 := oq.cellAt (i := 0) (by simpa using hn)
      have c0' : w1.cell? ⟨g, 0, none⟩ = some (.int .i64 ((Q % 10000 : Nat) : Int)) := c0.trans (by rw [unhide HL' hn])
      clear c0 hz2
      have hx : Q % 10000 < 10000 := Nat.mod_lt _ (by decide)
      generalize Q % 10000 = x at *
      obtain ⟨o, ho⟩ : ∃ o, decide (x % 2 = 1) = o := ⟨_, rfl⟩
      have t1 : (x : Int).tmod 2 = ((x % 2 : Nat) : Int) := by rw [Int.tmod_eq_emod_of_nonneg (by omega)]; rfl
      have o1 : (((x : Int).tmod 2) == 1) = o := by rw [t1, ← ho, Bool.eq_iff_iff]; simp; omega
      have o2 : (((x : Int) % 2) == 1) = o := by rw [← ho, Bool.eq_iff_iff]; simp; omega
      clear t1
      have hn' : decide ((0 : Int) < (L Q).length) = true := by simp; omega
      rw [ho] at Hz
      clear ho
      go_wp2_with fail
      refine (unhide CA w1 _ (!(p == q)) o kb1 (unhide RR)).mono ?_
      rintro e w2 ⟨rfl, b2⟩
      have K2 := K1.later b2
      obtain ⟨jb1, -, -, -, -, jd0, jd1, jf0, jf1, jl⟩ := id K2
      cases hA : AZ (!(p == q)) o R b with
      | false =>
        have hz3 : z = zof (!(p == q)) Q := by rw [unhide Hz]; change zof (!(p == q)) (Q + if AZ (!(p == q)) o R b = true then 1 else 0) = _; rw [hA]; simp
        have G := hide (fun w3 (b3 : Below w2.heap.size w2 w3) => signed_gives (w := w) (oq.later b2) jb1 b3 hz3)
        clear hz3 hA
        go_wp2_with fail
        refine (signed_any _ _ _ _ _).mono ?_
        rintro e w3 ⟨he, b3⟩
        obtain ⟨ao3, cap3, e3, o3, bb3⟩ := unhide G w3 b3
        rw [e3] at he
        subst he
        have K3 := K2.later b3
        obtain ⟨kb3, -, -, -, -, hd0, hd1, hf0, hf1, hl3⟩ := id K3
        clear b3 G K2 K3 e3 jd0 jd1 jf0 jf1
        go_wp2
        refine bodyPost_ret (v := .agg #[.bool (sg z), .slice ao3 (L z.natAbs).length cap3]) (by simp [results, Tryz.results70, go_sem, hd0, hd1]) rfl ⟨ao3, cap3, rfl, ?_, ?_⟩
        · exact ((o3.setBelow (by simp) _).setBelow (by simp) _).mono (by omega)
        · exact (kb3.setCell (by simp; omega) _).setCell (by simp; omega) _
      | true =>
        have hz3 : z = zof (!(p == q)) (Q + 1) := by rw [unhide Hz]; change zof (!(p == q)) (Q + if AZ (!(p == q)) o R b = true then 1 else 0) = _; rw [hA]; simp
        have rt : Reads (w2.alloc (.cells #[.int .i64 1] 3)) (.slice (some ⟨w2.heap.size, 0, none⟩) 1 1) (L 1) := by rw [L1]; exact (own_one w2 1 (Nat.le_refl _)).reads
        have RT := hide rt
        have RQ2 := hide ((oq.later b2).reads.alloc (.cells #[.int .i64 1] 3))
        have K2a := K2.later ((Below.refl _ _).alloc (Nat.le_refl _) (.cells #[.int .i64 1] 3))
        clear hA rt
        go_wp2_with fail
        refine (unhide CP _ _ _ (unhide RQ2) (unhide RT)).mono ?_
        rintro e wp ⟨aP, cP, rfl, oP, bP⟩
        have K2p := K2a.later bP
        have jb1p := K2p.below
        have hz4 := K2.lt
        have G := hide (fun w3 (b3 : Below wp.heap.size wp w3) => signed_gives (w := w) oP jb1p b3 hz3)
        clear hz3 RT RQ2
        go_wp2_with fail
        refine (signed_any _ _ _ _ _).mono ?_
        rintro e w3 ⟨he, b3⟩
        obtain ⟨ao3, cap3, e3, o3, bb3⟩ := unhide G w3 b3
        rw [e3] at he
        subst he
        have K3 := K2p.later b3
        obtain ⟨kb3, -, -, -, -, hd0, hd1, hf0, hf1, hl3⟩ := id K3
        clear b3 G K2 K2a K2p K3 e3 jd0 jd1 jf0 jf1 bP oP
        go_wp2
        refine bodyPost_ret (v := .agg #[.bool (sg z), .slice ao3 (L z.natAbs).length cap3]) (by simp [results, Tryz.results70, go_sem, hd0, hd1]) rfl ⟨ao3, cap3, rfl, ?_, ?_⟩
        · exact ((o3.setBelow (by simp; omega) _).setBelow (by simp; omega) _).mono (by simp; omega)
        · exact (kb3.setCell (by simp; omega) _).setCell (by simp; omega) _
  · have hQ0 : Q = 0 := L_len_zero.1 (by have h0 : ¬ 0 < (L Q).length := hn; omega)
    have hn' : decide ((0 : Int) < (L Q).length) = false := decide_eq_false (by omega)
    have HZ2 := hide (show z = zof (p != q) (Q + if AZ (p != q) false R b = true then 1 else 0) by rw [unhide Hz, hQ0]; simp)
    clear Hz HL' hQ0
    go_wp2_with fail
    refine (unhide CA w1 _ (!(p == q)) false kb1 (unhide RR)).mono ?_
    rintro e w2 ⟨rfl, b2⟩
    have K2 := K1.later b2
    obtain ⟨jb1, -, -, -, -, jd0, jd1, jf0, jf1, jl⟩ := id K2
    cases hA : AZ (!(p == q)) false R b with
    | false =>
      have hz3 : z = zof (!(p == q)) Q := by rw [unhide HZ2]; change zof (!(p == q)) (Q + if AZ (!(p == q)) false R b = true then 1 else 0) = _; rw [hA]; simp
      have G := hide (fun w3 (b3 : Below w2.heap.size w2 w3) => signed_gives (w := w) (oq.later b2) jb1 b3 hz3)
      clear hz3 hA
      go_wp2_with fail
      refine (signed_any _ _ _ _ _).mono ?_
      rintro e w3 ⟨he, b3⟩
      obtain ⟨ao3, cap3, e3, o3, bb3⟩ := unhide G w3 b3
      rw [e3] at he
      subst he
      have K3 := K2.later b3
      obtain ⟨kb3, -, -, -, -, hd0, hd1, hf0, hf1, hl3⟩ := id K3
      clear b3 G K2 K3 e3 jd0 jd1 jf0 jf1
      go_wp2
      refine bodyPost_ret (v := .agg #[.bool (sg z), .slice ao3 (L z.natAbs).length cap3]) (by simp [results, Tryz.results70, go_sem, hd0, hd1]) rfl ⟨ao3, cap3, rfl, ?_, ?_⟩
      · exact ((o3.setBelow (by simp) _).setBelow (by simp) _).mono (by omega)
      · exact (kb3.setCell (by simp; omega) _).setCell (by simp; omega) _
    | true =>
      have hz3 : z = zof (!(p == q)) (Q + 1) := by rw [unhide HZ2]; change zof (!(p == q)) (Q + if AZ (!(p == q)) false R b = true then 1 else 0) = _; rw [hA]; simp
      have rt : Reads (w2.alloc (.cells #[.int .i64 1] 3)) (.slice (some ⟨w2.heap.size, 0, none⟩) 1 1) (L 1) := by rw [L1]; exact (own_one w2 1 (Nat.le_refl _)).reads
      have RT := hide rt
      have RQ2 := hide ((oq.later b2).reads.alloc (.cells #[.int .i64 1] 3))
      have K2a := K2.later ((Below.refl _ _).alloc (Nat.le_refl _) (.cells #[.int .i64 1] 3))
      clear hA rt
      go_wp2_with fail
      refine (unhide CP _ _ _ (unhide RQ2) (unhide RT)).mono ?_
      rintro e wp ⟨aP, cP, rfl, oP, bP⟩
      have K2p := K2a.later bP
      have jb1p := K2p.below
      have hz4 := K2.lt
      have G := hide (fun w3 (b3 : Below wp.heap.size wp w3) => signed_gives (w := w) oP jb1p b3 hz3)
      clear hz3 RT RQ2
      go_wp2_with fail
      refine (signed_any _ _ _ _ _).mono ?_
      rintro e w3 ⟨he, b3⟩
      obtain ⟨ao3, cap3, e3, o3, bb3⟩ := unhide G w3 b3
      rw [e3] at he
      subst he
      have K3 := K2p.later b3
      obtain ⟨kb3, -, -, -, -, hd0, hd1, hf0, hf1, hl3⟩ := id K3
      clear b3 G K2 K2a K2p K3 e3 jd0 jd1 jf0 jf1 bP oP
      go_wp2
      refine bodyPost_ret (v := .agg #[.bool (sg z), .slice ao3 (L z.natAbs).length cap3]) (by simp [results, Tryz.results70, go_sem, hd0, hd1]) rfl ⟨ao3, cap3, rfl, ?_, ?_⟩
      · exact ((o3.setBelow (by simp; omega) _).setBelow (by simp; omega) _).mono (by simp; omega)
      · exact (kb3.setCell (by simp; omega) _).setCell (by simp; omega) _

end Go.Proofs.YthnkmjkgcnhlfaaGreatDoor

namespace Go.Proofs.YthnkmjkgcnhlfaaGreatDoor
open Go.RowKit
set_option maxRecDepth 100000


theorem l1AddAbs_any (w : World) (u v : Value) (a b : Nat) (hu : Reads w u (L a)) (hv : Reads w v (L b)) (ha : a < 10000 ^ 200) (hb : b < 10000 ^ 200) :
    Calls Tryz.prog 116 #[u, v] w (Gives w (L (a + b))) := by
  have hla := L_len_le ha
  have hlb := L_len_le hb
  have hab : a + b < 10000 ^ 201 := by rw [show (201 : Nat) = 200 + 1 from rfl, Nat.pow_succ]; generalize 10000 ^ 200 = P at *; omega
  have hla' := L_lim a
  have hlb' := L_lim b
  have hstep := @add_end
  have va := val_L a
  have vb := val_L b
  clear ha hb
  have U := hide hu
  have V := hide hv
  obtain ⟨ao, b1, off, cap, rfl, hu⟩ := hu
  obtain ⟨ao', b2, off', cap', rfl, hv⟩ := hv
  have h1 := hu.le
  have h2 := hu.big
  have h3 := hv.le
  have h4 := hv.big
  unfold maxLen at h2 h4
  clear hu hv hstep
  have HAB := hide hab
  have HVA := hide va
  have HVB := hide vb
  clear hab va vb
  go_enter Tryz.func116, Tryz.ntmps116
  go_wp2
  go_loopw [5, 6, 7] (fun s o ii wr => ∃ (i : Nat) (over : Int) (out : List Int), ii = .int .i64 i ∧ o = .int .i64 over ∧ out.length = i ∧ Lim out ∧ val out + over * 10000 ^ i = val ((L a).take i) + val ((L b).take i) ∧ 0 ≤ over ∧ over ≤ 1 ∧
      Own w.heap.size wr s out ∧ Below w.heap.size w wr ∧ i ≤ 201)
    (fun _ o ii _ => 2000 - (intOf ii).toNat)
  case atStart => exact ⟨0, 0, [], rfl, rfl, rfl, Lim.nil, by simp [val], by omega, by omega, own_empty w (Nat.le_refl _), (Below.refl _ _).alloc (Nat.le_refl _) _, by omega⟩
  case round =>
    obtain ⟨i, over, out, rfl, rfl, hi', hlim, hval, ho1, ho2, hown, hbel, hi1⟩ := hrel
    have HI := hide hi'
    have HVal := hide hval
    clear hi' hval
    have hsz := hbel.size
    have U' := hide ((unhide U).later hbel)
    have V' := hide ((unhide V).later hbel)
    have hx1 := hla'.getD i
    have hx2 := hlb'.getD i
    by_cases hgo : i < (L a).length ∨ i < (L b).length ∨ 0 < over
    · have hi2 : i < 201 := by
        rcases hgo with h | h | h
        · omega
        · omega
        · by_cases h5 : (L a).length ≤ i ∧ (L b).length ≤ i
          · have e := unhide HVal
            rw [List.take_of_length_le h5.1, List.take_of_length_le h5.2, unhide HVA, unhide HVB] at e
            have := carry_more (n := a + b) hlim (by rw [unhide HI]; omega) h (unhide HAB)
            rw [unhide HI] at this
            exact this
          · omega
      have R := add_step (unhide HI) (unhide HVal) (x := (L a).getD i 0 + (L b).getD i 0 + over) rfl
      have HR := hide R
      have hol : out.length ≤ 8000000 := by rw [unhide HI]; omega
      clear R
      have C1 := hide (fun W (h : Reads W (Value.slice ao (L a).length cap) (L a)) => l1Limb_any W _ (L a) i h (by omega))
      have C2 := hide (fun W (h : Reads W (Value.slice ao' (L b).length cap') (L b)) => l1Limb_any W _ (L b) i h (by omega))
      generalize hxa : (L a).getD i 0 = xa at *
      generalize hxb : (L b).getD i 0 = xb at *
      have Hxa := hide hxa
      have Hxb := hide hxb
      clear hxa hxb
      obtain ⟨hx1, hx3⟩ := hx1
      obtain ⟨hx2, hx4⟩ := hx2
      have shape := hown.split
      have hown' := hide hown
      have cases3 : (i < (L a).length) ∨ (¬ i < (L a).length ∧ i < (L b).length) ∨ (¬ i < (L a).length ∧ ¬ i < (L b).length ∧ 0 < over) := by omega
      clear hgo hown
      rcases cases3 with c1 | ⟨c1, c2⟩ | ⟨c1, c2, c3⟩
      all_goals
        rcases shape with ⟨rfl, h0⟩ | ⟨g, capo, rfl, hBg, hgs, hcapo, hmo⟩
      all_goals
        try clear h0
        go_wp2_with (first
          | (go_at_call_of 122 (Value.slice ao (L a).length cap); refine (unhide C1 _ (unhide U')).mono ?_; rintro e w1 ⟨rfl, rfl⟩)
          | (go_at_call_of 122 (Value.slice ao' (L b).length cap'); refine (unhide C2 _ (unhide V')).mono ?_; rintro e w1 ⟨rfl, rfl⟩)
          | (at_builtin; refine wpList_push rfl _ _ 23 rfl Tryz.underlying23 w.heap.size _ out _ (unhide hown') rfl rfl hol hsz ?_; intro g1 cap1 w1 hown1 hb1 hc1 hm1 hBg1 hgs1))
        go_roundw
        case rel => exact ⟨i + 1, _, _, by go_num, rfl, by simp [unhide HI], hlim.app (Lim.one (by omega) (by omega)), unhide HR, by omega, by omega, hown1, hbel.trans hb1, by omega⟩
        case measure => simp [intOf]; omega
    · have hc1 : (L a).length ≤ i := by omega
      have hc2 : (L b).length ≤ i := by omega
      have hov : over = 0 := by omega
      subst hov
      have e := unhide HVal
      have etr := add_end (a := a) (b := b) hlim hc1 hc2 (by simpa using e)
      have fin : ∀ e w1, Gives wr (trim out) e w1 → Gives w (L (a + b)) e w1 := by
        rintro e w1 ⟨ao, cap, rfl, ho, hb⟩
        rw [etr] at ho ⊢
        exact ⟨ao, cap, rfl, ho.mono hsz, hbel.trans (hb.mono hsz)⟩
      have HFin := hide fin
      have hcall := l1Trim_any wr u5 out hown.reads (by rw [unhide HI]; omega)
      have HCall := hide hcall
      clear e etr fin hcall hgo
      rcases hown.split with ⟨rfl, h0⟩ | ⟨g, capo, rfl, hBg, hgs, hcapo, hmo⟩
      all_goals
        go_wp2_with fail
        refine (unhide HCall).mono ?_
        intro e w1 h
        obtain ⟨ao1, cap1, rfl, ho1, hb1⟩ := unhide HFin e w1 h
        go_wp2
        go_ret
        exact ⟨ao1, cap1, rfl, ho1, hb1⟩

end Go.Proofs.YthnkmjkgcnhlfaaGreatDoor
