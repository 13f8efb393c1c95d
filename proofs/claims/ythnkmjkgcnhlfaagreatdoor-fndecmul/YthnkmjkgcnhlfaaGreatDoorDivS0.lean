/- The specification's quotient of limbs, by a contract. -/
import Derived.Test.YthnkmjkgcnhlfaaGreatDoorH17
import Derived.Test.YthnkmjkgcnhlfaaGreatDoorH02
import Derived.Test.YthnkmjkgcnhlfaaGreatDoorH16
import Derived.Test.YthnkmjkgcnhlfaaGreatDoorH09
namespace Go.Proofs.YthnkmjkgcnhlfaaGreatDoor
open Go.RowKit


theorem fits_end {a b low high : Nat} (h1 : low * b ≤ a) (h2 : a < high * b) (h3 : high ≤ low + 1) : low = a / b := by
  have hb : 0 < b := by
    rcases Nat.eq_zero_or_pos b with h | h
    · subst h; simp at h2
    · exact h
  refine (Nat.div_eq_of_lt_le ?_ ?_).symm
  · exact h1
  · exact Nat.lt_of_lt_of_le h2 (Nat.mul_le_mul_right b h3)

theorem cmpZ_le {x y : Int} (h : x ≤ y) : cmpZ x y ≤ 0 := by
  rcases Int.lt_trichotomy x y with h1 | h1 | h1
  · rw [cmpZ_lt h1]; decide
  · rw [cmpZ_eq h1]; decide
  · omega

set_option maxRecDepth 100000 in
theorem l1Fits_any (w : World) (u v : Value) (a b : Nat) (hu : Reads w u (L a)) (hv : Reads w v (L b)) (hab : a < 10000 * b) (hb : b < 10000 ^ 200) :
    Calls Tryz.prog 132 #[u, v] w fun e w' => e = .returned (.int .i64 ((a / b : Nat) : Int)) ∧ Below w.heap.size w w' := by
  have U := hide hu
  have V := hide hv
  have HB := hide hb
  have HAB := hide hab
  obtain ⟨ao, b1, off, cap, rfl, hu⟩ := hu
  obtain ⟨ao', b2, off', cap', rfl, hv⟩ := hv
  clear hu hv hab hb
  go_enter Tryz.func132, Tryz.ntmps132
  go_wp2
  go_loopw [5, 6] (fun lo hi wr => ∃ low high : Nat, lo = .int .i64 low ∧ hi = .int .i64 high ∧ low < high ∧ high ≤ 10000 ∧ low * b ≤ a ∧ a < high * b ∧ Below w.heap.size w wr) (fun lo hi _ => (intOf hi - intOf lo).toNat)
  case atStart => exact ⟨0, 10000, rfl, rfl, by omega, by omega, by omega, unhide HAB, Below.refl _ _⟩
  case round =>
    obtain ⟨low, high, rfl, rfl, h1, h2, h3, h4, hbel⟩ := hrel
    have H3 := hide h3
    have H4 := hide h4
    clear h3 h4
    by_cases hgo : low + 1 < high
    · obtain ⟨mid, hmid⟩ : ∃ mid : Nat, ((low : Int) + high) / 2 = mid := ⟨(low + high) / 2, by omega⟩
      have hm1 : low < mid := by omega
      have hm2 : mid < high := by omega
      have hlit : Reads (wr.alloc (.cells #[.int .i64 mid] 3)) (.slice (some ⟨wr.heap.size, 0, none⟩) 1 1) (L mid) := by
        rw [L_small (by omega) (by omega)]
        exact (own_one wr mid (B := 0) (Nat.zero_le _)).reads
      have bA := hbel.trans ((Below.refl _ _).alloc hbel.size (.cells #[.int .i64 mid] 3))
      have hmb : mid < 10000 ^ 200 := Nat.lt_of_lt_of_le (show mid < 10000 ^ 1 by omega) (Nat.pow_le_pow_right (by decide) (by decide))
      have C := hide (l1MulAbs_any _ _ _ b mid ((unhide V).later bA) hlit (unhide HB) hmb)
      clear hlit hmb
      go_wp2_with fail
      refine (unhide C).mono ?_
      rintro e w1 ⟨ao1, c1, rfl, o1, b1'⟩
      have bB := bA.trans (b1'.mono bA.size)
      have C2 := hide (l1CmpAbs_any w1 _ _ (b * mid) a o1.reads ((unhide U).later bB))
      clear C b1' bA o1
      go_wp2_with fail
      refine (unhide C2).mono ?_
      rintro e w2 ⟨rfl, b2'⟩
      have bC := bB.trans (b2'.mono bB.size)
      clear C2 b2' bB
      by_cases hc : b * mid ≤ a
      · have hcz : decide (cmpZ ((b * mid : Nat) : Int) (a : Int) ≤ 0) = true := by
          rw [decide_eq_true_eq]
          exact cmpZ_le (Int.ofNat_le.2 hc)
        have HC := hide hc
        clear hc
        generalize cmpZ ((b * mid : Nat) : Int) (a : Int) = cz at *
        go_wp2
        go_roundw
        case rel => exact ⟨mid, high, rfl, rfl, hm2, h2, by rw [Nat.mul_comm]; exact unhide HC, unhide H4, bC⟩
        case measure => simp only [intOf]; omega
      · have hcz : decide (cmpZ ((b * mid : Nat) : Int) (a : Int) ≤ 0) = false := by
          rw [decide_eq_false_iff_not, cmpZ_gt (Int.ofNat_lt.2 (Nat.lt_of_not_le hc))]
          decide
        have HC := hide hc
        clear hc
        generalize cmpZ ((b * mid : Nat) : Int) (a : Int) = cz at *
        go_wp2
        go_roundw
        case rel => exact ⟨low, mid, rfl, rfl, hm1, by omega, unhide H3, by have := unhide HC; rw [Nat.mul_comm]; omega, bC⟩
        case measure => simp only [intOf]; omega
    · have e := hide (fits_end (unhide H3) (unhide H4) (by omega))
      go_wp2
      go_ret
      exact ⟨by rw [← unhide e]; rfl, hbel⟩

theorem long_step {l out : List Int} {k r b d left : Nat} {x : Int} (hk : k < l.length) (hx : x = l.getD k 0) (hol : out.length = l.length) (hz : out.getD k 0 = 0) (hI : val out * b + r * 10000 ^ (k + 1) = 10000 ^ (k + 1) * val (l.drop (k + 1))) (hL : (left : Int) = x + 10000 * r) :
    val (out.set k d) * b + ((left : Int) - b * d) * 10000 ^ k = 10000 ^ k * val (l.drop k) := by
  rw [val_set (by omega), hz, ← List.getElem_cons_drop hk, hL]
  have e : l.getD k 0 = l[k] := by simp [List.getD_eq_getElem?_getD, List.getElem?_eq_getElem hk]
  rw [hx, e]
  simp only [val]
  rw [Int.pow_succ] at hI
  generalize (10000 : Int) ^ k = P at *
  generalize val (l.drop (k + 1)) = V at *
  generalize val out = O at *
  generalize l[k] = X at *
  have h1 : (O + ((d : Int) - 0) * P) * b = O * b + d * P * b := by rw [Int.sub_zero, Int.add_mul]
  have h2 : (X + 10000 * (r : Int) - b * d) * P = X * P + r * (P * 10000) - d * P * b := by
    rw [Int.sub_mul, Int.add_mul]
    have : 10000 * (r : Int) * P = r * (P * 10000) := by rw [Int.mul_comm 10000 (r : Int), Int.mul_assoc, Int.mul_comm 10000 P]
    have h3 : (b : Int) * d * P = d * P * b := by rw [Int.mul_assoc, Int.mul_comm (b : Int)]
    rw [this, h3]
  have h4 : P * (X + 10000 * V) = X * P + P * 10000 * V := by rw [Int.mul_add, Int.mul_comm P X, Int.mul_assoc]
  rw [h1, h2, h4, ← hI]
  omega

theorem div_end {l out : List Int} {a b r : Nat} (hl : val l = a) (hO : Lim out) (hI : val out * b + r * 10000 ^ 0 = 10000 ^ 0 * val (l.drop 0)) (hr : r < b) : trim out = L (a / b) ∧ r = a % b := by
  have h0 := val_nonneg hO
  rw [trim_eq hO]
  obtain ⟨q, hq⟩ := Int.eq_ofNat_of_zero_le h0
  rw [hq] at hI ⊢
  simp only [Int.pow_zero, Int.mul_one, Int.one_mul, List.drop_zero, hl] at hI
  have e : q * b + r = a := by exact_mod_cast hI
  have e1 : a / b = q := by
    rw [← e, Nat.mul_comm, Nat.mul_add_div (by omega), Nat.div_eq_of_lt hr]
    rfl
  have e2 : a % b = r := by
    rw [← e, Nat.mul_comm, Nat.mul_add_mod, Nat.mod_eq_of_lt hr]
  rw [e1, e2]
  exact ⟨by simp, rfl⟩

/-- What a division answers: two lists of its own, the second made ahead of the first. -/
def GivesTwo (w : World) (q r : Nat) (e : Ending) (w' : World) : Prop :=
  ∃ (qo ro : Option Addr) (qc rc B : Nat), e = .returned (.tuple #[.slice qo (L q).length qc, .slice ro (L r).length rc]) ∧ w.heap.size ≤ B ∧ Own B w' (.slice qo (L q).length qc) (L q) ∧ Own w.heap.size w' (.slice ro (L r).length rc) (L r) ∧ (∀ k, (Value.slice ro (L r).length rc).ownBlock = some k → k < B) ∧ Below w.heap.size w w'

set_option maxHeartbeats 1000000 in
set_option maxRecDepth 100000 in
theorem l1DivAbs_any (w : World) (u v : Value) (a b : Nat) (hu : Reads w u (L a)) (hv : Reads w v (L b)) (hb0 : 0 < b) (ha : a < 10000 ^ 100) (hb : b < 10000 ^ 100) :
    Calls Tryz.prog 107 #[u, v] w (GivesTwo w (a / b) (a % b)) := by
  have hla := L_len_le ha
  have hlim := L_lim a
  have hva := val_L a
  have hb200 : b < 10000 ^ 200 := Nat.lt_of_lt_of_le hb (Nat.pow_le_pow_right (by decide) (by decide))
  have hb101 : 10000 * b < 10000 ^ 200 := by
    have h1 : 10000 * b < 10000 ^ 101 := by rw [Nat.pow_succ, Nat.mul_comm]; exact Nat.mul_lt_mul_of_pos_right hb (by decide)
    exact Nat.lt_of_lt_of_le h1 (Nat.pow_le_pow_right (by decide) (by decide))
  have HB2 := hide hb200
  have HB3 := hide hb101
  have HVA := hide hva
  have hlenb : ∀ r, r < b → (L r).length ≤ 100 := fun r hr => L_len_le (Nat.lt_trans hr hb)
  have HLB := hide hlenb
  clear ha hb hb200 hb101 hva hlenb
  generalize L a = l at *
  have V := hide hv
  obtain ⟨ao', b2, off', cap', rfl, hv⟩ := hv
  clear hv
  obtain ⟨ao, b1, off, cap, rfl, hu⟩ := hu
  have h1 := hu.le
  have h2 := hu.big
  unfold maxLen at h2
  obtain ⟨i0, hi, hz0, hz1, hz2⟩ := info_parts Tryz.info3
  go_enter Tryz.func107, Tryz.ntmps107
  go_wp2_with (at_make; refine wpList_make_full _ rfl _ _ 23 rfl w.heap.size 3 i0 (.int .i64 0) 1 Tryz.underlying23 hi hz0 hz1 _ _ _ _ l.length rfl rfl (by omega) (by omega) ?b2 ?b3 (Nat.le_refl _) ?_)
  case b2 => rw [hz2]; omega
  case b3 => unfold maxLen; omega
  intro w0 hown0 hgrow0
  have e0 : (madeCells #[Value.int .i64 0] l.length).toList = ints (List.replicate l.length 0) := by rw [toList_madeCells_one, ints_zeros]
  have own0 : Own w.heap.size w0 (.slice (some ⟨w.heap.size, 0, none⟩) l.length l.length) (List.replicate l.length 0) := by
    unfold Own
    rw [List.length_replicate, ← e0]
    simpa using hown0
  have bel0 : Below w.heap.size w w0 := (Below.refl _ _).grown hgrow0 (Nat.le_refl _) (fun k h => by cases h)
  have hs0 : w.heap.size < w0.heap.size := (own0.lt _ rfl).2
  clear hown0 hgrow0 e0
  go_wp2
  go_loopw [7, 8, 9] (fun ll ii _ wr => ∃ (k r : Nat) (out : List Int) (lo : Option Addr) (lc : Nat), ii = .int .i64 ((k : Int) - 1) ∧ k ≤ l.length ∧ ll = .slice lo (L r).length lc ∧ r < b ∧ out.length = l.length ∧ Lim out ∧ (∀ j, j < k → out.getD j 0 = 0) ∧
      val out * b + r * 10000 ^ k = 10000 ^ k * val (l.drop k) ∧ Own w.heap.size wr (.slice (some ⟨w.heap.size, 0, none⟩) l.length l.length) out ∧ Own (w.heap.size + 1) wr (.slice lo (L r).length lc) (L r) ∧ Below w.heap.size w wr)
    (fun _ ii _ _ => (intOf ii + 1).toNat)
  case atStart =>
    refine ⟨l.length, 0, List.replicate l.length 0, some ⟨w0.heap.size, 0, none⟩, 0, rfl, Nat.le_refl _, by rw [L_zero]; rfl, hb0, by simp, Lim.zeros _, fun j hj => by simp [List.getD_eq_getElem?_getD, hj], ?_, own0.later ((Below.refl _ _).alloc (Nat.le_refl _) _), ?_, bel0.alloc bel0.size _⟩
    · rw [val_replicate, List.drop_length]
      simp [val]
    · rw [L_zero]
      exact own_empty w0 (by omega)
  case round =>
    obtain ⟨k, r, out, lo, lc, rfl, hk, rfl, hrb, hol, hlimo, hz, hI, hown, hleft, hbel⟩ := hrel
    have HI := hide hI
    have HZ := hide hz
    have HOL := hide hol
    have hfz := hbel.size
    have hs1 : w.heap.size < wr.heap.size := (hown.lt _ rfl).2
    have hLr := unhide HLB r hrb
    clear hI hz hol own0 bel0 hs0 i0 hi hz0 hz1 hz2
    by_cases h : 0 < k
    · obtain ⟨k', rfl⟩ : ∃ k', k = k' + 1 := ⟨k - 1, by omega⟩
      have hki : ((k' + 1 : Nat) : Int) - 1 = k' := by omega
      rw [hki]
      have hkl : k' < l.length := by omega
      have hc := (hu.later hbel).cell k' hkl
      have hx1 := hlim.at hkl
      have hat := hu.at_ (by omega)
      subst hat
      obtain ⟨x, hx⟩ : ∃ x : Nat, l[k'] = x := ⟨l[k'].toNat, by omega⟩
      rw [hx] at hc hx1
      have hR := hide (fun o => hleft.reads.alloc o)
      obtain ⟨left, hleftv⟩ : ∃ left : Nat, left = x + 10000 * r := ⟨_, rfl⟩
      have hlb : left < 10000 * b := by omega
      have hle200 : left < 10000 ^ 200 := Nat.lt_trans hlb (unhide HB3)
      have etl : trim ((x : Int) :: L r) = L left := by
        have hl2 : Lim ((x : Int) :: L r) := Lim.app (Lim.one (by omega) (by omega)) (L_lim r)
        rw [trim_eq hl2]
        simp only [val, val_L]
        congr 1
        omega
      have ETL := hide etl
      have HLE := hide hle200
      have HLV := hide hleftv
      have HX := hide hx
      clear etl hle200 hx hleftv hki
      have hlx : ([(x : Int)]).length + (L r).length ≤ 8000000 := by simp; omega
      go_wp2_with (at_builtin; refine wpList_pushAll rfl _ _ 23 rfl Tryz.underlying23 wr.heap.size _ [(x : Int)] (own_one _ _ (Nat.le_refl _)) rfl _ (L r) (unhide hR _) rfl hlx (by simp) ?_; intro ao1 cap1 w1 ho1 hb1)
      have ho2 : Own wr.heap.size w1 (.slice ao1 ((L r).length + 1) cap1) ((x : Int) :: L r) := ho1
      have bw1 : Below wr.heap.size wr w1 := ((Below.refl _ _).alloc (Nat.le_refl _) _).trans hb1
      have C2 := hide (l1Trim_any w1 _ _ ho2.reads (by rw [List.length_cons]; omega))
      rw [unhide ETL] at C2
      clear ho1 ho2 hb1 hR hc hlx
      refine (unhide C2).mono ?_
      rintro e w2 ⟨ao2, c2, rfl, o2, b2'⟩
      have bw2 := bw1.trans (b2'.mono bw1.size)
      have C3 := hide (l1Fits_any w2 _ _ left b o2.reads ((unhide V).later (hbel.trans (bw2.mono hfz))) hlb (unhide HB2))
      have hw12 := bw1.size
      clear C2 b2' bw1
      go_wp2_with fail
      refine (unhide C3).mono ?_
      rintro e w3 ⟨rfl, b3'⟩
      have o3 := o2.later b3'
      have bw3 := bw2.trans (b3'.mono bw2.size)
      clear C3 b3' bw2 o2
      have hd1 : left / b < 10000 := Nat.div_lt_of_lt_mul (by rw [Nat.mul_comm]; exact hlb)
      have hd2 : b * (left / b) ≤ left := Nat.mul_div_le left b
      have hd3 : left - b * (left / b) < b := by
        have := Nat.mod_lt left hb0
        have e := Nat.div_add_mod left b
        omega
      generalize left / b = d at *
      have own3 := hown.later bw3
      have hcell := own3.cellAt (i := k') (by rw [unhide HOL]; exact hkl)
      have hfro := own3.frozenAt k'
      have hst := own3.store k' (d : Int)
      have o4 := o3.setBelow (a := ⟨w.heap.size, k', none⟩) (by simp; omega) (.int .i64 (d : Int))
      have B3 := hbel.trans (bw3.mono hfz)
      have B4 := B3.setCell (p := ⟨w.heap.size, k', none⟩) (Nat.le_refl _) (.int .i64 (d : Int))
      have hs3 : w.heap.size < w3.heap.size := (own3.lt _ rfl).2
      have H4 := hide hst.1
      have HD2 := hide hd2
      have HD3 := hide hd3
      clear hst own3 o3 bw3 hd2 hd3
      have etd : trim [(d : Int)] = L d := by
        rw [trim_eq (Lim.one (by omega) (by omega)), val_one]
        rfl
      have C4 := hide (l1Trim_any _ _ [(d : Int)] (own_one (w3.setCell ⟨w.heap.size, k', none⟩ (.int .i64 (d : Int))) (d : Int) (B := 0) (Nat.zero_le _)).reads (by simp))
      rw [etd] at C4
      clear etd
      generalize hW4 : w3.setCell ⟨w.heap.size, k', none⟩ (.int .i64 (d : Int)) = w4 at *
      go_wp2_with fail
      refine (unhide C4).mono ?_
      rintro e w5 ⟨ao5, c5, rfl, o5, b5'⟩
      have bw5 : Below w4.heap.size w4 w5 := ((Below.refl _ _).alloc (Nat.le_refl _) _).trans (b5'.mono (by simp))
      have hd200 : d < 10000 ^ 200 := Nat.lt_of_lt_of_le (show d < 10000 ^ 1 by omega) (Nat.pow_le_pow_right (by decide) (by decide))
      have C5 := hide (l1MulAbs_any w5 _ _ b d ((unhide V).later (B4.trans (bw5.mono B4.size))) o5.reads (unhide HB2) hd200)
      clear C4 b5' hd200 o5
      go_wp2_with fail
      refine (unhide C5).mono ?_
      rintro e w6 ⟨ao6, c6, rfl, o6, b6'⟩
      have bw6 := bw5.trans (b6'.mono bw5.size)
      have C6 := hide (l1SubAbs_any w6 _ _ left (b * d) (o4.later bw6).reads o6.reads (unhide HLE) (unhide HD2))
      clear C5 b6' bw5 o6
      go_wp2_with fail
      refine (unhide C6).mono ?_
      rintro e w7 ⟨ao7, c7, rfl, o7, b7'⟩
      have bw7 := bw6.trans (b7'.mono bw6.size)
      have hs6 : w.heap.size + 1 ≤ w6.heap.size := by
        have e1 := (unhide H4).lt _ rfl
        have e2 := bw6.size
        omega
      clear C6 b7' bw6 o4
      go_wp2
      go_roundw
      case rel =>
        refine ⟨k', left - b * d, out.set k' (d : Int), ao7, c7, rfl, by omega, rfl, unhide HD3, by rw [List.length_set]; exact unhide HOL, hlimo.set k' (by omega) (by omega), ?_, ?_, (unhide H4).later bw7, o7.mono hs6, B4.trans (bw7.mono B4.size)⟩
        · intro j hj
          have := unhide HZ j (by omega)
          rw [List.getD_eq_getElem?_getD, List.getElem?_set_ne (by omega), ← List.getD_eq_getElem?_getD]
          exact this
        · have hxx : (x : Int) = l.getD k' 0 := by
            rw [← unhide HX]
            simp [List.getD_eq_getElem?_getD, List.getElem?_eq_getElem hkl]
          have hLL : (left : Int) = (x : Int) + 10000 * r := by
            have := unhide HLV
            omega
          have := long_step (b := b) (d := d) hkl hxx (unhide HOL) (unhide HZ k' (by omega)) (unhide HI) hLL
          rw [Int.natCast_sub (unhide HD2), Int.natCast_mul]
          exact this
      case measure => simp only [intOf]; omega
    · have hk0 : k = 0 := by omega
      subst hk0
      have hE := div_end (unhide HVA) hlimo (unhide HI) hrb
      have C := hide (l1Trim_any wr _ out hown.reads (by rw [unhide HOL]; omega))
      rw [hE.1] at C
      have hr2 := hide hE.2
      clear hE HI
      go_wp2_with fail
      refine (unhide C).mono ?_
      rintro e w2 ⟨ao2, c2, rfl, o2, bb2⟩
      have hb3 := hbel.trans (bb2.mono hfz)
      have hl3 := hleft.later bb2
      clear C bb2
      go_wp2
      refine bodyPost_ret (v := .tuple #[.slice ao2 (L (a / b)).length c2, .slice lo (L r).length lc]) (by simp [results, Tryz.results107, go_sem]) rfl ?_
      rw [← unhide hr2]
      exact ⟨ao2, lo, c2, lc, wr.heap.size, rfl, hfz, o2, hl3.mono (by omega), fun j hj => (hleft.lt j hj).2, hb3⟩

end Go.Proofs.YthnkmjkgcnhlfaaGreatDoor
