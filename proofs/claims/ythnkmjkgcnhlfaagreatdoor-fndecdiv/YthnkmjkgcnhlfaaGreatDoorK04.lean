/- The specification's quotient of limbs, by a contract. The program's above and goes, by contracts. The program's quotient of limbs, by a contract. -/
import Derived.Test.YthnkmjkgcnhlfaaGreatDoorH17
import Derived.Test.YthnkmjkgcnhlfaaGreatDoorH02
import Derived.Test.YthnkmjkgcnhlfaaGreatDoorH16
import Derived.Test.YthnkmjkgcnhlfaaGreatDoorH09
import Derived.Test.YthnkmjkgcnhlfaaGreatDoorH14
import Derived.Test.YthnkmjkgcnhlfaaGreatDoorH10
namespace Go.Proofs.YthnkmjkgcnhlfaaGreatDoor
open Go.RowKit


theorem fits_end {a b low high : Nat} (h1 : low * b ≤ a) (h2 : a < high * b) (h3 : high ≤ low + 1) : low = a / b := by
  have hb : 0 < b := by
    rcases Nat.eq_zero_or_pos b with h | h
    · subst h; simp at h2
    · exact h
  refine (Nat.div_eq_of_lt_le ?_ ?_).symm
  · exact h1
  · exact Nat.lt_of_lt_of_le h2 (Nat.mul_le_mul_right b h3)

theorem cmpZ_le {x y : Int} (h : x ≤ y) : cmpZ x y ≤ 0 := by
  rcases Int.lt_trichotomy x y with h1 | h1 | h1
  · rw [cmpZ_lt h1]; decide
  · rw [cmpZ_eq h1]; decide
  · omega

set_option maxRecDepth 100000 in
theorem l1Fits_any (w : World) (u v : Value) (a b : Nat) (hu : Reads w u (L a)) (hv : Reads w v (L b)) (hab : a < 10000 * b) (hb : b < 10000 ^ 200) :
    Calls Tryz.prog 132 #[u, v] w fun e w' => e = .returned (.int .i64 ((a / b : Nat) : Int)) ∧ Below w.heap.size w w' := by
  have U := hide hu
  have V := hide hv
  have HB := hide hb
  have HAB := hide hab
  obtain ⟨ao, b1, off, cap, rfl, hu⟩ := hu
  obtain ⟨ao', b2, off', cap', rfl, hv⟩ := hv
  clear hu hv hab hb
  go_enter Tryz.func132, Tryz.ntmps132
  go_wp2
  go_loopw [5, 6] (fun lo hi wr => ∃ low high : Nat, lo = .int .i64 low ∧ hi = .int .i64 high ∧ low < high ∧ high ≤ 10000 ∧ low * b ≤ a ∧ a < high * b ∧ Below w.heap.size w wr) (fun lo hi _ => (intOf hi - intOf lo).toNat)
  case atStart => exact ⟨0, 10000, rfl, rfl, by omega, by omega, by omega, unhide HAB, Below.refl _ _⟩
  case round =>
    obtain ⟨low, high, rfl, rfl, h1, h2, h3, h4, hbel⟩ := hrel
    have H3 := hide h3
    have H4 := hide h4
    clear h3 h4
    by_cases hgo : low + 1 < high
    · obtain ⟨mid, hmid⟩ : ∃ mid : Nat, ((low : Int) + high) / 2 = mid := ⟨(low + high) / 2, by omega⟩
      have hm1 : low < mid := by omega
      have hm2 : mid < high := by omega
      have hlit : Reads (wr.alloc (.cells #[.int .i64 mid] 3)) (.slice (some ⟨wr.heap.size, 0, none⟩) 1 1) (L mid) := by
        rw [L_small (by omega) (by omega)]
        exact (own_one wr mid (B := 0) (Nat.zero_le _)).reads
      have bA := hbel.trans ((Below.refl _ _).alloc hbel.size (.cells #[.int .i64 mid] 3))
      have hmb : mid < 10000 ^ 200 := Nat.lt_of_lt_of_le (show mid < 10000 ^ 1 by omega) (Nat.pow_le_pow_right (by decide) (by decide))
      have C := hide (l1MulAbs_any _ _ _ b mid ((unhide V).later bA) hlit (unhide HB) hmb)
      clear hlit hmb
      go_wp2_with fail
      refine (unhide C).mono ?_
      rintro e w1 ⟨ao1, c1, rfl, o1, b1'⟩
      have bB := bA.trans (b1'.mono bA.size)
      have C2 := hide (l1CmpAbs_any w1 _ _ (b * mid) a o1.reads ((unhide U).later bB))
      clear C b1' bA o1
      go_wp2_with fail
      refine (unhide C2).mono ?_
      rintro e w2 ⟨rfl, b2'⟩
      have bC := bB.trans (b2'.mono bB.size)
      clear C2 b2' bB
      by_cases hc : b * mid ≤ a
      · have hcz : decide (cmpZ ((b * mid : Nat) : Int) (a : Int) ≤ 0) = true := by
          rw [decide_eq_true_eq]
          exact cmpZ_le (Int.ofNat_le.2 hc)
        have HC := hide hc
        clear hc
        generalize cmpZ ((b * mid : Nat) : Int) (a : Int) = cz at *
        go_wp2
        go_roundw
        case rel => exact ⟨mid, high, rfl, rfl, hm2, h2, by rw [Nat.mul_comm]; exact unhide HC, unhide H4, bC⟩
        case measure => simp only [intOf]; omega
      · have hcz : decide (cmpZ ((b * mid : Nat) : Int) (a : Int) ≤ 0) = false := by
          rw [decide_eq_false_iff_not, cmpZ_gt (Int.ofNat_lt.2 (Nat.lt_of_not_le hc))]
          decide
        have HC := hide hc
        clear hc
        generalize cmpZ ((b * mid : Nat) : Int) (a : Int) = cz at *
        go_wp2
        go_roundw
        case rel => exact ⟨low, mid, rfl, rfl, hm1, by omega, unhide H3, by have := unhide HC; rw [Nat.mul_comm]; omega, bC⟩
        case measure => simp only [intOf]; omega
    · have e := hide (fits_end (unhide H3) (unhide H4) (by omega))
      go_wp2
      go_ret
      exact ⟨by rw [← unhide e]; rfl, hbel⟩

theorem long_step {l out : List Int} {k r b d left : Nat} {x : Int} (hk : k < l.length) (hx : x = l.getD k 0) (hol : out.length = l.length) (hz : out.getD k 0 = 0) (hI : val out * b + r * 10000 ^ (k + 1) = 10000 ^ (k + 1) * val (l.drop (k + 1))) (hL : (left : Int) = x + 10000 * r) :
    val (out.set k d) * b + ((left : Int) - b * d) * 10000 ^ k = 10000 ^ k * val (l.drop k) := by
  rw [val_set (by omega), hz, ← List.getElem_cons_drop hk, hL]
  have e : l.getD k 0 = l[k] := by simp [List.getD_eq_getElem?_getD, List.getElem?_eq_getElem hk]
  rw [hx, e]
  simp only [val]
  rw [Int.pow_succ] at hI
  generalize (10000 : Int) ^ k = P at *
  generalize val (l.drop (k + 1)) = V at *
  generalize val out = O at *
  generalize l[k] = X at *
  have h1 : (O + ((d : Int) - 0) * P) * b = O * b + d * P * b := by rw [Int.sub_zero, Int.add_mul]
  have h2 : (X + 10000 * (r : Int) - b * d) * P = X * P + r * (P * 10000) - d * P * b := by
    rw [Int.sub_mul, Int.add_mul]
    have : 10000 * (r : Int) * P = r * (P * 10000) := by rw [Int.mul_comm 10000 (r : Int), Int.mul_assoc, Int.mul_comm 10000 P]
    have h3 : (b : Int) * d * P = d * P * b := by rw [Int.mul_assoc, Int.mul_comm (b : Int)]
    rw [this, h3]
  have h4 : P * (X + 10000 * V) = X * P + P * 10000 * V := by rw [Int.mul_add, Int.mul_comm P X, Int.mul_assoc]
  rw [h1, h2, h4, ← hI]
  omega

theorem div_end {l out : List Int} {a b r : Nat} (hl : val l = a) (hO : Lim out) (hI : val out * b + r * 10000 ^ 0 = 10000 ^ 0 * val (l.drop 0)) (hr : r < b) : trim out = L (a / b) ∧ r = a % b := by
  have h0 := val_nonneg hO
  rw [trim_eq hO]
  obtain ⟨q, hq⟩ := Int.eq_ofNat_of_zero_le h0
  rw [hq] at hI ⊢
  simp only [Int.pow_zero, Int.mul_one, Int.one_mul, List.drop_zero, hl] at hI
  have e : q * b + r = a := by exact_mod_cast hI
  have e1 : a / b = q := by
    rw [← e, Nat.mul_comm, Nat.mul_add_div (by omega), Nat.div_eq_of_lt hr]
    rfl
  have e2 : a % b = r := by
    rw [← e, Nat.mul_comm, Nat.mul_add_mod, Nat.mod_eq_of_lt hr]
  rw [e1, e2]
  exact ⟨by simp, rfl⟩

/-- What a division answers: two lists of its own, the second made ahead of the first. -/
def GivesTwo (w : World) (q r : Nat) (e : Ending) (w' : World) : Prop :=
  ∃ (qo ro : Option Addr) (qc rc B : Nat), e = .returned (.tuple #[.slice qo (L q).length qc, .slice ro (L r).length rc]) ∧ w.heap.size ≤ B ∧ Own B w' (.slice qo (L q).length qc) (L q) ∧ Own w.heap.size w' (.slice ro (L r).length rc) (L r) ∧ (∀ k, (Value.slice ro (L r).length rc).ownBlock = some k → k < B) ∧ Below w.heap.size w w'

set_option maxHeartbeats 1000000 in
set_option maxRecDepth 100000 in
theorem l1DivAbs_any (w : World) (u v : Value) (a b : Nat) (hu : Reads w u (L a)) (hv : Reads w v (L b)) (hb0 : 0 < b) (ha : a < 10000 ^ 100) (hb : b < 10000 ^ 100) :
    Calls Tryz.prog 107 #[u, v] w (GivesTwo w (a / b) (a % b)) := by
  have hla := L_len_le ha
  have hlim := L_lim a
  have hva := val_L a
  have hb200 : b < 10000 ^ 200 := Nat.lt_of_lt_of_le hb (Nat.pow_le_pow_right (by decide) (by decide))
  have hb101 : 10000 * b < 10000 ^ 200 := by
    have h1 : 10000 * b < 10000 ^ 101 := by rw [Nat.pow_succ, Nat.mul_comm]; exact Nat.mul_lt_mul_of_pos_right hb (by decide)
    exact Nat.lt_of_lt_of_le h1 (Nat.pow_le_pow_right (by decide) (by decide))
  have HB2 := hide hb200
  have HB3 := hide hb101
  have HVA := hide hva
  have hlenb : ∀ r, r < b → (L r).length ≤ 100 := fun r hr => L_len_le (Nat.lt_trans hr hb)
  have HLB := hide hlenb
  clear ha hb hb200 hb101 hva hlenb
  generalize L a = l at *
  have V := hide hv
  obtain ⟨ao', b2, off', cap', rfl, hv⟩ := hv
  clear hv
  obtain ⟨ao, b1, off, cap, rfl, hu⟩ := hu
  have h1 := hu.le
  have h2 := hu.big
  unfold maxLen at h2
  obtain ⟨i0, hi, hz0, hz1, hz2⟩ := info_parts Tryz.info3
  go_enter Tryz.func107, Tryz.ntmps107
  go_wp2_with (at_make; refine wpList_make_full _ rfl _ _ 23 rfl w.heap.size 3 i0 (.int .i64 0) 1 Tryz.underlying23 hi hz0 hz1 _ _ _ _ l.length rfl rfl (by omega) (by omega) ?b2 ?b3 (Nat.le_refl _) ?_)
  case b2 => rw [hz2]; omega
  case b3 => unfold maxLen; omega
  intro w0 hown0 hgrow0
  have e0 : (madeCells #[Value.int .i64 0] l.length).toList = ints (List.replicate l.length 0) := by rw [toList_madeCells_one, ints_zeros]
  have own0 : Own w.heap.size w0 (.slice (some ⟨w.heap.size, 0, none⟩) l.length l.length) (List.replicate l.length 0) := by
    unfold Own
    rw [List.length_replicate, ← e0]
    simpa using hown0
  have bel0 : Below w.heap.size w w0 := (Below.refl _ _).grown hgrow0 (Nat.le_refl _) (fun k h => by cases h)
  have hs0 : w.heap.size < w0.heap.size := (own0.lt _ rfl).2
  clear hown0 hgrow0 e0
  go_wp2
  go_loopw [7, 8, 9] (fun ll ii _ wr => ∃ (k r : Nat) (out : List Int) (lo : Option Addr) (lc : Nat), ii = .int .i64 ((k : Int) - 1) ∧ k ≤ l.length ∧ ll = .slice lo (L r).length lc ∧ r < b ∧ out.length = l.length ∧ Lim out ∧ (∀ j, j < k → out.getD j 0 = 0) ∧
      val out * b + r * 10000 ^ k = 10000 ^ k * val (l.drop k) ∧ Own w.heap.size wr (.slice (some ⟨w.heap.size, 0, none⟩) l.length l.length) out ∧ Own (w.heap.size + 1) wr (.slice lo (L r).length lc) (L r) ∧ Below w.heap.size w wr)
    (fun _ ii _ _ => (intOf ii + 1).toNat)
  case atStart =>
    refine ⟨l.length, 0, List.replicate l.length 0, some ⟨w0.heap.size, 0, none⟩, 0, rfl, Nat.le_refl _, by rw [L_zero]; rfl, hb0, by simp, Lim.zeros _, fun j hj => by simp [List.getD_eq_getElem?_getD, hj], ?_, own0.later ((Below.refl _ _).alloc (Nat.le_refl _) _), ?_, bel0.alloc bel0.size _⟩
    · rw [val_replicate, List.drop_length]
      simp [val]
    · rw [L_zero]
      exact own_empty w0 (by omega)
  case round =>
    obtain ⟨k, r, out, lo, lc, rfl, hk, rfl, hrb, hol, hlimo, hz, hI, hown, hleft, hbel⟩ := hrel
    have HI := hide hI
    have HZ := hide hz
    have HOL := hide hol
    have hfz := hbel.size
    have hs1 : w.heap.size < wr.heap.size := (hown.lt _ rfl).2
    have hLr := unhide HLB r hrb
    clear hI hz hol own0 bel0 hs0 i0 hi hz0 hz1 hz2
    by_cases h : 0 < k
    · obtain ⟨k', rfl⟩ : ∃ k', k = k' + 1 := ⟨k - 1, by omega⟩
      have hki : ((k' + 1 : Nat) : Int) - 1 = k' := by omega
      rw [hki]
      have hkl : k' < l.length := by omega
      have hc := (hu.later hbel).cell k' hkl
      have hx1 := hlim.at hkl
      have hat := hu.at_ (by omega)
      subst hat
      obtain ⟨x, hx⟩ : ∃ x : Nat, l[k'] = x := ⟨l[k'].toNat, by omega⟩
      rw [hx] at hc hx1
      have hR := hide (fun o => hleft.reads.alloc o)
      obtain ⟨left, hleftv⟩ : ∃ left : Nat, left = x + 10000 * r := ⟨_, rfl⟩
      have hlb : left < 10000 * b := by omega
      have hle200 : left < 10000 ^ 200 := Nat.lt_trans hlb (unhide HB3)
      have etl : trim ((x : Int) :: L r) = L left := by
        have hl2 : Lim ((x : Int) :: L r) := Lim.app (Lim.one (by omega) (by omega)) (L_lim r)
        rw [trim_eq hl2]
        simp only [val, val_L]
        congr 1
        omega
      have ETL := hide etl
      have HLE := hide hle200
      have HLV := hide hleftv
      have HX := hide hx
      clear etl hle200 hx hleftv hki
      have hlx : ([(x : Int)]).length + (L r).length ≤ 8000000 := by simp; omega
      go_wp2_with (at_builtin; refine wpList_pushAll rfl _ _ 23 rfl Tryz.underlying23 wr.heap.size _ [(x : Int)] (own_one _ _ (Nat.le_refl _)) rfl _ (L r) (unhide hR _) rfl hlx (by simp) ?_; intro ao1 cap1 w1 ho1 hb1)
      have ho2 : Own wr.heap.size w1 (.slice ao1 ((L r).length + 1) cap1) ((x : Int) :: L r) := ho1
      have bw1 : Below wr.heap.size wr w1 := ((Below.refl _ _).alloc (Nat.le_refl _) _).trans hb1
      have C2 := hide (l1Trim_any w1 _ _ ho2.reads (by rw [List.length_cons]; omega))
      rw [unhide ETL] at C2
      clear ho1 ho2 hb1 hR hc hlx
      refine (unhide C2).mono ?_
      rintro e w2 ⟨ao2, c2, rfl, o2, b2'⟩
      have bw2 := bw1.trans (b2'.mono bw1.size)
      have C3 := hide (l1Fits_any w2 _ _ left b o2.reads ((unhide V).later (hbel.trans (bw2.mono hfz))) hlb (unhide HB2))
      have hw12 := bw1.size
      clear C2 b2' bw1
      go_wp2_with fail
      refine (unhide C3).mono ?_
      rintro e w3 ⟨rfl, b3'⟩
      have o3 := o2.later b3'
      have bw3 := bw2.trans (b3'.mono bw2.size)
      clear C3 b3' bw2 o2
      have hd1 : left / b < 10000 := Nat.div_lt_of_lt_mul (by rw [Nat.mul_comm]; exact hlb)
      have hd2 : b * (left / b) ≤ left := Nat.mul_div_le left b
      have hd3 : left - b * (left / b) < b := by
        have := Nat.mod_lt left hb0
        have e := Nat.div_add_mod left b
        omega
      generalize left / b = d at *
      have own3 := hown.later bw3
      have hcell := own3.cellAt (i := k') (by rw [unhide HOL]; exact hkl)
      have hfro := own3.frozenAt k'
      have hst := own3.store k' (d : Int)
      have o4 := o3.setBelow (a := ⟨w.heap.size, k', none⟩) (by simp; omega) (.int .i64 (d : Int))
      have B3 := hbel.trans (bw3.mono hfz)
      have B4 := B3.setCell (p := ⟨w.heap.size, k', none⟩) (Nat.le_refl _) (.int .i64 (d : Int))
      have hs3 : w.heap.size < w3.heap.size := (own3.lt _ rfl).2
      have H4 := hide hst.1
      have HD2 := hide hd2
      have HD3 := hide hd3
      clear hst own3 o3 bw3 hd2 hd3
      have etd : trim [(d : Int)] = L d := by
        rw [trim_eq (Lim.one (by omega) (by omega)), val_one]
        rfl
      have C4 := hide (l1Trim_any _ _ [(d : Int)] (own_one (w3.setCell ⟨w.heap.size, k', none⟩ (.int .i64 (d : Int))) (d : Int) (B := 0) (Nat.zero_le _)).reads (by simp))
      rw [etd] at C4
      clear etd
      generalize hW4 : w3.setCell ⟨w.heap.size, k', none⟩ (.int .i64 (d : Int)) = w4 at *
      go_wp2_with fail
      refine (unhide C4).mono ?_
      rintro e w5 ⟨ao5, c5, rfl, o5, b5'⟩
      have bw5 : Below w4.heap.size w4 w5 := ((Below.refl _ _).alloc (Nat.le_refl _) _).trans (b5'.mono (by simp))
      have hd200 : d < 10000 ^ 200 := Nat.lt_of_lt_of_le (show d < 10000 ^ 1 by omega) (Nat.pow_le_pow_right (by decide) (by decide))
      have C5 := hide (l1MulAbs_any w5 _ _ b d ((unhide V).later (B4.trans (bw5.mono B4.size))) o5.reads (unhide HB2) hd200)
      clear C4 b5' hd200 o5
      go_wp2_with fail
      refine (unhide C5).mono ?_
      rintro e w6 ⟨ao6, c6, rfl, o6, b6'⟩
      have bw6 := bw5.trans (b6'.mono bw5.size)
      have C6 := hide (l1SubAbs_any w6 _ _ left (b * d) (o4.later bw6).reads o6.reads (unhide HLE) (unhide HD2))
      clear C5 b6' bw5 o6
      go_wp2_with fail
      refine (unhide C6).mono ?_
      rintro e w7 ⟨ao7, c7, rfl, o7, b7'⟩
      have bw7 := bw6.trans (b7'.mono bw6.size)
      have hs6 : w.heap.size + 1 ≤ w6.heap.size := by
        have e1 := (unhide H4).lt _ rfl
        have e2 := bw6.size
        omega
      clear C6 b7' bw6 o4
      go_wp2
      go_roundw
      case rel =>
        refine ⟨k', left - b * d, out.set k' (d : Int), ao7, c7, rfl, by omega, rfl, unhide HD3, by rw [List.length_set]; exact unhide HOL, hlimo.set k' (by omega) (by omega), ?_, ?_, (unhide H4).later bw7, o7.mono hs6, B4.trans (bw7.mono B4.size)⟩
        · intro j hj
          have := unhide HZ j (by omega)
          rw [List.getD_eq_getElem?_getD, List.getElem?_set_ne (by omega), ← List.getD_eq_getElem?_getD]
          exact this
        · have hxx : (x : Int) = l.getD k' 0 := by
            rw [← unhide HX]
            simp [List.getD_eq_getElem?_getD, List.getElem?_eq_getElem hkl]
          have hLL : (left : Int) = (x : Int) + 10000 * r := by
            have := unhide HLV
            omega
          have := long_step (b := b) (d := d) hkl hxx (unhide HOL) (unhide HZ k' (by omega)) (unhide HI) hLL
          rw [Int.natCast_sub (unhide HD2), Int.natCast_mul]
          exact this
      case measure => simp only [intOf]; omega
    · have hk0 : k = 0 := by omega
      subst hk0
      have hE := div_end (unhide HVA) hlimo (unhide HI) hrb
      have C := hide (l1Trim_any wr _ out hown.reads (by rw [unhide HOL]; omega))
      rw [hE.1] at C
      have hr2 := hide hE.2
      clear hE HI
      go_wp2_with fail
      refine (unhide C).mono ?_
      rintro e w2 ⟨ao2, c2, rfl, o2, bb2⟩
      have hb3 := hbel.trans (bb2.mono hfz)
      have hl3 := hleft.later bb2
      clear C bb2
      go_wp2
      refine bodyPost_ret (v := .tuple #[.slice ao2 (L (a / b)).length c2, .slice lo (L r).length lc]) (by simp [results, Tryz.results107, go_sem]) rfl ?_
      rw [← unhide hr2]
      exact ⟨ao2, lo, c2, lc, wr.heap.size, rfl, hfz, o2, hl3.mono (by omega), fun j hj => (hleft.lt j hj).2, hb3⟩

end Go.Proofs.YthnkmjkgcnhlfaaGreatDoor

namespace Go.Proofs.YthnkmjkgcnhlfaaGreatDoor
open Go.RowKit


theorem val_drop_one {l : List Int} {k : Nat} (h : k < l.length) : val (l.drop k) = l[k] + 10000 * val (l.drop (k + 1)) := by
  rw [← List.getElem_cons_drop h]
  rfl

/-- The few limbs from a place on, as one number. -/
theorem above_any (w : World) (u : Value) (l : List Int) (f : Nat) (hu : Reads w u l) (hlim : Lim l) (hf : l.length ≤ f + 4) :
    Calls Tryz.prog 131 #[u, .int .i64 f] w fun e w' => e = .returned (.int .i64 (val (l.drop f))) ∧ w' = w := by
  obtain ⟨ao, b, off, cap, rfl, hu⟩ := hu
  have h1 := hu.le
  have h2 := hu.big
  unfold maxLen at h2
  by_cases hfl : l.length ≤ f
  · have e0 : val (l.drop f) = 0 := by rw [List.drop_of_length_le hfl]; rfl
    rw [e0]
    go_enter Tryz.func131, Tryz.ntmps131
    go_wp2
    refine wp_loop_rounds 1 ?_
    rw [rounds_succ]
    go_wp2
    go_ret
    exact ⟨rfl, rfl⟩
  · go_enter Tryz.func131, Tryz.ntmps131
    go_wp2
    go_loopw [5, 6] (fun nn ii wr => ∃ (k : Nat) (n : Int), ii = .int .i64 ((k : Int) - 1) ∧ nn = .int .i64 n ∧ f ≤ k ∧ k ≤ l.length ∧ n = val (l.drop k) ∧ wr = w) (fun _ ii _ => (intOf ii + 1).toNat)
    case atStart => exact ⟨l.length, 0, rfl, rfl, by omega, Nat.le_refl _, by rw [List.drop_length]; rfl, rfl⟩
    case round =>
      obtain ⟨k, n, rfl, rfl, hk1, hk2, hn, rfl⟩ := hrel
      have HN := hide hn
      by_cases h : f < k
      · obtain ⟨k', rfl⟩ : ∃ k', k = k' + 1 := ⟨k - 1, by omega⟩
        have hki : ((k' + 1 : Nat) : Int) - 1 = k' := by omega
        rw [hki]
        have hkl : k' < l.length := by omega
        have hc := hu.cell k' hkl
        have hx := hlim.at hkl
        have hat := hu.at_ (by omega)
        subst hat
        have hn0 : 0 ≤ n := by rw [hn]; exact val_nonneg (hlim.drop _)
        have hn1 : n < 10000 ^ 3 := by
          rw [hn]
          refine Int.lt_of_lt_of_le (val_lt (hlim.drop _)) ?_
          have := Int.ofNat_le.2 (Nat.pow_le_pow_right (show 0 < 10000 by decide) (show (l.drop (k' + 1)).length ≤ 3 by rw [List.length_drop]; omega))
          rwa [Int.natCast_pow, Int.natCast_pow] at this
        have hn2 : n < 1000000000000 := hn1
        have HX := hide (val_drop_one hkl)
        clear hn hki hn1
        generalize l[k'] = x at *
        go_wp2
        go_roundw
        case rel => exact ⟨k', n * 10000 + x, rfl, rfl, by omega, by omega, by rw [unhide HX, ← unhide HN]; omega, trivial⟩
        case measure => simp only [intOf]; omega
      · have ek : k = f := by omega
        have HK := hide ek
        clear hn ek
        go_wp2
        go_ret
        exact ⟨by rw [← unhide HK, ← unhide HN]; rfl, rfl⟩

theorem val_drop_L (r f : Nat) : val ((L r).drop f) = ((r / 10000 ^ f : Nat) : Int) := by
  by_cases h : f ≤ (L r).length
  · have e := val_split (L r) f h
    rw [val_L] at e
    have h0 := val_nonneg (Lim.take (L_lim r) f)
    have h1 := val_lt (Lim.take (L_lim r) f)
    have h2 := val_nonneg (Lim.drop (L_lim r) f)
    rw [List.length_take, Nat.min_eq_left h] at h1
    obtain ⟨x, hx⟩ := Int.eq_ofNat_of_zero_le h0
    obtain ⟨y, hy⟩ := Int.eq_ofNat_of_zero_le h2
    rw [hx] at h1 e
    rw [hy] at e ⊢
    have h1' : x < 10000 ^ f := by
      have := h1
      rw [show (10000 : Int) ^ f = ((10000 ^ f : Nat) : Int) by rw [Int.natCast_pow]; rfl] at this
      exact Int.ofNat_lt.1 this
    have e' : r = x + 10000 ^ f * y := by
      rw [show (10000 : Int) ^ f = ((10000 ^ f : Nat) : Int) by rw [Int.natCast_pow]; rfl, ← Int.natCast_mul, ← Int.natCast_add] at e
      exact Int.ofNat_inj.1 e
    rw [e', Nat.add_mul_div_left _ _ (Nat.pow_pos (by decide)), Nat.div_eq_of_lt h1', Nat.zero_add]
  · rw [List.drop_of_length_le (by omega)]
    have : r < 10000 ^ f := Nat.lt_of_lt_of_le (lt_of_L_len (Nat.le_refl _)) (Nat.pow_le_pow_right (by decide) (by omega))
    rw [Nat.div_eq_of_lt this]
    rfl

/-- The guess never takes too much. -/
theorem guess_ok {r b P : Nat} (hP : 0 < P) (hb : b ≤ r) : max 1 (r / P / (b / P + 1)) * b ≤ r := by
  rcases Nat.le_total (r / P / (b / P + 1)) 1 with h | h
  · rw [Nat.max_eq_left h, Nat.one_mul]
    exact hb
  · rw [Nat.max_eq_right h]
    have h1 : b ≤ (b / P + 1) * P := by
      have := Nat.lt_div_mul_add hP (a := b)
      rw [Nat.add_mul, Nat.one_mul]
      omega
    calc r / P / (b / P + 1) * b ≤ r / P / (b / P + 1) * ((b / P + 1) * P) := Nat.mul_le_mul_left _ h1
      _ = r / P / (b / P + 1) * (b / P + 1) * P := by rw [Nat.mul_assoc]
      _ ≤ r / P * P := Nat.mul_le_mul_right _ (Nat.div_mul_le_self _ _)
      _ ≤ r := Nat.div_mul_le_self _ _

theorem goes_lt {a b t r : Nat} (hab : a < 10000 * b) (h : a = t * b + r) : t < 10000 := by
  have : t * b < 10000 * b := by omega
  exact Nat.lt_of_mul_lt_mul_right this

set_option maxHeartbeats 1000000 in
set_option maxRecDepth 100000 in
theorem goes_any (w : World) (B : Nat) (u v : Value) (a b : Nat) (hu : Own B w u (L a)) (hB : B ≤ w.heap.size) (hv : Reads w v (L b)) (hb0 : 0 < b) (hab : a < 10000 * b) (hb : b < 10000 ^ 99) :
    Calls Tryz.prog 106 #[u, v] w fun e w' => ∃ (ro : Option Addr) (rc : Nat), e = .returned (.tuple #[.int .i64 ((a / b : Nat) : Int), .slice ro (L (a % b)).length rc]) ∧ Own B w' (.slice ro (L (a % b)).length rc) (L (a % b)) ∧ Below w.heap.size w w' := by
  have U := hide hu
  have V := hide hv
  have HAB := hide hab
  have HB := hide hb
  have hlb := L_len_le hb
  obtain ⟨ao, cap, rfl⟩ := hu.shape
  obtain ⟨ao', b2, off', cap', rfl, hv⟩ := hv
  clear hv hu hab hb
  by_cases h2 : 2 < (L b).length
  · obtain ⟨f, hf⟩ : ∃ f : Nat, ((L b).length : Int) - 2 = f := ⟨(L b).length - 2, by omega⟩
    have hf2 : (L b).length = f + 2 := by omega
    have hf3 : (L b).length ≤ f + 2 := by omega
    clear hf2
    have hPf : 0 < 10000 ^ f := Nat.pow_pos (by decide)
    have hbP : b / 10000 ^ f < 100000000 := Nat.div_lt_of_lt_mul (by
      have h := lt_of_L_len (Nat.le_refl (L b).length)
      refine Nat.lt_of_lt_of_le h ?_
      rw [show (100000000 : Nat) = 10000 ^ 2 from rfl, ← Nat.pow_add]
      exact Nat.pow_le_pow_right (by decide) (by omega))
    obtain ⟨M, hM⟩ : ∃ M, b / 10000 ^ f = M := ⟨_, rfl⟩
    rw [hM] at hbP
    have HM := hide hM
    clear hM hPf
    go_enter Tryz.func106, Tryz.ntmps106
    go_wp2
    go_loopw [7, 8, 9] (fun tt rr _ wr => ∃ (t r : Nat) (ro : Option Addr) (rc : Nat), tt = .int .i64 t ∧ rr = .slice ro (L r).length rc ∧ a = t * b + r ∧ Own B wr (.slice ro (L r).length rc) (L r) ∧ Below w.heap.size w wr) (fun tt _ _ _ => 10000 - (intOf tt).toNat)
    case atStart => exact ⟨0, a, ao, cap, rfl, rfl, by omega, unhide U, Below.refl _ _⟩
    case round =>
      obtain ⟨t, r, ro, rc, rfl, rfl, hI, hown, hbel⟩ := hrel
      have ht : t < 10000 := goes_lt (unhide HAB) hI
      have hrb : r < 10000 * b := by have := unhide HAB; omega
      have HI := hide hI
      clear hI
      have C := hide (against_any wr _ _ r b hown.reads ((unhide V).later hbel))
      go_wp2_with fail
      refine (unhide C).mono ?_
      rintro e w1 ⟨rfl, b1'⟩
      have B1 := hbel.trans (b1'.mono hbel.size)
      have own1 := hown.later b1'
      have V1 := hide ((unhide V).later B1)
      clear C b1' hown hbel
      by_cases hc : b ≤ r
      · have hcz : decide (0 ≤ cmpZ (r : Int) (b : Int)) = true := by
          rw [decide_eq_true_eq]
          rcases Nat.lt_or_eq_of_le hc with h | h
          · rw [cmpZ_gt (Int.ofNat_lt.2 h)]; decide
          · rw [cmpZ_eq (by rw [h])]; decide
        generalize cmpZ (r : Int) (b : Int) = cz at *
        have hlenr : (L r).length ≤ (L b).length + 1 := L_len_le (by
          have h := lt_of_L_len (Nat.le_refl (L b).length)
          rw [Nat.pow_succ]
          omega)
        have CA := hide (above_any w1 _ (L r) f own1.reads (L_lim r) (by omega))
        rw [val_drop_L] at CA
        have CM := hide (above_any w1 _ (L b) f (unhide V1) (L_lim b) (by omega))
        rw [val_drop_L, unhide HM] at CM
        have hRP : r / 10000 ^ f < 1000000000000 := Nat.div_lt_of_lt_mul (by
          have h := lt_of_L_len (Nat.le_refl (L r).length)
          refine Nat.lt_of_lt_of_le h ?_
          rw [show (1000000000000 : Nat) = 10000 ^ 3 from rfl, ← Nat.pow_add]
          exact Nat.pow_le_pow_right (by decide) (by omega))
        have hG := guess_ok (Nat.pow_pos (n := f) (show 0 < 10000 by decide)) hc
        rw [unhide HM] at hG
        generalize r / 10000 ^ f = Q at *
        obtain ⟨G, hGe⟩ : ∃ G, Q / (M + 1) = G := ⟨_, rfl⟩
        rw [hGe] at hG
        have hGi : (Q : Int) / ((M : Int) + 1) = G := by rw [← hGe]; simp
        have hGb : G < 1000000000000 := by rw [← hGe]; exact Nat.lt_of_le_of_lt (Nat.div_le_self _ _) hRP
        have HG := hide hG
        clear hGe hG
        go_wp2_with fail
        refine (unhide CA).mono ?_
        rintro e w2 ⟨rfl, rfl⟩
        go_wp2_with fail
        refine (unhide CM).mono ?_
        rintro e w3 ⟨rfl, rfl⟩
        clear CA CM hcz
        by_cases hg : 1 < G
        · have hgm : max 1 G = G := Nat.max_eq_right (by omega)
          rw [hgm] at HG
          have hGr := unhide HG
          have hgv : G < 10000 := Nat.lt_of_mul_lt_mul_right (Nat.lt_of_le_of_lt hGr hrb)
          have HGr := hide hGr
          clear hgm HG hGr
          have hlit : Reads (w3.alloc (.cells #[.int .i64 ((G : Nat) : Int)] 3)) (.slice (some ⟨w3.heap.size, 0, none⟩) 1 1) (L G) := by
            rw [L_small (by omega) hgv]
            exact (own_one w3 _ (B := 0) (Nat.zero_le _)).reads
          have bA : Below w3.heap.size w3 (w3.alloc (.cells #[.int .i64 ((G : Nat) : Int)] 3)) := (Below.refl _ _).alloc (Nat.le_refl _) _
          have hb100 : b < 10000 ^ 100 := Nat.lt_of_lt_of_le (unhide HB) (Nat.pow_le_pow_right (by decide) (by decide))
          have hg100 : G < 10000 ^ 100 := Nat.lt_of_lt_of_le (show G < 10000 ^ 1 by omega) (Nat.pow_le_pow_right (by decide) (by decide))
          have hr200 : r < 10000 ^ 200 := by
            have h1 : 10000 * b < 10000 ^ 100 := by rw [show (100 : Nat) = 99 + 1 from rfl, Nat.pow_succ, Nat.mul_comm]; exact Nat.mul_lt_mul_of_pos_right (unhide HB) (by decide)
            exact Nat.lt_trans hrb (Nat.lt_of_lt_of_le h1 (Nat.pow_le_pow_right (by decide) (by decide)))
          have C5 := hide (times_any _ _ _ b G ((unhide V1).later bA) hlit hb100 hg100)
          have HR2 := hide hr200
          clear hlit hb100 hg100 hr200
          go_wp2_with fail
          refine (unhide C5).mono ?_
          rintro e w4 ⟨ao4, c4, rfl, o4, b4'⟩
          have bw4 := bA.trans (b4'.mono bA.size)
          have hle4 : b * G ≤ r := by rw [Nat.mul_comm]; exact unhide HGr
          have C6 := hide (minus_any w4 _ _ r (b * G) (own1.later bw4).reads o4.reads (unhide HR2) hle4)
          have HL4 := hide hle4
          clear C5 b4' bA o4 hle4
          go_wp2_with fail
          refine (unhide C6).mono ?_
          rintro e w5 ⟨ao5, c5, rfl, o5, b5'⟩
          have bw5 := bw4.trans (b5'.mono bw4.size)
          have hB4 : B ≤ w4.heap.size := by have := bw4.size; have := B1.size; omega
          clear C6 b5' bw4
          go_wp2
          go_roundw
          case rel =>
            refine ⟨t + G, r - b * G, ao5, c5, by simp, rfl, ?_, o5.mono hB4, B1.trans (bw5.mono B1.size)⟩
            have h1 := unhide HI
            have h2 := unhide HL4
            rw [Nat.add_mul, Nat.mul_comm G b]
            omega
          case measure => simp only [intOf]; omega
        · have hgm : max 1 G = 1 := Nat.max_eq_left (by omega)
          rw [hgm] at HG
          have hGr := unhide HG
          have hgv : 1 < 10000 := Nat.lt_of_mul_lt_mul_right (Nat.lt_of_le_of_lt hGr hrb)
          have HGr := hide hGr
          clear hgm HG hGr
          have hlit : Reads (w3.alloc (.cells #[.int .i64 ((1 : Nat) : Int)] 3)) (.slice (some ⟨w3.heap.size, 0, none⟩) 1 1) (L 1) := by
            rw [L_small (by omega) hgv]
            exact (own_one w3 _ (B := 0) (Nat.zero_le _)).reads
          have bA : Below w3.heap.size w3 (w3.alloc (.cells #[.int .i64 ((1 : Nat) : Int)] 3)) := (Below.refl _ _).alloc (Nat.le_refl _) _
          have hb100 : b < 10000 ^ 100 := Nat.lt_of_lt_of_le (unhide HB) (Nat.pow_le_pow_right (by decide) (by decide))
          have hg100 : 1 < 10000 ^ 100 := Nat.lt_of_lt_of_le (show 1 < 10000 ^ 1 by omega) (Nat.pow_le_pow_right (by decide) (by decide))
          have hr200 : r < 10000 ^ 200 := by
            have h1 : 10000 * b < 10000 ^ 100 := by rw [show (100 : Nat) = 99 + 1 from rfl, Nat.pow_succ, Nat.mul_comm]; exact Nat.mul_lt_mul_of_pos_right (unhide HB) (by decide)
            exact Nat.lt_trans hrb (Nat.lt_of_lt_of_le h1 (Nat.pow_le_pow_right (by decide) (by decide)))
          have C5 := hide (times_any _ _ _ b 1 ((unhide V1).later bA) hlit hb100 hg100)
          rw [Nat.mul_one] at C5
          have HR2 := hide hr200
          clear hlit hb100 hg100 hr200
          go_wp2_with fail
          refine (unhide C5).mono ?_
          rintro e w4 ⟨ao4, c4, rfl, o4, b4'⟩
          have bw4 := bA.trans (b4'.mono bA.size)
          have hle4 : b ≤ r := hc
          have C6 := hide (minus_any w4 _ _ r b (own1.later bw4).reads o4.reads (unhide HR2) hle4)
          have HL4 := hide hle4
          clear C5 b4' bA o4 hle4
          go_wp2_with fail
          refine (unhide C6).mono ?_
          rintro e w5 ⟨ao5, c5, rfl, o5, b5'⟩
          have bw5 := bw4.trans (b5'.mono bw4.size)
          have hB4 : B ≤ w4.heap.size := by have := bw4.size; have := B1.size; omega
          clear C6 b5' bw4
          go_wp2
          go_roundw
          case rel =>
            refine ⟨t + 1, r - b, ao5, c5, by simp, rfl, ?_, o5.mono hB4, B1.trans (bw5.mono B1.size)⟩
            have h1 := unhide HI
            have h2 := unhide HL4
            rw [Nat.add_mul, Nat.one_mul]
            omega
          case measure => simp only [intOf]; omega
      · have hcz : decide (0 ≤ cmpZ (r : Int) (b : Int)) = false := by
          rw [decide_eq_false_iff_not, cmpZ_lt (Int.ofNat_lt.2 (Nat.lt_of_not_le hc))]
          decide
        generalize cmpZ (r : Int) (b : Int) = cz at *
        have e1 : t = a / b := by
          have h := unhide HI
          rw [h, Nat.mul_comm, Nat.mul_add_div hb0, Nat.div_eq_of_lt (Nat.lt_of_not_le hc)]
          rfl
        have e2 : r = a % b := by
          have h := unhide HI
          rw [h, Nat.mul_comm, Nat.mul_add_mod, Nat.mod_eq_of_lt (Nat.lt_of_not_le hc)]
        have E1 := hide e1
        have E2 := hide e2
        clear e1 e2 hc
        go_wp2
        refine bodyPost_ret (v := .tuple #[.int .i64 (t : Int), .slice ro (L r).length rc]) (by simp [results, Tryz.results106, go_sem]) rfl ?_
        rw [← unhide E1, ← unhide E2]
        exact ⟨ro, rc, rfl, own1, B1⟩
  · have hf3 : (L b).length ≤ 0 + 2 := by omega
    have hf4 : ((L b).length : Int) - 2 ≤ 0 := by omega
    have hPf : 0 < 10000 ^ 0 := Nat.pow_pos (by decide)
    have hbP : b / 10000 ^ 0 < 100000000 := Nat.div_lt_of_lt_mul (by
      have h := lt_of_L_len (Nat.le_refl (L b).length)
      refine Nat.lt_of_lt_of_le h ?_
      rw [show (100000000 : Nat) = 10000 ^ 2 from rfl, ← Nat.pow_add]
      exact Nat.pow_le_pow_right (by decide) (by omega))
    obtain ⟨M, hM⟩ : ∃ M, b / 10000 ^ 0 = M := ⟨_, rfl⟩
    rw [hM] at hbP
    have HM := hide hM
    clear hM hPf
    go_enter Tryz.func106, Tryz.ntmps106
    go_wp2
    go_loopw [7, 8, 9] (fun tt rr _ wr => ∃ (t r : Nat) (ro : Option Addr) (rc : Nat), tt = .int .i64 t ∧ rr = .slice ro (L r).length rc ∧ a = t * b + r ∧ Own B wr (.slice ro (L r).length rc) (L r) ∧ Below w.heap.size w wr) (fun tt _ _ _ => 10000 - (intOf tt).toNat)
    case atStart => exact ⟨0, a, ao, cap, rfl, rfl, by omega, unhide U, Below.refl _ _⟩
    case round =>
      obtain ⟨t, r, ro, rc, rfl, rfl, hI, hown, hbel⟩ := hrel
      have ht : t < 10000 := goes_lt (unhide HAB) hI
      have hrb : r < 10000 * b := by have := unhide HAB; omega
      have HI := hide hI
      clear hI
      have C := hide (against_any wr _ _ r b hown.reads ((unhide V).later hbel))
      go_wp2_with fail
      refine (unhide C).mono ?_
      rintro e w1 ⟨rfl, b1'⟩
      have B1 := hbel.trans (b1'.mono hbel.size)
      have own1 := hown.later b1'
      have V1 := hide ((unhide V).later B1)
      clear C b1' hown hbel
      by_cases hc : b ≤ r
      · have hcz : decide (0 ≤ cmpZ (r : Int) (b : Int)) = true := by
          rw [decide_eq_true_eq]
          rcases Nat.lt_or_eq_of_le hc with h | h
          · rw [cmpZ_gt (Int.ofNat_lt.2 h)]; decide
          · rw [cmpZ_eq (by rw [h])]; decide
        generalize cmpZ (r : Int) (b : Int) = cz at *
        have hlenr : (L r).length ≤ (L b).length + 1 := L_len_le (by
          have h := lt_of_L_len (Nat.le_refl (L b).length)
          rw [Nat.pow_succ]
          omega)
        have CA := hide (above_any w1 _ (L r) 0 own1.reads (L_lim r) (by omega))
        rw [val_drop_L] at CA
        have CM := hide (above_any w1 _ (L b) 0 (unhide V1) (L_lim b) (by omega))
        rw [val_drop_L, unhide HM] at CM
        have hRP : r / 10000 ^ 0 < 1000000000000 := Nat.div_lt_of_lt_mul (by
          have h := lt_of_L_len (Nat.le_refl (L r).length)
          refine Nat.lt_of_lt_of_le h ?_
          rw [show (1000000000000 : Nat) = 10000 ^ 3 from rfl, ← Nat.pow_add]
          exact Nat.pow_le_pow_right (by decide) (by omega))
        have hG := guess_ok (Nat.pow_pos (n := 0) (show 0 < 10000 by decide)) hc
        rw [unhide HM] at hG
        generalize r / 10000 ^ 0 = Q at *
        obtain ⟨G, hGe⟩ : ∃ G, Q / (M + 1) = G := ⟨_, rfl⟩
        rw [hGe] at hG
        have hGi : (Q : Int) / ((M : Int) + 1) = G := by rw [← hGe]; simp
        have hGb : G < 1000000000000 := by rw [← hGe]; exact Nat.lt_of_le_of_lt (Nat.div_le_self _ _) hRP
        have HG := hide hG
        clear hGe hG
        go_wp2_with fail
        refine (unhide CA).mono ?_
        rintro e w2 ⟨rfl, rfl⟩
        go_wp2_with fail
        refine (unhide CM).mono ?_
        rintro e w3 ⟨rfl, rfl⟩
        clear CA CM hcz
        by_cases hg : 1 < G
        · have hgm : max 1 G = G := Nat.max_eq_right (by omega)
          rw [hgm] at HG
          have hGr := unhide HG
          have hgv : G < 10000 := Nat.lt_of_mul_lt_mul_right (Nat.lt_of_le_of_lt hGr hrb)
          have HGr := hide hGr
          clear hgm HG hGr
          have hlit : Reads (w3.alloc (.cells #[.int .i64 ((G : Nat) : Int)] 3)) (.slice (some ⟨w3.heap.size, 0, none⟩) 1 1) (L G) := by
            rw [L_small (by omega) hgv]
            exact (own_one w3 _ (B := 0) (Nat.zero_le _)).reads
          have bA : Below w3.heap.size w3 (w3.alloc (.cells #[.int .i64 ((G : Nat) : Int)] 3)) := (Below.refl _ _).alloc (Nat.le_refl _) _
          have hb100 : b < 10000 ^ 100 := Nat.lt_of_lt_of_le (unhide HB) (Nat.pow_le_pow_right (by decide) (by decide))
          have hg100 : G < 10000 ^ 100 := Nat.lt_of_lt_of_le (show G < 10000 ^ 1 by omega) (Nat.pow_le_pow_right (by decide) (by decide))
          have hr200 : r < 10000 ^ 200 := by
            have h1 : 10000 * b < 10000 ^ 100 := by rw [show (100 : Nat) = 99 + 1 from rfl, Nat.pow_succ, Nat.mul_comm]; exact Nat.mul_lt_mul_of_pos_right (unhide HB) (by decide)
            exact Nat.lt_trans hrb (Nat.lt_of_lt_of_le h1 (Nat.pow_le_pow_right (by decide) (by decide)))
          have C5 := hide (times_any _ _ _ b G ((unhide V1).later bA) hlit hb100 hg100)
          have HR2 := hide hr200
          clear hlit hb100 hg100 hr200
          go_wp2_with fail
          refine (unhide C5).mono ?_
          rintro e w4 ⟨ao4, c4, rfl, o4, b4'⟩
          have bw4 := bA.trans (b4'.mono bA.size)
          have hle4 : b * G ≤ r := by rw [Nat.mul_comm]; exact unhide HGr
          have C6 := hide (minus_any w4 _ _ r (b * G) (own1.later bw4).reads o4.reads (unhide HR2) hle4)
          have HL4 := hide hle4
          clear C5 b4' bA o4 hle4
          go_wp2_with fail
          refine (unhide C6).mono ?_
          rintro e w5 ⟨ao5, c5, rfl, o5, b5'⟩
          have bw5 := bw4.trans (b5'.mono bw4.size)
          have hB4 : B ≤ w4.heap.size := by have := bw4.size; have := B1.size; omega
          clear C6 b5' bw4
          go_wp2
          go_roundw
          case rel =>
            refine ⟨t + G, r - b * G, ao5, c5, by simp, rfl, ?_, o5.mono hB4, B1.trans (bw5.mono B1.size)⟩
            have h1 := unhide HI
            have h2 := unhide HL4
            rw [Nat.add_mul, Nat.mul_comm G b]
            omega
          case measure => simp only [intOf]; omega
        · have hgm : max 1 G = 1 := Nat.max_eq_left (by omega)
          rw [hgm] at HG
          have hGr := unhide HG
          have hgv : 1 < 10000 := Nat.lt_of_mul_lt_mul_right (Nat.lt_of_le_of_lt hGr hrb)
          have HGr := hide hGr
          clear hgm HG hGr
          have hlit : Reads (w3.alloc (.cells #[.int .i64 ((1 : Nat) : Int)] 3)) (.slice (some ⟨w3.heap.size, 0, none⟩) 1 1) (L 1) := by
            rw [L_small (by omega) hgv]
            exact (own_one w3 _ (B := 0) (Nat.zero_le _)).reads
          have bA : Below w3.heap.size w3 (w3.alloc (.cells #[.int .i64 ((1 : Nat) : Int)] 3)) := (Below.refl _ _).alloc (Nat.le_refl _) _
          have hb100 : b < 10000 ^ 100 := Nat.lt_of_lt_of_le (unhide HB) (Nat.pow_le_pow_right (by decide) (by decide))
          have hg100 : 1 < 10000 ^ 100 := Nat.lt_of_lt_of_le (show 1 < 10000 ^ 1 by omega) (Nat.pow_le_pow_right (by decide) (by decide))
          have hr200 : r < 10000 ^ 200 := by
            have h1 : 10000 * b < 10000 ^ 100 := by rw [show (100 : Nat) = 99 + 1 from rfl, Nat.pow_succ, Nat.mul_comm]; exact Nat.mul_lt_mul_of_pos_right (unhide HB) (by decide)
            exact Nat.lt_trans hrb (Nat.lt_of_lt_of_le h1 (Nat.pow_le_pow_right (by decide) (by decide)))
          have C5 := hide (times_any _ _ _ b 1 ((unhide V1).later bA) hlit hb100 hg100)
          rw [Nat.mul_one] at C5
          have HR2 := hide hr200
          clear hlit hb100 hg100 hr200
          go_wp2_with fail
          refine (unhide C5).mono ?_
          rintro e w4 ⟨ao4, c4, rfl, o4, b4'⟩
          have bw4 := bA.trans (b4'.mono bA.size)
          have hle4 : b ≤ r := hc
          have C6 := hide (minus_any w4 _ _ r b (own1.later bw4).reads o4.reads (unhide HR2) hle4)
          have HL4 := hide hle4
          clear C5 b4' bA o4 hle4
          go_wp2_with fail
          refine (unhide C6).mono ?_
          rintro e w5 ⟨ao5, c5, rfl, o5, b5'⟩
          have bw5 := bw4.trans (b5'.mono bw4.size)
          have hB4 : B ≤ w4.heap.size := by have := bw4.size; have := B1.size; omega
          clear C6 b5' bw4
          go_wp2
          go_roundw
          case rel =>
            refine ⟨t + 1, r - b, ao5, c5, by simp, rfl, ?_, o5.mono hB4, B1.trans (bw5.mono B1.size)⟩
            have h1 := unhide HI
            have h2 := unhide HL4
            rw [Nat.add_mul, Nat.one_mul]
            omega
          case measure => simp only [intOf]; omega
      · have hcz : decide (0 ≤ cmpZ (r : Int) (b : Int)) = false := by
          rw [decide_eq_false_iff_not, cmpZ_lt (Int.ofNat_lt.2 (Nat.lt_of_not_le hc))]
          decide
        generalize cmpZ (r : Int) (b : Int) = cz at *
        have e1 : t = a / b := by
          have h := unhide HI
          rw [h, Nat.mul_comm, Nat.mul_add_div hb0, Nat.div_eq_of_lt (Nat.lt_of_not_le hc)]
          rfl
        have e2 : r = a % b := by
          have h := unhide HI
          rw [h, Nat.mul_comm, Nat.mul_add_mod, Nat.mod_eq_of_lt (Nat.lt_of_not_le hc)]
        have E1 := hide e1
        have E2 := hide e2
        clear e1 e2 hc
        go_wp2
        refine bodyPost_ret (v := .tuple #[.int .i64 (t : Int), .slice ro (L r).length rc]) (by simp [results, Tryz.results106, go_sem]) rfl ?_
        rw [← unhide E1, ← unhide E2]
        exact ⟨ro, rc, rfl, own1, B1⟩

end Go.Proofs.YthnkmjkgcnhlfaaGreatDoor

namespace Go.Proofs.YthnkmjkgcnhlfaaGreatDoor
open Go.RowKit


/-- Noughts struck, in place: the list stays where it is. -/
theorem trimmed_at (w : World) (B g n cap : Nat) (l : List Int) (ho' : Own B w (.slice (some ⟨g, 0, none⟩) n cap) l) :
    Calls Tryz.prog 105 #[.slice (some ⟨g, 0, none⟩) n cap] w fun e w' => e = .returned (.slice (some ⟨g, 0, none⟩) (trim l).length cap) ∧ Own B w (.slice (some ⟨g, 0, none⟩) (trim l).length cap) (trim l) ∧ w' = w := by
  have hn := ho'.len
  subst hn
  have hm : cap ≤ maxLen := by
    obtain ⟨_, hs⟩ := ho'
    rcases hs with ⟨e, _⟩ | ⟨g', cap', cur, e, _, _, _, hm, _⟩
    · cases e
    · cases e; omega
  unfold maxLen at hm
  have hlc : l.length ≤ cap := by
    obtain ⟨_, hs⟩ := ho'
    rcases hs with ⟨e, _⟩ | ⟨g', cap', cur, e, _, _, _, _, _⟩
    · cases e
    · cases e; omega
  go_enter Tryz.func105, Tryz.ntmps105
  go_wp2
  go_loopw [0] (fun s wr => ∃ k : Nat, k ≤ l.length ∧ s = .slice (some ⟨g, 0, none⟩) k cap ∧ trim (l.take k) = trim l ∧ wr = w)
    (fun s _ => lenOf s)
  case atStart => exact ⟨l.length, Nat.le_refl _, rfl, by rw [List.take_of_length_le (Nat.le_refl _)], rfl⟩
  case round =>
    obtain ⟨k, hk, rfl, ht, rfl⟩ := hrel
    have Ht := hide ht
    clear ht
    by_cases h0 : k = 0
    · subst h0
      go_wp2
      go_ret
      have e := unhide Ht
      have o := Own.cut ho' 0 (by omega)
      simp [trim] at e o
      rw [e]
      exact ⟨rfl, o, rfl⟩
    · have hp : 0 < k := by omega
      have hp' : decide ((0 : Int) < k) = true := by simp; omega
      have hz : k - 1 < l.length := by omega
      have hc := (World.ownsRow.cellAt ho' (k - 1) (by omega))
      rw [ints_at hz] at hc
      clear h0
      by_cases hl0 : l[k - 1] = 0
      · have hl0' : (l[k - 1] == 0) = true := by simp [hl0]
        have e := trim_take_zero hz (by rw [getD_at hz]; exact hl0)
        rw [show k - 1 + 1 = k by omega, unhide Ht] at e
        have He := hide e.symm
        clear e hl0
        go_wp2
        go_roundw
        case rel => exact ⟨k - 1, by omega, rfl, unhide He, by trivial⟩
        case measure => simp [lenOf]; omega
      · have hl0' : (l[k - 1] == 0) = false := by simp [hl0]
        have e := trim_take_ne hz (by rw [getD_at hz]; exact hl0)
        rw [show k - 1 + 1 = k by omega, unhide Ht] at e
        have o := Own.cut ho' k hk
        rw [← e] at o
        have He := hide e
        clear e hl0
        go_wp2
        go_ret
        exact ⟨by rw [unhide He, List.length_take, Nat.min_eq_left hk]; rfl, by rw [unhide He] at o ⊢; rw [List.length_take, Nat.min_eq_left hk]; exact o, rfl⟩

/-- What the program's division answers: two lists of its own, the first in the first block that it laid. -/
def GivesTwoR (w : World) (q r : Nat) (e : Ending) (w' : World) : Prop :=
  ∃ (qo ro : Option Addr) (qc rc : Nat), e = .returned (.tuple #[.slice qo (L q).length qc, .slice ro (L r).length rc]) ∧ Own w.heap.size w' (.slice qo (L q).length qc) (L q) ∧ (∀ k, (Value.slice qo (L q).length qc).ownBlock = some k → k < w.heap.size + 1) ∧ Own (w.heap.size + 1) w' (.slice ro (L r).length rc) (L r) ∧ w.heap.size < w'.heap.size ∧ Below w.heap.size w w'

set_option maxHeartbeats 1000000 in
set_option maxRecDepth 100000 in
theorem through_any (w : World) (u v : Value) (a b : Nat) (hu : Reads w u (L a)) (hv : Reads w v (L b)) (hb0 : 0 < b) (ha : a < 10000 ^ 99) (hb : b < 10000 ^ 99) :
    Calls Tryz.prog 79 #[u, v] w (GivesTwoR w (a / b) (a % b)) := by
  have hla := L_len_le ha
  have hlim := L_lim a
  have hva := val_L a
  have HB2 := hide hb
  have HVA := hide hva
  have hlenb : ∀ r, r < b → (L r).length ≤ 100 := fun r hr => Nat.le_trans (L_len_le (Nat.lt_trans hr hb)) (by decide)
  have HLB := hide hlenb
  clear ha hb hva hlenb
  generalize L a = l at *
  have V := hide hv
  obtain ⟨ao', b2, off', cap', rfl, hv⟩ := hv
  clear hv
  obtain ⟨ao, b1, off, cap, rfl, hu⟩ := hu
  have h1 := hu.le
  have h2 := hu.big
  unfold maxLen at h2
  obtain ⟨i0, hi, hz0, hz1, hz2⟩ := info_parts Tryz.info3
  go_enter Tryz.func79, Tryz.ntmps79
  go_wp2_with (at_make; refine wpList_make_full _ rfl _ _ 67 rfl w.heap.size 3 i0 (.int .i64 0) 1 Tryz.underlying67 hi hz0 hz1 _ _ _ _ l.length rfl rfl (by omega) (by omega) ?b2 ?b3 (Nat.le_refl _) ?_)
  case b2 => rw [hz2]; omega
  case b3 => unfold maxLen; omega
  intro w0 hown0 hgrow0
  have e0 : (madeCells #[Value.int .i64 0] l.length).toList = ints (List.replicate l.length 0) := by rw [toList_madeCells_one, ints_zeros]
  have own0 : Own w.heap.size w0 (.slice (some ⟨w.heap.size, 0, none⟩) l.length l.length) (List.replicate l.length 0) := by
    unfold Own
    rw [List.length_replicate, ← e0]
    simpa using hown0
  have bel0 : Below w.heap.size w w0 := (Below.refl _ _).grown hgrow0 (Nat.le_refl _) (fun k h => by cases h)
  have hs0 : w.heap.size < w0.heap.size := (own0.lt _ rfl).2
  clear hown0 hgrow0 e0
  go_wp2
  go_loopw [7, 8] (fun ll ii wr => ∃ (k r : Nat) (out : List Int) (lo : Option Addr) (lc : Nat), ii = .int .i64 ((k : Int) - 1) ∧ k ≤ l.length ∧ ll = .slice lo (L r).length lc ∧ r < b ∧ out.length = l.length ∧ Lim out ∧ (∀ j, j < k → out.getD j 0 = 0) ∧
      val out * b + r * 10000 ^ k = 10000 ^ k * val (l.drop k) ∧ Own w.heap.size wr (.slice (some ⟨w.heap.size, 0, none⟩) l.length l.length) out ∧ Own (w.heap.size + 1) wr (.slice lo (L r).length lc) (L r) ∧ Below w.heap.size w wr)
    (fun _ ii _ => (intOf ii + 1).toNat)
  case atStart =>
    refine ⟨l.length, 0, List.replicate l.length 0, none, 0, rfl, Nat.le_refl _, by rw [L_zero]; rfl, hb0, by simp, Lim.zeros _, fun j hj => by simp [List.getD_eq_getElem?_getD, hj], ?_, own0, ?_, bel0⟩
    · rw [val_replicate, List.drop_length]
      simp [val]
    · rw [L_zero]
      exact Own.nil _ _
  case round =>
    obtain ⟨k, r, out, lo, lc, rfl, hk, rfl, hrb, hol, hlimo, hz, hI, hown, hleft, hbel⟩ := hrel
    have HI := hide hI
    have HZ := hide hz
    have HOL := hide hol
    have hfz := hbel.size
    have hs1 : w.heap.size < wr.heap.size := (hown.lt _ rfl).2
    have hLr := unhide HLB r hrb
    clear hI hz hol own0 bel0 hs0 i0 hi hz0 hz1 hz2
    by_cases h : 0 < k
    · obtain ⟨k', rfl⟩ : ∃ k', k = k' + 1 := ⟨k - 1, by omega⟩
      have hki : ((k' + 1 : Nat) : Int) - 1 = k' := by omega
      rw [hki]
      have hkl : k' < l.length := by omega
      have hc := (hu.later hbel).cell k' hkl
      have hx1 := hlim.at hkl
      have hat := hu.at_ (by omega)
      subst hat
      obtain ⟨x, hx⟩ : ∃ x : Nat, l[k'] = x := ⟨l[k'].toNat, by omega⟩
      rw [hx] at hc hx1
      have hR := hide (fun o => hleft.reads.alloc o)
      obtain ⟨left, hleftv⟩ : ∃ left : Nat, left = x + 10000 * r := ⟨_, rfl⟩
      have hlb : left < 10000 * b := by omega
      have etl : trim ((x : Int) :: L r) = L left := by
        have hl2 : Lim ((x : Int) :: L r) := Lim.app (Lim.one (by omega) (by omega)) (L_lim r)
        rw [trim_eq hl2]
        simp only [val, val_L]
        congr 1
        omega
      have ETL := hide etl
      have HLV := hide hleftv
      have HX := hide hx
      clear etl hx hleftv hki
      have hlx : ([(x : Int)]).length + (L r).length ≤ 8000000 := by simp; omega
      go_wp2_with (at_builtin; refine wpList_pushAll rfl _ _ 67 rfl Tryz.underlying67 wr.heap.size _ [(x : Int)] (own_one _ _ (Nat.le_refl _)) rfl _ (L r) (unhide hR _) rfl hlx (by simp) ?_; intro ao1 cap1 w1 ho1 hb1)
      have ho2 : Own wr.heap.size w1 (.slice ao1 ((L r).length + 1) cap1) ((x : Int) :: L r) := ho1
      have bw1 : Below wr.heap.size wr w1 := ((Below.refl _ _).alloc (Nat.le_refl _) _).trans hb1
      have C2 := hide (trimmed_any w1 wr.heap.size _ _ ho2)
      rw [unhide ETL] at C2
      clear ho1 ho2 hb1 hR hc hlx
      refine (unhide C2).mono ?_
      rintro e w2 ⟨ao2, c2, rfl, o2, rfl⟩
      have C3 := hide (goes_any w2 wr.heap.size _ _ left b o2 bw1.size ((unhide V).later (hbel.trans (bw1.mono hfz))) hb0 hlb (unhide HB2))
      clear C2
      go_wp2_with fail
      refine (unhide C3).mono ?_
      rintro e w3 ⟨ro, rc, rfl, o3, b3'⟩
      have bw3 := bw1.trans (b3'.mono bw1.size)
      clear C3 b3' bw1 o2
      have hd1 : left / b < 10000 := Nat.div_lt_of_lt_mul (by rw [Nat.mul_comm]; exact hlb)
      have hd2 : b * (left / b) ≤ left := Nat.mul_div_le left b
      have hd3 : left % b < b := Nat.mod_lt left hb0
      have hd4 : left % b = left - b * (left / b) := by have e := Nat.div_add_mod left b; omega
      have HD2 := hide hd2
      have HD3 := hide hd3
      have HD4 := hide hd4
      clear hd2 hd3 hd4
      generalize left / b = d at *
      generalize left % b = rr at *
      have own3 := hown.later bw3
      have hcell := own3.cellAt (i := k') (by rw [unhide HOL]; exact hkl)
      have hfro := own3.frozenAt k'
      have hst := own3.store k' (d : Int)
      have o4 := o3.setBelow (a := ⟨w.heap.size, k', none⟩) (by exact hs1) (.int .i64 (d : Int))
      have B3 := hbel.trans (bw3.mono hfz)
      have B4 := B3.setCell (p := ⟨w.heap.size, k', none⟩) (Nat.le_refl _) (.int .i64 (d : Int))
      have hs3 : w.heap.size < w3.heap.size := (own3.lt _ rfl).2
      have H4 := hide hst.1
      clear hst own3 o3 bw3
      go_wp2
      go_roundw
      case rel =>
        refine ⟨k', rr, out.set k' (d : Int), ro, rc, rfl, by omega, rfl, unhide HD3, by rw [List.length_set]; exact unhide HOL, hlimo.set k' (by omega) (by omega), ?_, ?_, unhide H4, o4.mono (by omega), B4⟩
        · intro j hj
          have := unhide HZ j (by omega)
          rw [List.getD_eq_getElem?_getD, List.getElem?_set_ne (by omega), ← List.getD_eq_getElem?_getD]
          exact this
        · have hxx : (x : Int) = l.getD k' 0 := by
            rw [← unhide HX]
            simp [List.getD_eq_getElem?_getD, List.getElem?_eq_getElem hkl]
          have hLL : (left : Int) = (x : Int) + 10000 * r := by
            have := unhide HLV
            omega
          have := long_step (b := b) (d := d) hkl hxx (unhide HOL) (unhide HZ k' (by omega)) (unhide HI) hLL
          rw [unhide HD4, Int.natCast_sub (unhide HD2), Int.natCast_mul]
          exact this
      case measure => simp only [intOf]; omega
    · have hk0 : k = 0 := by omega
      subst hk0
      have hE := div_end (unhide HVA) hlimo (unhide HI) hrb
      have C := hide (trimmed_at wr w.heap.size w.heap.size l.length l.length out hown)
      rw [hE.1] at C
      have hr2 := hide hE.2
      clear hE HI
      go_wp2_with fail
      refine (unhide C).mono ?_
      rintro e w2 ⟨rfl, o2, rfl⟩
      clear C
      go_wp2
      refine bodyPost_ret (v := .tuple #[.slice (some ⟨w.heap.size, 0, none⟩) (L (a / b)).length l.length, .slice lo (L r).length lc]) (by simp [results, Tryz.results79, go_sem]) rfl ?_
      rw [← unhide hr2]
      exact ⟨some ⟨w.heap.size, 0, none⟩, lo, l.length, lc, rfl, o2, fun j hj => by have := (o2.lt j hj); simp [Value.ownBlock] at hj; omega, hleft, hs1, hbel⟩

end Go.Proofs.YthnkmjkgcnhlfaaGreatDoor
