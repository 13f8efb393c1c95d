/- The program's quotient of limbs, by a contract. -/
import Derived.Test.YthnkmjkgcnhlfaaGreatDoorDivI0
namespace Go.Proofs.YthnkmjkgcnhlfaaGreatDoor
open Go.RowKit


/-- Noughts struck, in place: the list stays where it is. -/
theorem trimmed_at (w : World) (B g n cap : Nat) (l : List Int) (ho' : Own B w (.slice (some ⟨g, 0, none⟩) n cap) l) :
    Calls Tryz.prog 105 #[.slice (some ⟨g, 0, none⟩) n cap] w fun e w' => e = .returned (.slice (some ⟨g, 0, none⟩) (trim l).length cap) ∧ Own B w (.slice (some ⟨g, 0, none⟩) (trim l).length cap) (trim l) ∧ w' = w := by
  have hn := ho'.len
  subst hn
  have hm : cap ≤ maxLen := by
    obtain ⟨_, hs⟩ := ho'
    rcases hs with ⟨e, _⟩ | ⟨g', cap', cur, e, _, _, _, hm, _⟩
    · cases e
    · cases e; omega
  unfold maxLen at hm
  have hlc : l.length ≤ cap := by
    obtain ⟨_, hs⟩ := ho'
    rcases hs with ⟨e, _⟩ | ⟨g', cap', cur, e, _, _, _, _, _⟩
    · cases e
    · cases e; omega
  go_enter Tryz.func105, Tryz.ntmps105
  go_wp2
  go_loopw [0] (fun s wr => ∃ k : Nat, k ≤ l.length ∧ s = .slice (some ⟨g, 0, none⟩) k cap ∧ trim (l.take k) = trim l ∧ wr = w)
    (fun s _ => lenOf s)
  case atStart => exact ⟨l.length, Nat.le_refl _, rfl, by rw [List.take_of_length_le (Nat.le_refl _)], rfl⟩
  case round =>
    obtain ⟨k, hk, rfl, ht, rfl⟩ := hrel
    have Ht := hide ht
    clear ht
    by_cases h0 : k = 0
    · subst h0
      go_wp2
      go_ret
      have e := unhide Ht
      have o := Own.cut ho' 0 (by omega)
      simp [trim] at e o
      rw [e]
      exact ⟨rfl, o, rfl⟩
    · have hp : 0 < k := by omega
      have hp' : decide ((0 : Int) < k) = true := by simp; omega
      have hz : k - 1 < l.length := by omega
      have hc := (World.ownsRow.cellAt ho' (k - 1) (by omega))
      rw [ints_at hz] at hc
      clear h0
      by_cases hl0 : l[k - 1] = 0
      · have hl0' : (l[k - 1] == 0) = true := by simp [hl0]
        have e := trim_take_zero hz (by rw [getD_at hz]; exact hl0)
        rw [show k - 1 + 1 = k by omega, unhide Ht] at e
        have He := hide e.symm
        clear e hl0
        go_wp2
        go_roundw
        case rel => exact ⟨k - 1, by omega, rfl, unhide He, by trivial⟩
        case measure => simp [lenOf]; omega
      · have hl0' : (l[k - 1] == 0) = false := by simp [hl0]
        have e := trim_take_ne hz (by rw [getD_at hz]; exact hl0)
        rw [show k - 1 + 1 = k by omega, unhide Ht] at e
        have o := Own.cut ho' k hk
        rw [← e] at o
        have He := hide e
        clear e hl0
        go_wp2
        go_ret
        exact ⟨by rw [unhide He, List.length_take, Nat.min_eq_left hk]; rfl, by rw [unhide He] at o ⊢; rw [List.length_take, Nat.min_eq_left hk]; exact o, rfl⟩

/-- What the program's division answers: two lists of its own, the first in the first block that it laid. -/
def GivesTwoR (w : World) (q r : Nat) (e : Ending) (w' : World) : Prop :=
  ∃ (qo ro : Option Addr) (qc rc : Nat), e = .returned (.tuple #[.slice qo (L q).length qc, .slice ro (L r).length rc]) ∧ Own w.heap.size w' (.slice qo (L q).length qc) (L q) ∧ (∀ k, (Value.slice qo (L q).length qc).ownBlock = some k → k < w.heap.size + 1) ∧ Own (w.heap.size + 1) w' (.slice ro (L r).length rc) (L r) ∧ w.heap.size < w'.heap.size ∧ Below w.heap.size w w'

set_option maxHeartbeats 1000000 in
set_option maxRecDepth 100000 in
theorem through_any (w : World) (u v : Value) (a b : Nat) (hu : Reads w u (L a)) (hv : Reads w v (L b)) (hb0 : 0 < b) (ha : a < 10000 ^ 99) (hb : b < 10000 ^ 99) :
    Calls Tryz.prog 79 #[u, v] w (GivesTwoR w (a / b) (a % b)) := by
  have hla := L_len_le ha
  have hlim := L_lim a
  have hva := val_L a
  have HB2 := hide hb
  have HVA := hide hva
  have hlenb : ∀ r, r < b → (L r).length ≤ 100 := fun r hr => Nat.le_trans (L_len_le (Nat.lt_trans hr hb)) (by decide)
  have HLB := hide hlenb
  clear ha hb hva hlenb
  generalize L a = l at *
  have V := hide hv
  obtain ⟨ao', b2, off', cap', rfl, hv⟩ := hv
  clear hv
  obtain ⟨ao, b1, off, cap, rfl, hu⟩ := hu
  have h1 := hu.le
  have h2 := hu.big
  unfold maxLen at h2
  obtain ⟨i0, hi, hz0, hz1, hz2⟩ := info_parts Tryz.info3
  go_enter Tryz.func79, Tryz.ntmps79
  go_wp2_with (at_make; refine wpList_make_full _ rfl _ _ 67 rfl w.heap.size 3 i0 (.int .i64 0) 1 Tryz.underlying67 hi hz0 hz1 _ _ _ _ l.length rfl rfl (by omega) (by omega) ?b2 ?b3 (Nat.le_refl _) ?_)
  case b2 => rw [hz2]; omega
  case b3 => unfold maxLen; omega
  intro w0 hown0 hgrow0
  have e0 : (madeCells #[Value.int .i64 0] l.length).toList = ints (List.replicate l.length 0) := by rw [toList_madeCells_one, ints_zeros]
  have own0 : Own w.heap.size w0 (.slice (some ⟨w.heap.size, 0, none⟩) l.length l.length) (List.replicate l.length 0) := by
    unfold Own
    rw [List.length_replicate, ← e0]
    simpa using hown0
  have bel0 : Below w.heap.size w w0 := (Below.refl _ _).grown hgrow0 (Nat.le_refl _) (fun k h => by cases h)
  have hs0 : w.heap.size < w0.heap.size := (own0.lt _ rfl).2
  clear hown0 hgrow0 e0
  go_wp2
  go_loopw [7, 8] (fun ll ii wr => ∃ (k r : Nat) (out : List Int) (lo : Option Addr) (lc : Nat), ii = .int .i64 ((k : Int) - 1) ∧ k ≤ l.length ∧ ll = .slice lo (L r).length lc ∧ r < b ∧ out.length = l.length ∧ Lim out ∧ (∀ j, j < k → out.getD j 0 = 0) ∧
      val out * b + r * 10000 ^ k = 10000 ^ k * val (l.drop k) ∧ Own w.heap.size wr (.slice (some ⟨w.heap.size, 0, none⟩) l.length l.length) out ∧ Own (w.heap.size + 1) wr (.slice lo (L r).length lc) (L r) ∧ Below w.heap.size w wr)
    (fun _ ii _ => (intOf ii + 1).toNat)
  case atStart =>
    refine ⟨l.length, 0, List.replicate l.length 0, none, 0, rfl, Nat.le_refl _, by rw [L_zero]; rfl, hb0, by simp, Lim.zeros _, fun j hj => by simp [List.getD_eq_getElem?_getD, hj], ?_, own0, ?_, bel0⟩
    · rw [val_replicate, List.drop_length]
      simp [val]
    · rw [L_zero]
      exact Own.nil _ _
  case round =>
    obtain ⟨k, r, out, lo, lc, rfl, hk, rfl, hrb, hol, hlimo, hz, hI, hown, hleft, hbel⟩ := hrel
    have HI := hide hI
    have HZ := hide hz
    have HOL := hide hol
    have hfz := hbel.size
    have hs1 : w.heap.size < wr.heap.size := (hown.lt _ rfl).2
    have hLr := unhide HLB r hrb
    clear hI hz hol own0 bel0 hs0 i0 hi hz0 hz1 hz2
    by_cases h : 0 < k
    · obtain ⟨k', rfl⟩ : ∃ k', k = k' + 1 := ⟨k - 1, by omega⟩
      have hki : ((k' + 1 : Nat) : Int) - 1 = k' := by omega
      rw [hki]
      have hkl : k' < l.length := by omega
      have hc := (hu.later hbel).cell k' hkl
      have hx1 := hlim.at hkl
      have hat := hu.at_ (by omega)
      subst hat
      obtain ⟨x, hx⟩ : ∃ x : Nat, l[k'] = x := ⟨l[k'].toNat, by omega⟩
      rw [hx] at hc hx1
      have hR := hide (fun o => hleft.reads.alloc o)
      obtain ⟨left, hleftv⟩ : ∃ left : Nat, left = x + 10000 * r := ⟨_, rfl⟩
      have hlb : left < 10000 * b := by omega
      have etl : trim ((x : Int) :: L r) = L left := by
        have hl2 : Lim ((x : Int) :: L r) := Lim.app (Lim.one (by omega) (by omega)) (L_lim r)
        rw [trim_eq hl2]
        simp only [val, val_L]
        congr 1
        omega
      have ETL := hide etl
      have HLV := hide hleftv
      have HX := hide hx
      clear etl hx hleftv hki
      have hlx : ([(x : Int)]).length + (L r).length ≤ 8000000 := by simp; omega
      go_wp2_with (at_builtin; refine wpList_pushAll rfl _ _ 67 rfl Tryz.underlying67 wr.heap.size _ [(x : Int)] (own_one _ _ (Nat.le_refl _)) rfl _ (L r) (unhide hR _) rfl hlx (by simp) ?_; intro ao1 cap1 w1 ho1 hb1)
      have ho2 : Own wr.heap.size w1 (.slice ao1 ((L r).length + 1) cap1) ((x : Int) :: L r) := ho1
      have bw1 : Below wr.heap.size wr w1 := ((Below.refl _ _).alloc (Nat.le_refl _) _).trans hb1
      have C2 := hide (trimmed_any w1 wr.heap.size _ _ ho2)
      rw [unhide ETL] at C2
      clear ho1 ho2 hb1 hR hc hlx
      refine (unhide C2).mono ?_
      rintro e w2 ⟨ao2, c2, rfl, o2, rfl⟩
      have C3 := hide (goes_any w2 wr.heap.size _ _ left b o2 bw1.size ((unhide V).later (hbel.trans (bw1.mono hfz))) hb0 hlb (unhide HB2))
      clear C2
      go_wp2_with fail
      refine (unhide C3).mono ?_
      rintro e w3 ⟨ro, rc, rfl, o3, b3'⟩
      have bw3 := bw1.trans (b3'.mono bw1.size)
      clear C3 b3' bw1 o2
      have hd1 : left / b < 10000 := Nat.div_lt_of_lt_mul (by rw [Nat.mul_comm]; exact hlb)
      have hd2 : b * (left / b) ≤ left := Nat.mul_div_le left b
      have hd3 : left % b < b := Nat.mod_lt left hb0
      have hd4 : left % b = left - b * (left / b) := by have e := Nat.div_add_mod left b; omega
      have HD2 := hide hd2
      have HD3 := hide hd3
      have HD4 := hide hd4
      clear hd2 hd3 hd4
      generalize left / b = d at *
      generalize left % b = rr at *
      have own3 := hown.later bw3
      have hcell := own3.cellAt (i := k') (by rw [unhide HOL]; exact hkl)
      have hfro := own3.frozenAt k'
      have hst := own3.store k' (d : Int)
      have o4 := o3.setBelow (a := ⟨w.heap.size, k', none⟩) (by exact hs1) (.int .i64 (d : Int))
      have B3 := hbel.trans (bw3.mono hfz)
      have B4 := B3.setCell (p := ⟨w.heap.size, k', none⟩) (Nat.le_refl _) (.int .i64 (d : Int))
      have hs3 : w.heap.size < w3.heap.size := (own3.lt _ rfl).2
      have H4 := hide hst.1
      clear hst own3 o3 bw3
      go_wp2
      go_roundw
      case rel =>
        refine ⟨k', rr, out.set k' (d : Int), ro, rc, rfl, by omega, rfl, unhide HD3, by rw [List.length_set]; exact unhide HOL, hlimo.set k' (by omega) (by omega), ?_, ?_, unhide H4, o4.mono (by omega), B4⟩
        · intro j hj
          have := unhide HZ j (by omega)
          rw [List.getD_eq_getElem?_getD, List.getElem?_set_ne (by omega), ← List.getD_eq_getElem?_getD]
          exact this
        · have hxx : (x : Int) = l.getD k' 0 := by
            rw [← unhide HX]
            simp [List.getD_eq_getElem?_getD, List.getElem?_eq_getElem hkl]
          have hLL : (left : Int) = (x : Int) + 10000 * r := by
            have := unhide HLV
            omega
          have := long_step (b := b) (d := d) hkl hxx (unhide HOL) (unhide HZ k' (by omega)) (unhide HI) hLL
          rw [unhide HD4, Int.natCast_sub (unhide HD2), Int.natCast_mul]
          exact this
      case measure => simp only [intOf]; omega
    · have hk0 : k = 0 := by omega
      subst hk0
      have hE := div_end (unhide HVA) hlimo (unhide HI) hrb
      have C := hide (trimmed_at wr w.heap.size w.heap.size l.length l.length out hown)
      rw [hE.1] at C
      have hr2 := hide hE.2
      clear hE HI
      go_wp2_with fail
      refine (unhide C).mono ?_
      rintro e w2 ⟨rfl, o2, rfl⟩
      clear C
      go_wp2
      refine bodyPost_ret (v := .tuple #[.slice (some ⟨w.heap.size, 0, none⟩) (L (a / b)).length l.length, .slice lo (L r).length lc]) (by simp [results, Tryz.results79, go_sem]) rfl ?_
      rw [← unhide hr2]
      exact ⟨some ⟨w.heap.size, 0, none⟩, lo, l.length, lc, rfl, o2, fun j hj => by have := (o2.lt j hj); simp [Value.ownBlock] at hj; omega, hleft, hs1, hbel⟩

end Go.Proofs.YthnkmjkgcnhlfaaGreatDoor
