/- The program's limbs, by contracts: a product. A sign laid on limbs: signed, by a contract. Boxes and owned lists over later worlds. -/
import Derived.Test.YtlmbcicfpidhcaaG02
import Derived.Test.YtlmbcicfpidhcaaG01
import Derived.Deep.RegionWith
import Derived.WalkSpells
namespace Go.Proofs.Ytlmbcicfpidhcaa
open Go.RowKit
set_option maxRecDepth 100000

theorem times_any (w : World) (u v : Value) (a b : Nat) (hu : Reads w u (L a)) (hv : Reads w v (L b)) (ha : a < 10000 ^ 100) (hb : b < 10000 ^ 100) :
    Calls Try.prog 79 #[u, v] w (Gives w (L (a * b))) := by
  have hla := L_len_le ha
  have hlb := L_len_le hb
  have hab : a * b < 10000 ^ 200 := by
    rw [show (200 : Nat) = 100 + 100 from rfl, Nat.pow_add]
    exact Nat.mul_lt_mul'' ha hb
  have hla' := L_lim a
  have hlb' := L_lim b
  have va := val_L a
  have vb := val_L b
  generalize L a = l at *
  generalize L b = m at *
  clear ha hb
  obtain ⟨ao, b1, off, cap, rfl, hu⟩ := hu
  obtain ⟨ao', b2, off', cap', rfl, hv⟩ := hv
  have h1 := hu.le
  have h2 := hu.big
  have h3 := hv.le
  have h4 := hv.big
  unfold maxLen at h2 h4
  have HAB := hide hab
  have HVA := hide va
  have HVB := hide vb
  clear hab va vb
  obtain ⟨i0, hi, hz0, hz1, hz2⟩ := info_parts Try.info3
  go_enter Try.func79, Try.ntmps79
  go_wp2_with (at_make; refine wpList_make_full _ rfl _ _ 57 rfl w.heap.size 3 i0 (.int .i64 0) 1 Try.underlying57 hi hz0 hz1 _ _ _ _ (l.length + m.length) rfl rfl (by omega) (by omega) ?b2 ?b3 (Nat.le_refl _) ?_)
  case b2 => rw [hz2]; omega
  case b3 => unfold maxLen; omega
  intro w0 hown0 hgrow0
  have e0 : (madeCells #[Value.int .i64 0] (l.length + m.length)).toList = ints (List.replicate (l.length + m.length) 0) := by rw [toList_madeCells_one, ints_zeros]
  have own0 : Own w.heap.size w0 (.slice (some ⟨w.heap.size, 0, none⟩) (l.length + m.length) (l.length + m.length)) (List.replicate (l.length + m.length) 0) := by
    unfold Own
    rw [List.length_replicate, ← e0]
    exact hown0
  have bel0 : Below w.heap.size w w0 := (Below.refl _ _).grown hgrow0 (Nat.le_refl _) (fun k h => by cases h)
  have hz : ∀ j, (List.replicate (l.length + m.length) (0 : Int)).getD j 0 = 0 := by
    intro j
    simp only [List.getD_eq_getElem?_getD, List.getElem?_replicate]
    split <;> rfl
  have Hz := hide hz
  clear hown0 hgrow0 e0 hz
  go_wp2
  go_loopw [6, 7, 8, 9, 18] (fun _ _ _ _ ii wr => ∃ (i : Nat) (c : List Int), i ≤ l.length ∧ ii = .int .i64 i ∧ c.length = l.length + m.length ∧ (∀ j, 0 ≤ c.getD j 0 ∧ c.getD j 0 ≤ i * 99980001) ∧ val c = val (l.take i) * val m ∧
      Own w.heap.size wr (.slice (some ⟨w.heap.size, 0, none⟩) (l.length + m.length) (l.length + m.length)) c ∧ Below w.heap.size w wr)
    (fun _ _ _ _ ii _ => l.length - (intOf ii).toNat)
  case atStart => exact ⟨0, _, Nat.zero_le _, rfl, by simp, fun j => by rw [unhide Hz j]; omega, by simp [val, val_replicate], own0, bel0⟩
  case round =>
    obtain ⟨i, c, hil, rfl, hcl, hcj, hval, hown, hbel⟩ := hrel
    by_cases hlt : i < l.length
    · have hx1 := hla'.at hlt
      have hat := hu.at_ (by omega)
      subst hat
      have hcx := (hu.later hbel).cell i hlt
      go_wp2
      go_loopw [8, 9, 25] (fun _ _ kk wr => ∃ (k : Nat) (c : List Int), k ≤ m.length ∧ kk = .int .i64 k ∧ c.length = l.length + m.length ∧ (∀ j, 0 ≤ c.getD j 0 ∧ c.getD j 0 ≤ (if j < i + k then i + 1 else i) * 99980001) ∧ val c = val (l.take i) * val m + l.getD i 0 * 10000 ^ i * val (m.take k) ∧
          Own w.heap.size wr (.slice (some ⟨w.heap.size, 0, none⟩) (l.length + m.length) (l.length + m.length)) c ∧ Below w.heap.size w wr)
        (fun _ _ kk _ => m.length - (intOf kk).toNat)
      case atStart => exact ⟨0, c, Nat.zero_le _, rfl, hcl, fun j => by have := hcj j; split <;> omega, by simp [val, hval], hown, hbel⟩
      case round =>
        obtain ⟨k, c, hkm, rfl, hcl, hcj, hval, hown, hbel⟩ := hrel
        have HVal := hide hval
        have HCl := hide hcl
        have HCj := hide hcj
        clear hval
        by_cases hkl : k < m.length
        · have hik : i + k < c.length := by omega
          have hik' : i + k < l.length + m.length := by omega
          have hx2 := hlb'.at hkl
          have hc2 := (hv.later hbel).cell k hkl
          have hat' := hv.at_ (by omega)
          subst hat'
          have hco := hown.cellAt hik
          have hcf := hown.frozenAt (i + k)
          have hst := hide (fun x => (hown.store (i + k) x).1)
          have hR := col_step hik rfl (unhide HVal)
          rw [getD_at hik, getD_at hlt, getD_at hkl] at hR
          have hq := hcj (i + k)
          rw [if_neg (by omega), getD_at hik] at hq
          have hJ : ∀ x : Int, 0 ≤ x → x ≤ ((i : Int) + 1) * 99980001 → ∀ j, 0 ≤ (c.set (i + k) x).getD j 0 ∧ (c.set (i + k) x).getD j 0 ≤ (if j < i + (k + 1) then i + 1 else i) * 99980001 := by
            intro x hx hx' j
            rw [getD_set hik]
            by_cases e : j = i + k
            · rw [if_pos e, if_pos (by omega)]; omega
            · rw [if_neg e]
              have := unhide HCj j
              by_cases h5 : j < i + k
              · rw [if_pos h5] at this; rw [if_pos (by omega)]; exact this
              · rw [if_neg h5] at this; rw [if_neg (by omega)]; exact this
          have hlen : ∀ x, (c.set (i + k) x).length = l.length + m.length := fun x => by rw [List.length_set]; exact unhide HCl
          have HR := hide hR
          have HJ := hide hJ
          have HLen := hide hlen
          clear hR hJ hlen hown hcj hcl hu hv
          generalize hya : l[i] = ya at *
          generalize hyb : m[k] = yb at *
          generalize hyo : c[i + k] = yo at *
          have Hya := hide hya
          have Hyb := hide hyb
          have Hyo := hide hyo
          clear hya hyb hyo
          obtain ⟨q1, q2⟩ := hx1
          obtain ⟨q3, q4⟩ := hx2
          obtain ⟨q5, q6⟩ := hq
          have q7 : 0 ≤ ya * yb := Int.mul_nonneg q1 q3
          have q8 : ya * yb ≤ 99980001 := by
            have h1 : ya * yb ≤ 9999 * yb := Int.mul_le_mul_of_nonneg_right (by omega) q3
            have h2 : 9999 * yb ≤ 9999 * 9999 := Int.mul_le_mul_of_nonneg_left (by omega) (by omega)
            omega
          have q9 : yo ≤ 9998000100 := by omega
          go_wp2
          go_roundw
          case rel => exact ⟨k + 1, _, by omega, by go_num, unhide HLen _, unhide HJ _ (by omega) (by omega), by rw [getD_at hlt, unhide Hya]; exact unhide HR, unhide hst _, hbel.setCell (Nat.le_refl _) _⟩
          case measure => simp only [intOf]; omega
        · have He := hide (col_row_end (by omega) (unhide HVal))
          clear hu hv
          go_wp2
          go_roundw
          case rel => exact ⟨i + 1, c, by omega, by go_num, hcl, fun j => by have := hcj j; split at this <;> omega, unhide He, hown, hbel⟩
          case measure => simp only [intOf]; omega
    · have e := hval
      rw [List.take_of_length_le (by omega), unhide HVA, unhide HVB] at e
      have hcall := carried_any wr w.heap.size _ c (a * b) 200 hown (by rw [e, Int.natCast_mul]) (unhide HAB) (by omega) (by omega)
        (mem_of_getD (P := fun x => -1000000000000000 ≤ x ∧ x ≤ 1000000000000000) (fun j _ => by
          have := hcj j
          omega)) hbel.size
      have HCall := hide hcall
      clear hcall e hown hcj hcl hval hu hv
      go_wp2_with fail
      refine (unhide HCall).mono ?_
      rintro e w2 ⟨ao2, cap2, rfl, ho2, hb2⟩
      go_wp2
      go_ret
      exact ⟨ao2, cap2, rfl, ho2, hbel.trans hb2⟩

end Go.Proofs.Ytlmbcicfpidhcaa

namespace Go.Proofs.Ytlmbcicfpidhcaa
open Go.RowKit
set_option maxRecDepth 100000

end Go.Proofs.Ytlmbcicfpidhcaa

namespace Go.Proofs.Ytlmbcicfpidhcaa
open Go.RowKit
set_option maxRecDepth 100000

end Go.Proofs.Ytlmbcicfpidhcaa
