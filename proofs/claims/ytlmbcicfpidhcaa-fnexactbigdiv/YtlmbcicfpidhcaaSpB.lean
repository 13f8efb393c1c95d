/- The specification's limbs, by contracts: a product. -/
import Derived.Test.YtlmbcicfpidhcaaG07
namespace Go.Proofs.Ytlmbcicfpidhcaa
open Go.RowKit
set_option maxRecDepth 100000

theorem l1MulAbs_any (w : World) (u v : Value) (a b : Nat) (hu : Reads w u (L a)) (hv : Reads w v (L b)) (ha : a < 10000 ^ 200) (hb : b < 10000 ^ 200) :
    Calls Try.prog 51 #[u, v] w (Gives w (L (a * b))) := by
  have hla := L_len_le ha
  have hlb := L_len_le hb
  have hla' := L_lim a
  have hlb' := L_lim b
  have Hend := hide (@mul_end (a := a) (b := b))
  generalize L a = l at *
  generalize L b = m at *
  clear ha hb
  have V := hide hv
  obtain ⟨ao, b1, off, cap, rfl, hu⟩ := hu
  obtain ⟨ao', b2, off', cap', rfl, hv⟩ := hv
  have h1 := hu.le
  have h2 := hu.big
  have h3 := hv.le
  have h4 := hv.big
  unfold maxLen at h2 h4
  clear hv
  obtain ⟨i0, hi, hz0, hz1, hz2⟩ := info_parts Try.info3
  go_enter Try.func51, Try.ntmps51
  go_wp2_with (at_make; refine wpList_make_full _ rfl _ _ 23 rfl w.heap.size 3 i0 (.int .i64 0) 1 Try.underlying23 hi hz0 hz1 _ _ _ _ (l.length + m.length) rfl rfl (by omega) (by omega) ?b2 ?b3 (Nat.le_refl _) ?_)
  case b2 => rw [hz2]; omega
  case b3 => unfold maxLen; omega
  intro w0 hown0 hgrow0
  have e0 : (madeCells #[Value.int .i64 0] (l.length + m.length)).toList = ints (List.replicate (l.length + m.length) 0) := by rw [toList_madeCells_one, ints_zeros]
  have own0 : Own w.heap.size w0 (.slice (some ⟨w.heap.size, 0, none⟩) (l.length + m.length) (l.length + m.length)) (List.replicate (l.length + m.length) 0) := by
    unfold Own
    rw [List.length_replicate, ← e0]
    exact hown0
  have bel0 : Below w.heap.size w w0 := (Below.refl _ _).grown hgrow0 (Nat.le_refl _) (fun k h => by cases h)
  clear hown0 hgrow0 e0
  go_wp2
  go_loopw [6, 7, 8, 9] (fun ii _ _ _ wr => ∃ (i : Nat) (out : List Int), i ≤ l.length ∧ ii = .int .i64 i ∧ out.length = l.length + m.length ∧ Lim out ∧ val out = val (l.take i) * val m ∧
      Own w.heap.size wr (.slice (some ⟨w.heap.size, 0, none⟩) (l.length + m.length) (l.length + m.length)) out ∧ Below w.heap.size w wr)
    (fun ii _ _ _ _ => l.length - (intOf ii).toNat)
  case atStart => exact ⟨0, _, Nat.zero_le _, rfl, by simp, Lim.zeros _, by simp [val, val_replicate], own0, bel0⟩
  case round =>
    obtain ⟨i, out, hil, rfl, hol, hlim, hval, hown, hbel⟩ := hrel
    by_cases hlt : i < l.length
    · have hx1 := hla'.at hlt
      have hat := hu.at_ (by omega)
      subst hat
      go_wp2
      go_loopw [7, 8, 9] (fun oo kk _ wr => ∃ (k : Nat) (over : Int) (out : List Int), kk = .int .i64 k ∧ oo = .int .i64 over ∧ out.length = l.length + m.length ∧ Lim out ∧ val out + over * 10000 ^ (i + k) = val (l.take i) * val m + l.getD i 0 * 10000 ^ i * val (m.take k) ∧ 0 ≤ over ∧ over ≤ 10000 ∧
          Own w.heap.size wr (.slice (some ⟨w.heap.size, 0, none⟩) (l.length + m.length) (l.length + m.length)) out ∧ Below w.heap.size w wr ∧ k ≤ m.length + 1)
        (fun _ kk _ _ => m.length + 5 - (intOf kk).toNat)
      case atStart => exact ⟨0, 0, out, rfl, rfl, hol, hlim, by simp [val, hval], by omega, by omega, hown, hbel, by omega⟩
      case round =>
        obtain ⟨k, over, out, rfl, rfl, hol, hlim, hval, ho1, ho2, hown, hbel, hk1⟩ := hrel
        have HVal := hide hval
        have HOl := hide hol
        have hsz := hbel.size
        have V' := hide ((unhide V).later hbel)
        clear hval hol
        by_cases hgo : k < m.length ∨ 0 < over
        · have hkm : k ≤ m.length := by
            rcases hgo with h | h
            · omega
            · by_cases h5 : m.length ≤ k
              · exact mul_room h hlim hla' hlb' hlt h5 (unhide HVal)
              · omega
          have hik : i + k < out.length := by rw [unhide HOl]; omega
          have hik' : i + k < l.length + m.length := by omega
          have hx2 := hlb'.getD k
          have hx3 := hlim.at hik
          have hco := hown.cellAt hik
          have hcf := hown.frozenAt (i + k)
          have hc := (hu.later hbel).cell i hlt
          have C2 := hide (fun W (h : Reads W (Value.slice ao' m.length cap') m) => l1Limb_any W _ m k h (by omega))
          have R := mul_step hik rfl (unhide HVal)
          rw [getD_at hik, getD_at hlt] at R
          have hst := fun x => (hown.store (i + k) x).1
          have hlen : ∀ x, (out.set (i + k) x).length = l.length + m.length := fun x => by rw [List.length_set]; exact unhide HOl
          have hset : ∀ x, 0 ≤ x → x < 10000 → Lim (out.set (i + k) x) := fun x h h' => hlim.set _ h h'
          have HR := hide R
          have HSt := hide hst
          have HLen := hide hlen
          have HSet := hide hset
          generalize hya : l[i] = ya at *
          generalize hyb : m.getD k 0 = yb at *
          generalize hyo : out[i + k] = yo at *
          have Hya := hide hya
          have Hyb := hide hyb
          have Hyo := hide hyo
          obtain ⟨q1, q2⟩ := hx1
          obtain ⟨q3, q4⟩ := hx2
          obtain ⟨q5, q6⟩ := hx3
          have q7 : 0 ≤ ya * yb := Int.mul_nonneg q1 q3
          have q8 : ya * yb ≤ 99980001 := by
            have h1 : ya * yb ≤ 9999 * yb := Int.mul_le_mul_of_nonneg_right (by omega) q3
            have h2 : 9999 * yb ≤ 9999 * 9999 := Int.mul_le_mul_of_nonneg_left (by omega) (by omega)
            omega
          clear R hst hlen hset hya hyb hyo hown hu
          have cases2 : k < m.length ∨ (¬ k < m.length ∧ 0 < over) := by omega
          clear hgo
          rcases cases2 with c1 | ⟨c1, c2⟩
          all_goals
            go_wp2
            go_quiet ((go_at_call 81; exact Calls.quiet_of_same (unhide C2 _ ((unhide V').later (below_drewN (Below.refl _ _) _)))))
            go_wp2
            go_roundw
            case rel => exact ⟨k + 1, _, _, by go_num, rfl, unhide HLen _, unhide HSet _ (by omega) (by omega), by rw [getD_at hlt, unhide Hya]; exact unhide HR, by omega, by omega, unhide HSt _, (below_draws hbel _).setCell (Nat.le_refl _) _, by omega⟩
            case measure => simp only [intOf]; omega
        · have hov : over = 0 := by omega
          have hkm : m.length ≤ k := by omega
          have e := unhide HVal
          rw [hov] at e
          have He := hide (mul_row_end hkm e)
          have hov1 : over ≤ 0 := by omega
          clear e hov hgo hu
          go_wp2
          go_roundw
          case rel => exact ⟨i + 1, out, by omega, by go_num, unhide HOl, hlim, unhide He, hown, hbel⟩
          case measure => simp only [intOf]; omega
    · have etr := unhide Hend out hlim (n := i) (by omega) hval
      have hsz := hbel.size
      have fin : ∀ e w1, Gives wr (trim out) e w1 → Gives w (L (a * b)) e w1 := by
        rintro e w1 ⟨ao, cap, rfl, ho, hb⟩
        rw [etr] at ho ⊢
        exact ⟨ao, cap, rfl, ho.mono hsz, hbel.trans (hb.mono hsz)⟩
      have HFin := hide fin
      have hcall := l1Trim_any wr _ out hown.reads (by rw [hol]; omega)
      have HCall := hide hcall
      clear etr fin hcall hu hown hol hval
      go_wp2_with fail
      refine (unhide HCall).mono ?_
      intro e w1 h
      obtain ⟨ao1, cap1, rfl, ho1, hb1⟩ := unhide HFin e w1 h
      go_wp2
      go_ret
      exact ⟨ao1, cap1, rfl, ho1, hb1⟩

end Go.Proofs.Ytlmbcicfpidhcaa
