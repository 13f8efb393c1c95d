/- The program's limbs, by contracts: noughts struck, columns carried. Lists: what holds of each place. The program's limbs, by contracts: a product. A sign laid on limbs: signed, by a contract. Boxes and owned lists over later worlds. -/
import Derived.Test.YthnkmjkgcnhlfaaGreatDoorH03
import Derived.Test.YthnkmjkgcnhlfaaGreatDoorH01
import Derived.Test.YthnkmjkgcnhlfaaGreatDoorH00
import Derived.WalkLawsBesides
import Derived.Deep.QuietTactic
import Derived.BigQuiet
import Derived.WalkSmall
import Derived.Laws.CopyOwn
import Derived.Deep.RegionWith
import Derived.Test.YthnkmjkgcnhlfaaGreatDoorH04
import Derived.WalkSpells
namespace Go.Proofs.YthnkmjkgcnhlfaaGreatDoor
open Go.RowKit
set_option maxRecDepth 100000

theorem mem_drop_of {c : List Int} {i : Nat} (h : i < c.length) : c.drop i = c[i] :: c.drop (i + 1) := (List.getElem_cons_drop h).symm

theorem carry_row {c ds : List Int} {i : Nat} (hI : ds.length = i) (h : i < c.length) (r : Int) : (ds ++ c.drop i).set i r = (ds ++ [r]) ++ c.drop (i + 1) := by
  rw [mem_drop_of h, List.set_append_right _ _ (by omega), hI, Nat.sub_self, List.set_cons_zero]
  simp

theorem carry_rel {c ds : List Int} {over x : Int} {i : Nat} (hI : ds.length = i) (hl : Lim ds) (hval : val ds + over * 10000 ^ i = val (c.take i)) (hx : x = c.getD i 0) :
    (ds ++ [(over + x) % 10000]).length = i + 1 ∧ Lim (ds ++ [(over + x) % 10000]) ∧ val (ds ++ [(over + x) % 10000]) + (over + x) / 10000 * 10000 ^ (i + 1) = val (c.take (i + 1)) := by
  refine ⟨by simp [hI], hl.app (Lim.one (by omega) (by omega)), ?_⟩
  rw [carry_step hI hval, val_take_getD, hx]

theorem tmod_neg {x : Int} (h : x < 0) : x.tmod 10000 = if x % 10000 = 0 then 0 else x % 10000 - 10000 := by
  have e : x.tmod 10000 = -((-x).tmod 10000) := by rw [Int.neg_tmod]; simp
  rw [e, Int.tmod_eq_emod_of_nonneg (by omega)]
  split <;> omega

theorem tdiv_neg {q : Int} : (10000 * q).tdiv 10000 = q := Int.mul_tdiv_cancel_left q (by decide)

/-- How far carrying is from its end. -/
def carryMeas (len : Nat) (i o : Int) : Nat := if i.toNat < len then len - i.toNat + 1000000000000001 else o.toNat

theorem carryMeas_in {len i : Nat} {o o' : Int} (h : i < len) (ho : o' ≤ 1000000000000000) : carryMeas len ((i : Int) + 1) o' < carryMeas len (i : Int) o := by
  unfold carryMeas
  rw [if_pos (show ((i : Int)).toNat < len by omega)]
  split <;> omega

theorem carryMeas_past {len i : Nat} {o o' : Int} (h : len ≤ i) (h0 : 0 < o) (ho : o' < o) : carryMeas len ((i : Int) + 1) o' < carryMeas len (i : Int) o := by
  unfold carryMeas
  rw [if_neg (by omega), if_neg (by omega)]
  omega

theorem carried_any (w : World) (B : Nat) (v : Value) (c : List Int) (n K : Nat) (ho : Own B w v c) (hv : val c = n) (hn : n < 10000 ^ K) (hK : K ≤ 2097152) (hc : c.length ≤ 2097152)
    (hb : ∀ x ∈ c, -1000000000000000 ≤ x ∧ x ≤ 1000000000000000) (hB : B ≤ w.heap.size) :
    Calls Tryz.prog 104 #[v] w fun e w' => ∃ ao cap, e = .returned (.slice ao (L n).length cap) ∧ Own B w' (.slice ao (L n).length cap) (L n) ∧ Below B w w' := by
  obtain ⟨i0, hi, hz0, hz1, hz2⟩ := info_parts Tryz.info3
  have HV := hide hv
  have HN := hide hn
  clear hv hn
  go_enter Tryz.func104, Tryz.ntmps104
  go_wp2
  go_step3
  go_wp2
  go_step3
  go_wp2
  go_loopw [0, 3, 4] (fun s o ii wr => ∃ (i : Nat) (over : Int) (ds : List Int), ii = .int .i64 i ∧ o = .int .i64 over ∧ ds.length = i ∧ Lim ds ∧ val ds + over * 10000 ^ i = val (c.take i) ∧ -1000000000000000 ≤ over ∧ over ≤ 1000000000000000 ∧
      Own B wr s (ds ++ c.drop i) ∧ Below B w wr ∧ (c.length < i → i ≤ K))
    (fun _ o ii _ => carryMeas c.length (intOf ii) (intOf o))
  case atStart => exact ⟨0, 0, [], rfl, rfl, rfl, Lim.nil, by simp [val], by omega, by omega, by simpa using ho, Below.refl _ _, fun h => by omega⟩
  case round =>
    obtain ⟨i, over, ds, rfl, rfl, hi', hlim, hval, ho1, ho2, hown, hbel, hiK⟩ := hrel
    have HVal := hide hval
    have HI := hide hi'
    clear hval hi' hiK
    by_cases hlt : i < c.length
    · have hlen : (ds ++ c.drop i).length = c.length := by rw [List.length_append, unhide HI, List.length_drop]; omega
      rcases hown.split with ⟨_, h0⟩ | ⟨g, cap, rfl, hBg, hgs, hcap, hm⟩
      · rw [h0] at hlen; simp at hlen; omega
      have hci : (ds ++ c.drop i)[i]'(by omega) = c[i] := by
        rw [List.getElem_append_right (by rw [unhide HI]; exact Nat.le_refl _)]
        simp [unhide HI]
      have hcc := hown.cellAt (i := i) (by omega)
      rw [hci] at hcc
      have hff := hown.frozenAt i
      have hcb := hb c[i] (List.getElem_mem hlt)
      rw [hlen] at hown hcap ⊢
      have HO := hide hown
      clear hown hb hci
      have R := carry_rel (unhide HI) hlim (unhide HVal) (getD_at hlt).symm
      have HR := hide R
      clear R
      by_cases hpos : 0 ≤ over + c[i]
      · obtain ⟨hst, _⟩ := (unhide HO).store i ((over + c[i]) % 10000)
        rw [carry_row (unhide HI) hlt] at hst
        have HS := hide hst
        clear hst
        go_wp2
        go_roundw
        case rel => exact ⟨i + 1, (over + c[i]) / 10000, _, by go_num, by congr 1; omega, (unhide HR).1, (unhide HR).2.1, (unhide HR).2.2, by omega, by omega, unhide HS, hbel.setCell hBg _, fun h => by omega⟩
        case measure => exact carryMeas_in hlt (by simp only [intOf]; omega)
      · have hneg : over + c[i] < 0 := by omega
        have et := tmod_neg hneg
        by_cases hr0 : (over + c[i]) % 10000 = 0
        · rw [if_pos hr0] at et
          obtain ⟨hst, _⟩ := (unhide HO).store i ((over + c[i]) % 10000)
          rw [carry_row (unhide HI) hlt] at hst
          have eq : (over + c[i]).tdiv 10000 = (over + c[i]) / 10000 := by
            have : over + c[i] = 10000 * ((over + c[i]) / 10000) := by omega
            rw [this, tdiv_neg]; omega
          have HS := hide hst
          have H0 := hide hr0
          clear hst hr0 hpos
          rw [unhide H0] at HS HR
          go_wp2
          go_roundw
          case rel => exact ⟨i + 1, (over + c[i]) / 10000, _, by go_num, rfl, (unhide HR).1, (unhide HR).2.1, (unhide HR).2.2, by omega, by omega, unhide HS, hbel.setCell hBg _, fun h => by omega⟩
          case measure => exact carryMeas_in hlt (by simp only [intOf]; omega)
        · rw [if_neg hr0] at et
          obtain ⟨hst, _⟩ := (unhide HO).store i ((over + c[i]) % 10000 - 10000)
          obtain ⟨hst2, _⟩ := hst.store i ((over + c[i]) % 10000)
          rw [List.set_set, carry_row (unhide HI) hlt] at hst2
          have eq : (over + c[i] - (over + c[i]) % 10000).tdiv 10000 = (over + c[i]) / 10000 := by
            have : over + c[i] - (over + c[i]) % 10000 = 10000 * ((over + c[i]) / 10000) := by omega
            rw [this, tdiv_neg]
          have HS := hide hst2
          have h1 : 0 < (over + c[i]) % 10000 := by omega
          have h2 : (over + c[i]) % 10000 < 10000 := by omega
          clear hst hst2 hr0 hpos
          go_wp2
          go_roundw
          case rel => exact ⟨i + 1, (over + c[i]) / 10000, _, by go_num, rfl, (unhide HR).1, (unhide HR).2.1, (unhide HR).2.2, by omega, by omega, unhide HS, (hbel.setCell hBg _).setCell hBg _, fun h => by omega⟩
          case measure => exact carryMeas_in hlt (by simp only [intOf]; omega)
    · have hnil : c.drop i = [] := List.drop_of_length_le (by omega)
      rw [hnil, List.append_nil] at hown
      have hv' := unhide HVal
      rw [List.take_of_length_le (by omega), unhide HV] at hv'
      by_cases hov : over ≤ 0
      · obtain ⟨rfl, etr⟩ := carry_end hlim (by rw [unhide HI]; exact hv') hov
        have key : ∀ e w1, Hands B wr (trim ds) e w1 → ∃ ao cap, e = .returned (.slice ao (L n).length cap) ∧ Own B w1 (.slice ao (L n).length cap) (L n) ∧ Below B w w1 := by
          rintro e w1 ⟨ao, cap, rfl, ho, rfl⟩
          rw [etr] at ho ⊢
          exact ⟨ao, cap, rfl, ho, hbel⟩
        have HKey := hide key
        clear key etr hv' hnil
        have hle : ds.length ≤ i := by rw [unhide HI]; exact Nat.le_refl _
        rcases hown.split with ⟨rfl, h0⟩ | ⟨g, cap, rfl, hBg, hgs, hcap, hm⟩
        · go_wp2_with fail
          refine (trimmed_any wr B _ ds hown).mono ?_
          intro e w1 h
          obtain ⟨ao, cap, rfl, ho1, hb1⟩ := unhide HKey e w1 h
          go_wp2
          rw [Exit.noGoto_ret]
          go_ret
          exact ⟨ao, cap, rfl, ho1, hb1⟩
        · go_wp2_with fail
          refine (trimmed_any wr B _ ds hown).mono ?_
          intro e w1 h
          obtain ⟨ao, cap, rfl, ho1, hb1⟩ := unhide HKey e w1 h
          go_wp2
          rw [Exit.noGoto_ret]
          go_ret
          exact ⟨ao, cap, rfl, ho1, hb1⟩
      · have hpos : 0 < over := by omega
        have hiK : i < K := by
          have := carry_more hlim (by rw [unhide HI]; exact hv') hpos (unhide HN)
          rwa [unhide HI] at this
        have hle : ds.length ≤ i := by rw [unhide HI]; exact Nat.le_refl _
        have hge : i ≤ ds.length := by rw [unhide HI]; exact Nat.le_refl _
        clear hv' hnil hov
        have fin : ∀ g cap w1, Own B w1 (.slice (some ⟨g, 0, none⟩) (ds.length + 1) cap) (ds ++ [0]) →
            (∃ x, w1.cell? ⟨g, i, none⟩ = some (.int .i64 x)) ∧ w1.frozen? ⟨g, i, none⟩ = false ∧
            Own B (w1.setCell ⟨g, i, none⟩ (.int .i64 (over % 10000))) (.slice (some ⟨g, 0, none⟩) (ds.length + 1) cap) (ds ++ [over % 10000] ++ c.drop (i + 1)) := by
          intro g cap w1 h1
          refine ⟨⟨_, h1.cellAt (i := i) (by simp; omega)⟩, h1.frozenAt i, ?_⟩
          have h2 := (h1.store i (over % 10000)).1
          rw [List.set_append_right _ _ hle, unhide HI, Nat.sub_self, List.set_cons_zero] at h2
          rw [List.drop_of_length_le (by omega), List.append_nil, unhide HI]
          exact h2
        have HFin := hide fin
        clear fin
        have R := carry_rel (x := 0) (unhide HI) hlim (unhide HVal) (getD_past (by omega)).symm
        rw [Int.add_zero] at R
        have HR := hide R
        clear R
        have hsz := hbel.size
        rcases hown.split with ⟨rfl, h0⟩ | ⟨g, cap, rfl, hBg, hgs, hcap, hm⟩
        · exfalso
          rw [h0] at hge
          have e0 : i = 0 := by simpa using hge
          have := unhide HVal
          rw [h0, e0] at this
          simp [val] at this
          omega
        · go_wp2_with (at_builtin; refine wpList_push rfl _ _ 67 rfl Tryz.underlying67 B _ ds _ hown rfl rfl (by omega) (by omega) ?_; intro g1 cap1 w1 hown1 hb1 hc1 hm1 hBg1 hgs1; obtain ⟨⟨x1, hx1⟩, hf1, hst1⟩ := unhide HFin g1 cap1 w1 hown1)
          go_roundw
          case rel => exact ⟨i + 1, over / 10000, _, by go_num, by congr 1; omega, (unhide HR).1, (unhide HR).2.1, (unhide HR).2.2, by omega, by omega, hst1, (hbel.trans hb1).setCell hBg1 _, fun h => by omega⟩
          case measure => exact carryMeas_past (by omega) (by simp only [intOf]; omega) (by simp only [intOf]; omega)

end Go.Proofs.YthnkmjkgcnhlfaaGreatDoor

namespace Go.Proofs.YthnkmjkgcnhlfaaGreatDoor
open Go.RowKit

/-- Each place of a row within bounds. -/
theorem mem_of_getD {c : List Int} {P : Int → Prop} (h : ∀ j, j < c.length → P (c.getD j 0)) : ∀ x ∈ c, P x := by
  intro x hx
  obtain ⟨j, hj, rfl⟩ := List.getElem_of_mem hx
  have := h j hj
  rwa [getD_at hj] at this

theorem getD_app_zeros (l : List Int) (k j : Nat) : (l ++ List.replicate k (0 : Int)).getD j 0 = l.getD j 0 := by
  simp only [List.getD_eq_getElem?_getD, List.getElem?_append, List.getElem?_replicate]
  by_cases hj : j < l.length
  · rw [if_pos hj]
  · rw [if_neg hj, List.getElem?_eq_none (l := l) (by omega)]
    split <;> rfl

end Go.Proofs.YthnkmjkgcnhlfaaGreatDoor

namespace Go.Proofs.YthnkmjkgcnhlfaaGreatDoor
open Go.RowKit
set_option maxRecDepth 100000

theorem times_any (w : World) (u v : Value) (a b : Nat) (hu : Reads w u (L a)) (hv : Reads w v (L b)) (ha : a < 10000 ^ 100) (hb : b < 10000 ^ 100) :
    Calls Tryz.prog 84 #[u, v] w (Gives w (L (a * b))) := by
  have hla := L_len_le ha
  have hlb := L_len_le hb
  have hab : a * b < 10000 ^ 200 := by
    rw [show (200 : Nat) = 100 + 100 from rfl, Nat.pow_add]
    exact Nat.mul_lt_mul'' ha hb
  have hla' := L_lim a
  have hlb' := L_lim b
  have va := val_L a
  have vb := val_L b
  generalize L a = l at *
  generalize L b = m at *
  clear ha hb
  obtain ⟨ao, b1, off, cap, rfl, hu⟩ := hu
  obtain ⟨ao', b2, off', cap', rfl, hv⟩ := hv
  have h1 := hu.le
  have h2 := hu.big
  have h3 := hv.le
  have h4 := hv.big
  unfold maxLen at h2 h4
  have HAB := hide hab
  have HVA := hide va
  have HVB := hide vb
  clear hab va vb
  obtain ⟨i0, hi, hz0, hz1, hz2⟩ := info_parts Tryz.info3
  go_enter Tryz.func84, Tryz.ntmps84
  go_wp2_with (at_make; refine wpList_make_full _ rfl _ _ 67 rfl w.heap.size 3 i0 (.int .i64 0) 1 Tryz.underlying67 hi hz0 hz1 _ _ _ _ (l.length + m.length) rfl rfl (by omega) (by omega) ?b2 ?b3 (Nat.le_refl _) ?_)
  case b2 => rw [hz2]; omega
  case b3 => unfold maxLen; omega
  intro w0 hown0 hgrow0
  have e0 : (madeCells #[Value.int .i64 0] (l.length + m.length)).toList = ints (List.replicate (l.length + m.length) 0) := by rw [toList_madeCells_one, ints_zeros]
  have own0 : Own w.heap.size w0 (.slice (some ⟨w.heap.size, 0, none⟩) (l.length + m.length) (l.length + m.length)) (List.replicate (l.length + m.length) 0) := by
    unfold Own
    rw [List.length_replicate, ← e0]
    exact hown0
  have bel0 : Below w.heap.size w w0 := (Below.refl _ _).grown hgrow0 (Nat.le_refl _) (fun k h => by cases h)
  have hz : ∀ j, (List.replicate (l.length + m.length) (0 : Int)).getD j 0 = 0 := by
    intro j
    simp only [List.getD_eq_getElem?_getD, List.getElem?_replicate]
    split <;> rfl
  have Hz := hide hz
  clear hown0 hgrow0 e0 hz
  go_wp2
  go_loopw [6, 7, 8, 9, 18] (fun _ _ _ _ ii wr => ∃ (i : Nat) (c : List Int), i ≤ l.length ∧ ii = .int .i64 i ∧ c.length = l.length + m.length ∧ (∀ j, 0 ≤ c.getD j 0 ∧ c.getD j 0 ≤ i * 99980001) ∧ val c = val (l.take i) * val m ∧
      Own w.heap.size wr (.slice (some ⟨w.heap.size, 0, none⟩) (l.length + m.length) (l.length + m.length)) c ∧ Below w.heap.size w wr)
    (fun _ _ _ _ ii _ => l.length - (intOf ii).toNat)
  case atStart => exact ⟨0, _, Nat.zero_le _, rfl, by simp, fun j => by rw [unhide Hz j]; omega, by simp [val, val_replicate], own0, bel0⟩
  case round =>
    obtain ⟨i, c, hil, rfl, hcl, hcj, hval, hown, hbel⟩ := hrel
    by_cases hlt : i < l.length
    · have hx1 := hla'.at hlt
      have hat := hu.at_ (by omega)
      subst hat
      have hcx := (hu.later hbel).cell i hlt
      go_wp2
      go_loopw [8, 9, 25] (fun _ _ kk wr => ∃ (k : Nat) (c : List Int), k ≤ m.length ∧ kk = .int .i64 k ∧ c.length = l.length + m.length ∧ (∀ j, 0 ≤ c.getD j 0 ∧ c.getD j 0 ≤ (if j < i + k then i + 1 else i) * 99980001) ∧ val c = val (l.take i) * val m + l.getD i 0 * 10000 ^ i * val (m.take k) ∧
          Own w.heap.size wr (.slice (some ⟨w.heap.size, 0, none⟩) (l.length + m.length) (l.length + m.length)) c ∧ Below w.heap.size w wr)
        (fun _ _ kk _ => m.length - (intOf kk).toNat)
      case atStart => exact ⟨0, c, Nat.zero_le _, rfl, hcl, fun j => by have := hcj j; split <;> omega, by simp [val, hval], hown, hbel⟩
      case round =>
        obtain ⟨k, c, hkm, rfl, hcl, hcj, hval, hown, hbel⟩ := hrel
        have HVal := hide hval
        have HCl := hide hcl
        have HCj := hide hcj
        clear hval
        by_cases hkl : k < m.length
        · have hik : i + k < c.length := by omega
          have hik' : i + k < l.length + m.length := by omega
          have hx2 := hlb'.at hkl
          have hc2 := (hv.later hbel).cell k hkl
          have hat' := hv.at_ (by omega)
          subst hat'
          have hco := hown.cellAt hik
          have hcf := hown.frozenAt (i + k)
          have hst := hide (fun x => (hown.store (i + k) x).1)
          have hR := col_step hik rfl (unhide HVal)
          rw [getD_at hik, getD_at hlt, getD_at hkl] at hR
          have hq := hcj (i + k)
          rw [if_neg (by omega), getD_at hik] at hq
          have hJ : ∀ x : Int, 0 ≤ x → x ≤ ((i : Int) + 1) * 99980001 → ∀ j, 0 ≤ (c.set (i + k) x).getD j 0 ∧ (c.set (i + k) x).getD j 0 ≤ (if j < i + (k + 1) then i + 1 else i) * 99980001 := by
            intro x hx hx' j
            rw [getD_set hik]
            by_cases e : j = i + k
            · rw [if_pos e, if_pos (by omega)]; omega
            · rw [if_neg e]
              have := unhide HCj j
              by_cases h5 : j < i + k
              · rw [if_pos h5] at this; rw [if_pos (by omega)]; exact this
              · rw [if_neg h5] at this; rw [if_neg (by omega)]; exact this
          have hlen : ∀ x, (c.set (i + k) x).length = l.length + m.length := fun x => by rw [List.length_set]; exact unhide HCl
          have HR := hide hR
          have HJ := hide hJ
          have HLen := hide hlen
          clear hR hJ hlen hown hcj hcl hu hv
          generalize hya : l[i] = ya at *
          generalize hyb : m[k] = yb at *
          generalize hyo : c[i + k] = yo at *
          have Hya := hide hya
          have Hyb := hide hyb
          have Hyo := hide hyo
          clear hya hyb hyo
          obtain ⟨q1, q2⟩ := hx1
          obtain ⟨q3, q4⟩ := hx2
          obtain ⟨q5, q6⟩ := hq
          have q7 : 0 ≤ ya * yb := Int.mul_nonneg q1 q3
          have q8 : ya * yb ≤ 99980001 := by
            have h1 : ya * yb ≤ 9999 * yb := Int.mul_le_mul_of_nonneg_right (by omega) q3
            have h2 : 9999 * yb ≤ 9999 * 9999 := Int.mul_le_mul_of_nonneg_left (by omega) (by omega)
            omega
          have q9 : yo ≤ 9998000100 := by omega
          go_wp2
          go_roundw
          case rel => exact ⟨k + 1, _, by omega, by go_num, unhide HLen _, unhide HJ _ (by omega) (by omega), by rw [getD_at hlt, unhide Hya]; exact unhide HR, unhide hst _, hbel.setCell (Nat.le_refl _) _⟩
          case measure => simp only [intOf]; omega
        · have He := hide (col_row_end (by omega) (unhide HVal))
          clear hu hv
          go_wp2
          go_roundw
          case rel => exact ⟨i + 1, c, by omega, by go_num, hcl, fun j => by have := hcj j; split at this <;> omega, unhide He, hown, hbel⟩
          case measure => simp only [intOf]; omega
    · have e := hval
      rw [List.take_of_length_le (by omega), unhide HVA, unhide HVB] at e
      have hcall := carried_any wr w.heap.size _ c (a * b) 200 hown (by rw [e, Int.natCast_mul]) (unhide HAB) (by omega) (by omega)
        (mem_of_getD (P := fun x => -1000000000000000 ≤ x ∧ x ≤ 1000000000000000) (fun j _ => by
          have := hcj j
          omega)) hbel.size
      have HCall := hide hcall
      clear hcall e hown hcj hcl hval hu hv
      go_wp2_with fail
      refine (unhide HCall).mono ?_
      rintro e w2 ⟨ao2, cap2, rfl, ho2, hb2⟩
      go_wp2
      go_ret
      exact ⟨ao2, cap2, rfl, ho2, hbel.trans hb2⟩

end Go.Proofs.YthnkmjkgcnhlfaaGreatDoor

namespace Go.Proofs.YthnkmjkgcnhlfaaGreatDoor
open Go.RowKit
set_option maxRecDepth 100000

end Go.Proofs.YthnkmjkgcnhlfaaGreatDoor

namespace Go.Proofs.YthnkmjkgcnhlfaaGreatDoor
open Go.RowKit
set_option maxRecDepth 100000

end Go.Proofs.YthnkmjkgcnhlfaaGreatDoor
