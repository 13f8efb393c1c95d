/- The program's limbs, by contracts: noughts struck, columns carried. Lists: what holds of each place. -/
import Derived.Test.YtlmbcicfpidhcaaG01
import Derived.Test.YtlmbcicfpidhcaaG00
import Derived.Test.YtlmbcicfpidhcaaMath2
import Derived.WalkLawsBesides
import Derived.Deep.QuietTactic
import Derived.BigQuiet
import Derived.WalkSmall
import Derived.Laws.CopyOwn
namespace Go.Proofs.Ytlmbcicfpidhcaa
open Go.RowKit
set_option maxRecDepth 100000

theorem mem_drop_of {c : List Int} {i : Nat} (h : i < c.length) : c.drop i = c[i] :: c.drop (i + 1) := (List.getElem_cons_drop h).symm

theorem carry_row {c ds : List Int} {i : Nat} (hI : ds.length = i) (h : i < c.length) (r : Int) : (ds ++ c.drop i).set i r = (ds ++ [r]) ++ c.drop (i + 1) := by
  rw [mem_drop_of h, List.set_append_right _ _ (by omega), hI, Nat.sub_self, List.set_cons_zero]
  simp

theorem carry_rel {c ds : List Int} {over x : Int} {i : Nat} (hI : ds.length = i) (hl : Lim ds) (hval : val ds + over * 10000 ^ i = val (c.take i)) (hx : x = c.getD i 0) :
    (ds ++ [(over + x) % 10000]).length = i + 1 ∧ Lim (ds ++ [(over + x) % 10000]) ∧ val (ds ++ [(over + x) % 10000]) + (over + x) / 10000 * 10000 ^ (i + 1) = val (c.take (i + 1)) := by
  refine ⟨by simp [hI], hl.app (Lim.one (by omega) (by omega)), ?_⟩
  rw [carry_step hI hval, val_take_getD, hx]

theorem tmod_neg {x : Int} (h : x < 0) : x.tmod 10000 = if x % 10000 = 0 then 0 else x % 10000 - 10000 := by
  have e : x.tmod 10000 = -((-x).tmod 10000) := by rw [Int.neg_tmod]; simp
  rw [e, Int.tmod_eq_emod_of_nonneg (by omega)]
  split <;> omega

theorem tdiv_neg {q : Int} : (10000 * q).tdiv 10000 = q := Int.mul_tdiv_cancel_left q (by decide)

/-- How far carrying is from its end. -/
def carryMeas (len : Nat) (i o : Int) : Nat := if i.toNat < len then len - i.toNat + 1000000000000001 else o.toNat

theorem carryMeas_in {len i : Nat} {o o' : Int} (h : i < len) (ho : o' ≤ 1000000000000000) : carryMeas len ((i : Int) + 1) o' < carryMeas len (i : Int) o := by
  unfold carryMeas
  rw [if_pos (show ((i : Int)).toNat < len by omega)]
  split <;> omega

theorem carryMeas_past {len i : Nat} {o o' : Int} (h : len ≤ i) (h0 : 0 < o) (ho : o' < o) : carryMeas len ((i : Int) + 1) o' < carryMeas len (i : Int) o := by
  unfold carryMeas
  rw [if_neg (by omega), if_neg (by omega)]
  omega

theorem carried_any (w : World) (B : Nat) (v : Value) (c : List Int) (n K : Nat) (ho : Own B w v c) (hv : val c = n) (hn : n < 10000 ^ K) (hK : K ≤ 2097152) (hc : c.length ≤ 2097152)
    (hb : ∀ x ∈ c, -1000000000000000 ≤ x ∧ x ≤ 1000000000000000) (hB : B ≤ w.heap.size) :
    Calls Try.prog 93 #[v] w fun e w' => ∃ ao cap, e = .returned (.slice ao (L n).length cap) ∧ Own B w' (.slice ao (L n).length cap) (L n) ∧ Below B w w' := by
  obtain ⟨i0, hi, hz0, hz1, hz2⟩ := info_parts Try.info3
  have HV := hide hv
  have HN := hide hn
  clear hv hn
  go_enter Try.func93, Try.ntmps93
  go_wp2
  go_step3
  go_wp2
  go_step3
  go_wp2
  go_loopw [0, 3, 4] (fun s o ii wr => ∃ (i : Nat) (over : Int) (ds : List Int), ii = .int .i64 i ∧ o = .int .i64 over ∧ ds.length = i ∧ Lim ds ∧ val ds + over * 10000 ^ i = val (c.take i) ∧ -1000000000000000 ≤ over ∧ over ≤ 1000000000000000 ∧
      Own B wr s (ds ++ c.drop i) ∧ Below B w wr ∧ (c.length < i → i ≤ K))
    (fun _ o ii _ => carryMeas c.length (intOf ii) (intOf o))
  case atStart => exact ⟨0, 0, [], rfl, rfl, rfl, Lim.nil, by simp [val], by omega, by omega, by simpa using ho, Below.refl _ _, fun h => by omega⟩
  case round =>
    obtain ⟨i, over, ds, rfl, rfl, hi', hlim, hval, ho1, ho2, hown, hbel, hiK⟩ := hrel
    have HVal := hide hval
    have HI := hide hi'
    clear hval hi' hiK
    by_cases hlt : i < c.length
    · have hlen : (ds ++ c.drop i).length = c.length := by rw [List.length_append, unhide HI, List.length_drop]; omega
      rcases hown.split with ⟨_, h0⟩ | ⟨g, cap, rfl, hBg, hgs, hcap, hm⟩
      · rw [h0] at hlen; simp at hlen; omega
      have hci : (ds ++ c.drop i)[i]'(by omega) = c[i] := by
        rw [List.getElem_append_right (by rw [unhide HI]; exact Nat.le_refl _)]
        simp [unhide HI]
      have hcc := hown.cellAt (i := i) (by omega)
      rw [hci] at hcc
      have hff := hown.frozenAt i
      have hcb := hb c[i] (List.getElem_mem hlt)
      rw [hlen] at hown hcap ⊢
      have HO := hide hown
      clear hown hb hci
      have R := carry_rel (unhide HI) hlim (unhide HVal) (getD_at hlt).symm
      have HR := hide R
      clear R
      by_cases hpos : 0 ≤ over + c[i]
      · obtain ⟨hst, _⟩ := (unhide HO).store i ((over + c[i]) % 10000)
        rw [carry_row (unhide HI) hlt] at hst
        have HS := hide hst
        clear hst
        go_wp2
        go_roundw
        case rel => exact ⟨i + 1, (over + c[i]) / 10000, _, by go_num, by congr 1; omega, (unhide HR).1, (unhide HR).2.1, (unhide HR).2.2, by omega, by omega, unhide HS, hbel.setCell hBg _, fun h => by omega⟩
        case measure => exact carryMeas_in hlt (by simp only [intOf]; omega)
      · have hneg : over + c[i] < 0 := by omega
        have et := tmod_neg hneg
        by_cases hr0 : (over + c[i]) % 10000 = 0
        · rw [if_pos hr0] at et
          obtain ⟨hst, _⟩ := (unhide HO).store i ((over + c[i]) % 10000)
          rw [carry_row (unhide HI) hlt] at hst
          have eq : (over + c[i]).tdiv 10000 = (over + c[i]) / 10000 := by
            have : over + c[i] = 10000 * ((over + c[i]) / 10000) := by omega
            rw [this, tdiv_neg]; omega
          have HS := hide hst
          have H0 := hide hr0
          clear hst hr0 hpos
          rw [unhide H0] at HS HR
          go_wp2
          go_roundw
          case rel => exact ⟨i + 1, (over + c[i]) / 10000, _, by go_num, rfl, (unhide HR).1, (unhide HR).2.1, (unhide HR).2.2, by omega, by omega, unhide HS, hbel.setCell hBg _, fun h => by omega⟩
          case measure => exact carryMeas_in hlt (by simp only [intOf]; omega)
        · rw [if_neg hr0] at et
          obtain ⟨hst, _⟩ := (unhide HO).store i ((over + c[i]) % 10000 - 10000)
          obtain ⟨hst2, _⟩ := hst.store i ((over + c[i]) % 10000)
          rw [List.set_set, carry_row (unhide HI) hlt] at hst2
          have eq : (over + c[i] - (over + c[i]) % 10000).tdiv 10000 = (over + c[i]) / 10000 := by
            have : over + c[i] - (over + c[i]) % 10000 = 10000 * ((over + c[i]) / 10000) := by omega
            rw [this, tdiv_neg]
          have HS := hide hst2
          have h1 : 0 < (over + c[i]) % 10000 := by omega
          have h2 : (over + c[i]) % 10000 < 10000 := by omega
          clear hst hst2 hr0 hpos
          go_wp2
          go_roundw
          case rel => exact ⟨i + 1, (over + c[i]) / 10000, _, by go_num, rfl, (unhide HR).1, (unhide HR).2.1, (unhide HR).2.2, by omega, by omega, unhide HS, (hbel.setCell hBg _).setCell hBg _, fun h => by omega⟩
          case measure => exact carryMeas_in hlt (by simp only [intOf]; omega)
    · have hnil : c.drop i = [] := List.drop_of_length_le (by omega)
      rw [hnil, List.append_nil] at hown
      have hv' := unhide HVal
      rw [List.take_of_length_le (by omega), unhide HV] at hv'
      by_cases hov : over ≤ 0
      · obtain ⟨rfl, etr⟩ := carry_end hlim (by rw [unhide HI]; exact hv') hov
        have key : ∀ e w1, Hands B wr (trim ds) e w1 → ∃ ao cap, e = .returned (.slice ao (L n).length cap) ∧ Own B w1 (.slice ao (L n).length cap) (L n) ∧ Below B w w1 := by
          rintro e w1 ⟨ao, cap, rfl, ho, rfl⟩
          rw [etr] at ho ⊢
          exact ⟨ao, cap, rfl, ho, hbel⟩
        have HKey := hide key
        clear key etr hv' hnil
        have hle : ds.length ≤ i := by rw [unhide HI]; exact Nat.le_refl _
        rcases hown.split with ⟨rfl, h0⟩ | ⟨g, cap, rfl, hBg, hgs, hcap, hm⟩
        · go_wp2_with fail
          refine (trimmed_any wr B _ ds hown).mono ?_
          intro e w1 h
          obtain ⟨ao, cap, rfl, ho1, hb1⟩ := unhide HKey e w1 h
          go_wp2
          rw [Exit.noGoto_ret]
          go_ret
          exact ⟨ao, cap, rfl, ho1, hb1⟩
        · go_wp2_with fail
          refine (trimmed_any wr B _ ds hown).mono ?_
          intro e w1 h
          obtain ⟨ao, cap, rfl, ho1, hb1⟩ := unhide HKey e w1 h
          go_wp2
          rw [Exit.noGoto_ret]
          go_ret
          exact ⟨ao, cap, rfl, ho1, hb1⟩
      · have hpos : 0 < over := by omega
        have hiK : i < K := by
          have := carry_more hlim (by rw [unhide HI]; exact hv') hpos (unhide HN)
          rwa [unhide HI] at this
        have hle : ds.length ≤ i := by rw [unhide HI]; exact Nat.le_refl _
        have hge : i ≤ ds.length := by rw [unhide HI]; exact Nat.le_refl _
        clear hv' hnil hov
        have fin : ∀ g cap w1, Own B w1 (.slice (some ⟨g, 0, none⟩) (ds.length + 1) cap) (ds ++ [0]) →
            (∃ x, w1.cell? ⟨g, i, none⟩ = some (.int .i64 x)) ∧ w1.frozen? ⟨g, i, none⟩ = false ∧
            Own B (w1.setCell ⟨g, i, none⟩ (.int .i64 (over % 10000))) (.slice (some ⟨g, 0, none⟩) (ds.length + 1) cap) (ds ++ [over % 10000] ++ c.drop (i + 1)) := by
          intro g cap w1 h1
          refine ⟨⟨_, h1.cellAt (i := i) (by simp; omega)⟩, h1.frozenAt i, ?_⟩
          have h2 := (h1.store i (over % 10000)).1
          rw [List.set_append_right _ _ hle, unhide HI, Nat.sub_self, List.set_cons_zero] at h2
          rw [List.drop_of_length_le (by omega), List.append_nil, unhide HI]
          exact h2
        have HFin := hide fin
        clear fin
        have R := carry_rel (x := 0) (unhide HI) hlim (unhide HVal) (getD_past (by omega)).symm
        rw [Int.add_zero] at R
        have HR := hide R
        clear R
        have hsz := hbel.size
        rcases hown.split with ⟨rfl, h0⟩ | ⟨g, cap, rfl, hBg, hgs, hcap, hm⟩
        · exfalso
          rw [h0] at hge
          have e0 : i = 0 := by simpa using hge
          have := unhide HVal
          rw [h0, e0] at this
          simp [val] at this
          omega
        · go_wp2_with (at_builtin; refine wpList_push rfl _ _ 57 rfl Try.underlying57 B _ ds _ hown rfl rfl (by omega) (by omega) ?_; intro g1 cap1 w1 hown1 hb1 hc1 hm1 hBg1 hgs1; obtain ⟨⟨x1, hx1⟩, hf1, hst1⟩ := unhide HFin g1 cap1 w1 hown1)
          go_roundw
          case rel => exact ⟨i + 1, over / 10000, _, by go_num, by congr 1; omega, (unhide HR).1, (unhide HR).2.1, (unhide HR).2.2, by omega, by omega, hst1, (hbel.trans hb1).setCell hBg1 _, fun h => by omega⟩
          case measure => exact carryMeas_past (by omega) (by simp only [intOf]; omega) (by simp only [intOf]; omega)

end Go.Proofs.Ytlmbcicfpidhcaa

namespace Go.Proofs.Ytlmbcicfpidhcaa
open Go.RowKit

/-- Each place of a row within bounds. -/
theorem mem_of_getD {c : List Int} {P : Int → Prop} (h : ∀ j, j < c.length → P (c.getD j 0)) : ∀ x ∈ c, P x := by
  intro x hx
  obtain ⟨j, hj, rfl⟩ := List.getElem_of_mem hx
  have := h j hj
  rwa [getD_at hj] at this

theorem getD_app_zeros (l : List Int) (k j : Nat) : (l ++ List.replicate k (0 : Int)).getD j 0 = l.getD j 0 := by
  simp only [List.getD_eq_getElem?_getD, List.getElem?_append, List.getElem?_replicate]
  by_cases hj : j < l.length
  · rw [if_pos hj]
  · rw [if_neg hj, List.getElem?_eq_none (l := l) (by omega)]
    split <;> rfl

end Go.Proofs.Ytlmbcicfpidhcaa
