/- The program's limbs, by contracts: a difference, a product. One limb of the specification, by a contract. A difference of limbs: l1SubAbs by a contract. -/
import Derived.Test.YtlmbcicfpidhcaaImB
import Derived.Test.YtlmbcicfpidhcaaG05
import Derived.Test.YtlmbcicfpidhcaaG00
import Derived.Test.YtlmbcicfpidhcaaMath2
import Derived.WalkLawsBesides
import Derived.Deep.QuietTactic
import Derived.BigQuiet
import Derived.WalkSmall
import Derived.Deep.RegionWith
namespace Go.Proofs.Ytlmbcicfpidhcaa
open Go.RowKit
set_option maxRecDepth 100000

theorem minus_any (w : World) (u v : Value) (a b : Nat) (hu : Reads w u (L a)) (hv : Reads w v (L b)) (ha : a < 10000 ^ 200) (hba : b ≤ a) :
    Calls Try.prog 86 #[u, v] w (Gives w (L (a - b))) := by
  have hla := L_len_le ha
  have hll : (L b).length ≤ (L a).length := L_len_le (Nat.lt_of_le_of_lt hba (lt_of_L_len (Nat.le_refl _)))
  have hab : a - b < 10000 ^ 200 := by omega
  have hla' := L_lim a
  have hlb' := L_lim b
  have va := val_L a
  have vb := val_L b
  generalize L a = l at *
  generalize L b = m at *
  clear ha
  have hclone := hide (clone_any w u l hu (by omega))
  have hs := hu
  obtain ⟨ao, b1, off, cap, rfl, hs⟩ := hs
  obtain ⟨ao', b2, off', cap', rfl, hv⟩ := hv
  have h3 := hv.le
  have h4 := hv.big
  unfold maxLen at h4
  have HAB := hide hab
  have HVA := hide va
  have HVB := hide vb
  have HBA := hide hba
  clear hu hs hab va vb hba
  go_enter Try.func86, Try.ntmps86
  go_wp2_with fail
  refine (unhide hclone).mono ?_
  rintro e w1 ⟨ao1, cap1, rfl, own1, bel1⟩
  rcases own1.split with ⟨e1, h0⟩ | ⟨g, capc, e1, hBg, hgs, hcapc, hmc⟩
  · have hm0 : m.length = 0 := by rw [h0] at hll; simpa using hll
    have em : m = [] := List.length_eq_zero_iff.1 hm0
    have hn : a - b = 0 := by
      have := unhide HVA; have := unhide HVB
      rw [h0] at *
      rw [em] at *
      simp [val] at *
      omega
    simp at e1
    obtain ⟨rfl, _, rfl⟩ := e1
    subst h0 em
    have hcall := hide (carried_any w1 w.heap.size _ [] (a - b) 200 own1 (by rw [hn]; simp [val]) (unhide HAB) (by omega) (by simp) (by simp) bel1.size)
    clear hn
    go_wp2
    refine wp_loop_rounds 1 ?_
    rw [rounds_succ]
    go_wp2_with fail
    refine (unhide hcall).mono ?_
    rintro e w2 ⟨ao2, cap2, rfl, ho2, hb2⟩
    go_wp2
    go_ret
    exact ⟨ao2, cap2, rfl, ho2, bel1.trans hb2⟩
  · simp at e1
    obtain ⟨rfl, rfl⟩ := e1
    go_wp2
    go_loopw [6, 7, 12] (fun _ _ ii wr => ∃ (k : Nat) (c : List Int), k ≤ m.length ∧ ii = .int .i64 k ∧ c.length = l.length ∧ val c = val l - val (m.take k) ∧ (∀ j, c.getD j 0 = l.getD j 0 - if j < k then m.getD j 0 else 0) ∧
        Own w.heap.size wr (.slice (some ⟨g, 0, none⟩) l.length cap1) c ∧ Below w.heap.size w wr)
      (fun _ _ ii _ => m.length - (intOf ii).toNat)
    case atStart => exact ⟨0, l, Nat.zero_le _, rfl, rfl, by simp [val], fun j => by rw [if_neg (by omega), Int.sub_zero], own1, bel1⟩
    case round =>
      obtain ⟨k, c, hkm, rfl, hcl, hval, hcj, hown, hbel⟩ := hrel
      have HCl := hide hcl
      have HVal := hide hval
      have HCj := hide hcj
      clear hval
      by_cases hlt : k < m.length
      · have hkc : k < c.length := by omega
        have hc := (hv.later hbel).cell k hlt
        have hat := hv.at_ (by omega)
        subst hat
        have hco := hown.cellAt hkc
        have hcf := hown.frozenAt k
        have ho := hide (fun x => (hown.store k x).1)
        have hck := hcj k
        rw [getD_at hkc, if_neg (by omega), Int.sub_zero] at hck
        have q1 := hla'.getD k
        rw [← hck] at q1
        have q2 := hlb'.at hlt
        have hR : val (c.set k (c[k] - m[k])) = val l - val (m.take (k + 1)) := by
          rw [val_set hkc, getD_at hkc, unhide HVal, val_take_succ hlt]
          generalize (10000 : Int) ^ k = P
          grind
        have hJ : ∀ j, (c.set k (c[k] - m[k])).getD j 0 = l.getD j 0 - if j < k + 1 then m.getD j 0 else 0 := by
          intro j
          rw [getD_set hkc]
          by_cases e : j = k
          · subst e
            rw [if_pos rfl, if_pos (by omega), getD_at hlt, hck]
          · rw [if_neg e, unhide HCj j]
            by_cases h5 : j < k
            · rw [if_pos h5, if_pos (by omega)]
            · rw [if_neg h5, if_neg (by omega)]
        have HR := hide hR
        have HJ := hide hJ
        have hlen : ∀ x, (c.set k x).length = l.length := fun x => by rw [List.length_set]; exact unhide HCl
        have HLen := hide hlen
        have hkN : k < l.length := by omega
        clear hown hcj hR hJ hlen hck hcl hv
        generalize hyc : c[k] = yc at *
        generalize hym : m[k] = ym at *
        have Hyc := hide hyc
        have Hym := hide hym
        clear hyc hym
        obtain ⟨q1, q3⟩ := q1
        obtain ⟨q2, q4⟩ := q2
        go_wp2
        go_roundw
        case rel => exact ⟨k + 1, _, by omega, by go_num, unhide HLen _, unhide HR, unhide HJ, unhide ho _, hbel.setCell hBg _⟩
        case measure => simp only [intOf]; omega
      · have e := unhide HVal
        rw [List.take_of_length_le (by omega), unhide HVA, unhide HVB] at e
        have hcall := carried_any wr w.heap.size _ c (a - b) 200 hown (by rw [e]; have := unhide HBA; omega) (unhide HAB) (by omega) (by omega)
          (mem_of_getD (P := fun x => -1000000000000000 ≤ x ∧ x ≤ 1000000000000000) (fun j _ => by
            rw [hcj j]
            have q1 := hla'.getD j
            have q2 := hlb'.getD j
            split <;> omega)) hbel.size
        have HCall := hide hcall
        clear hcall e hown hcj hcl hv
        go_wp2_with fail
        refine (unhide HCall).mono ?_
        rintro e w2 ⟨ao2, cap2, rfl, ho2, hb2⟩
        go_wp2
        go_ret
        exact ⟨ao2, cap2, rfl, ho2, hbel.trans hb2⟩

end Go.Proofs.Ytlmbcicfpidhcaa

namespace Go.Proofs.Ytlmbcicfpidhcaa
open Go.RowKit
set_option maxRecDepth 100000


theorem l1Limb_any (w : World) (v : Value) (l : List Int) (i : Nat) (hr : Reads w v l) (hi : i ≤ 8000000) :
    Calls Try.prog 81 #[v, .int .i64 i] w fun e w' => e = .returned (.int .i64 (l.getD i 0)) ∧ w' = w := by
  obtain ⟨ao, b, off, cap, rfl, hr⟩ := hr
  have h1 := hr.le
  have h2 := hr.big
  unfold maxLen at h2
  by_cases h : i < l.length
  · have hc := hr.cell i h
    rw [getD_at h]
    have hat := hr.at_ (by omega)
    subst hat
    clear hr
    go_enter Try.func81, Try.ntmps81
    go_wp2
    go_ret
    exact ⟨rfl, rfl⟩
  · rw [getD_past (by omega)]
    clear hr
    go_enter Try.func81, Try.ntmps81
    go_wp2
    go_ret
    exact ⟨rfl, rfl⟩

end Go.Proofs.Ytlmbcicfpidhcaa

namespace Go.Proofs.Ytlmbcicfpidhcaa
open Go.RowKit
set_option maxRecDepth 100000

theorem l1SubAbs_any (w : World) (u v : Value) (a b : Nat) (hu : Reads w u (L a)) (hv : Reads w v (L b)) (ha : a < 10000 ^ 200) (hba : b ≤ a) :
    Calls Try.prog 88 #[u, v] w (Gives w (L (a - b))) := by
  have hla := L_len_le ha
  have hlb : (L b).length ≤ 200 := L_len_le (Nat.lt_of_le_of_lt hba ha)
  have hla' := L_lim a
  have hlb' := L_lim b
  have HBA := hide hba
  clear ha hba
  have U := hide hu
  have V := hide hv
  obtain ⟨ao, b1, off, cap, rfl, hu⟩ := hu
  obtain ⟨ao', b2, off', cap', rfl, hv⟩ := hv
  have h1 := hu.le
  have h2 := hu.big
  have h3 := hv.le
  have h4 := hv.big
  unfold maxLen at h2 h4
  clear hv
  go_enter Try.func88, Try.ntmps88
  go_wp2
  go_loopw [5, 6, 7] (fun s o ii wr => ∃ (i : Nat) (under : Int) (out : List Int), ii = .int .i64 i ∧ o = .int .i64 under ∧ out.length = i ∧ Lim out ∧ val out - under * 10000 ^ i = val ((L a).take i) - val ((L b).take i) ∧ 0 ≤ under ∧ under ≤ 1 ∧
      Own w.heap.size wr s out ∧ Below w.heap.size w wr ∧ i ≤ (L a).length)
    (fun _ o ii _ => 2000 - (intOf ii).toNat)
  case atStart => exact ⟨0, 0, [], rfl, rfl, rfl, Lim.nil, by simp [val], by omega, by omega, own_empty w (Nat.le_refl _), (Below.refl _ _).alloc (Nat.le_refl _) _, by omega⟩
  case round =>
    obtain ⟨i, under, out, rfl, rfl, hi', hlim, hval, ho1, ho2, hown, hbel, hi1⟩ := hrel
    have HI := hide hi'
    have HVal := hide hval
    clear hi' hval
    have hsz := hbel.size
    have V' := hide ((unhide V).later hbel)
    have hx2 := hlb'.getD i
    have shape := hown.split
    have hown' := hide hown
    clear hown
    by_cases hlt : i < (L a).length
    · have hx1 := hla'.at hlt
      have hc := (hu.later hbel).cell i hlt
      have hat := hu.at_ (by omega)
      subst hat
      have hol : out.length ≤ 8000000 := by rw [unhide HI]; omega
      have C2 := hide (fun W (h : Reads W (Value.slice ao' (L b).length cap') (L b)) => l1Limb_any W _ (L b) i h (by omega))
      have S := hide (fun d u (hd : d - u * 10000 = (L a).getD i 0 - (L b).getD i 0 - under) => sub_step (unhide HI) (unhide HVal) rfl hd)
      rw [getD_at hlt] at S
      generalize hxa : (L a)[i] = xa at *
      generalize hxb : (L b).getD i 0 = xb at *
      have Hxa := hide hxa
      have Hxb := hide hxb
      clear hxa hxb hu
      obtain ⟨hx1, hx3⟩ := hx1
      obtain ⟨hx2, hx4⟩ := hx2
      by_cases hneg : xa - xb - under < 0
      · have HR := hide (unhide S (xa - xb - under + 10000) 1 (by omega))
        rcases shape with ⟨rfl, h0⟩ | ⟨g, capo, rfl, hBg, hgs, hcapo, hmo⟩
        all_goals
          try clear h0
          go_wp2
          go_quiet ((go_at_call 81; exact Calls.quiet_of_same (unhide C2 _ ((unhide V').later (below_drewN (Below.refl _ _) _)))))
          go_wp2_with (at_builtin; refine wpList_push rfl _ _ 23 rfl Try.underlying23 w.heap.size _ out _ ((unhide hown').later (below_drewN (Below.refl _ _) _)) rfl rfl hol hsz ?_; intro g1 cap1 w1 hown1 hb1 hc1 hm1 hBg1 hgs1)
          go_roundw
          case rel => exact ⟨i + 1, _, _, by go_num, rfl, by simp [unhide HI], hlim.app (Lim.one (by omega) (by omega)), unhide HR, by omega, by omega, hown1, (below_draws hbel _).trans hb1, by omega⟩
          case measure => simp [intOf]; omega
      · have HR := hide (unhide S (xa - xb - under) 0 (by omega))
        rcases shape with ⟨rfl, h0⟩ | ⟨g, capo, rfl, hBg, hgs, hcapo, hmo⟩
        all_goals
          try clear h0
          go_wp2
          go_quiet ((go_at_call 81; exact Calls.quiet_of_same (unhide C2 _ ((unhide V').later (below_drewN (Below.refl _ _) _)))))
          go_wp2_with (at_builtin; refine wpList_push rfl _ _ 23 rfl Try.underlying23 w.heap.size _ out _ ((unhide hown').later (below_drewN (Below.refl _ _) _)) rfl rfl hol hsz ?_; intro g1 cap1 w1 hown1 hb1 hc1 hm1 hBg1 hgs1)
          go_roundw
          case rel => exact ⟨i + 1, _, _, by go_num, rfl, by simp [unhide HI], hlim.app (Lim.one (by omega) (by omega)), unhide HR, by omega, by omega, hown1, (below_draws hbel _).trans hb1, by omega⟩
          case measure => simp [intOf]; omega
    · have ei : i = (L a).length := by omega
      have e := unhide HVal
      rw [ei] at e
      have etr := sub_end (a := a) (b := b) hlim ((unhide HI).trans ei) (unhide HBA) ho1 e
      have fin : ∀ e w1, Gives wr (trim out) e w1 → Gives w (L (a - b)) e w1 := by
        rintro e w1 ⟨ao, cap, rfl, ho, hb⟩
        rw [etr] at ho ⊢
        exact ⟨ao, cap, rfl, ho.mono hsz, hbel.trans (hb.mono hsz)⟩
      have HFin := hide fin
      have hcall := l1Trim_any wr u5 out (unhide hown').reads (by rw [unhide HI]; omega)
      have HCall := hide hcall
      clear e etr fin hcall ei hu
      rcases shape with ⟨rfl, h0⟩ | ⟨g, capo, rfl, hBg, hgs, hcapo, hmo⟩
      all_goals
        go_wp2_with fail
        refine (unhide HCall).mono ?_
        intro e w1 h
        obtain ⟨ao1, cap1, rfl, ho1, hb1⟩ := unhide HFin e w1 h
        go_wp2
        go_ret
        exact ⟨ao1, cap1, rfl, ho1, hb1⟩

end Go.Proofs.Ytlmbcicfpidhcaa
