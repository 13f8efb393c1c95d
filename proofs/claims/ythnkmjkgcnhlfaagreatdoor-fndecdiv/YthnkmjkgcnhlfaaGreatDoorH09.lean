/- Powers of ten as limbs: the program's and the specification's, by contracts. One limb of the specification, by a contract. The specification's limbs, by contracts: a product. -/
import Derived.Test.YthnkmjkgcnhlfaaGreatDoorH02
import Derived.Test.YthnkmjkgcnhlfaaGreatDoorH01
namespace Go.Proofs.YthnkmjkgcnhlfaaGreatDoor
open Go.RowKit
set_option maxRecDepth 100000



theorem tenLimbs_any (w : World) (n : Nat) (hn : n ≤ 200) :
    Calls Tryz.prog 74 #[.int .i64 n] w (Gives w (L (10 ^ n))) := by
  obtain ⟨i0, hi, hz0, hz1, hz2⟩ := info_parts Tryz.info3
  have hm : n % 4 < 4 := by omega
  have el : L (10 ^ n) = List.replicate (n / 4) 0 ++ [((10 ^ (n % 4) : Nat) : Int)] := by
    have := L_ten (n / 4) (n % 4) hm
    rwa [show 4 * (n / 4) + n % 4 = n by omega] at this
  have eset : ∀ x : Int, (List.replicate (n / 4 + 1) (0 : Int)).set (n / 4) x = List.replicate (n / 4) 0 ++ [x] := by
    intro x
    rw [List.replicate_succ', List.set_append_right _ _ (by simp)]
    simp
  rw [el]
  have hmk : ∀ (r : Nat) (x : Int), n % 4 = r → ((10 ^ r : Nat) : Int) = x → (∀ W, (Instr.index 102 (.agg #[.int .i64 1, .int .i64 10, .int .i64 100, .int .i64 1000]) (.int .i64 r)).run Tryz.prog W = .ok (.int .i64 x) W) →
      Calls Tryz.prog 74 #[.int .i64 n] w (Gives w (List.replicate (n / 4) 0 ++ [((10 ^ (n % 4) : Nat) : Int)])) := by
    intro r x hr hx hix
    have hr' : (n : Int) % 4 = r := by omega
    have Hx := hide (by rw [hr, hx] : ((10 ^ (n % 4) : Nat) : Int) = x)
    rw [unhide Hx]
    clear el hr hx Hx
    go_enter Tryz.func74, Tryz.ntmps74
    go_wp2_with (at_make; refine wpList_make_full _ rfl _ _ 67 rfl w.heap.size 3 i0 (.int .i64 0) 1 Tryz.underlying67 hi hz0 hz1 _ _ _ _ (n / 4 + 1) rfl rfl (by omega) (by omega) ?b2 ?b3 (Nat.le_refl _) ?_)
    case b2 => rw [hz2]; omega
    case b3 => unfold maxLen; omega
    intro w0 hown0 hgrow0
    have e0 : (madeCells #[Value.int .i64 0] (n / 4 + 1)).toList = ints (List.replicate (n / 4 + 1) 0) := by rw [toList_madeCells_one, ints_zeros]
    have own0 : Own w.heap.size w0 (.slice (some ⟨w.heap.size, 0, none⟩) (n / 4 + 1) (n / 4 + 1)) (List.replicate (n / 4 + 1) 0) := by
      unfold Own
      rw [List.length_replicate, ← e0]
      exact hown0
    have bel0 : Below w.heap.size w w0 := (Below.refl _ _).grown hgrow0 (Nat.le_refl _) (fun k h => by cases h)
    have hc := own0.cellAt (i := n / 4) (by simp)
    have hf := own0.frozenAt (n / 4)
    have hst := (own0.store (n / 4) x).1
    rw [eset] at hst
    have HS := hide hst
    clear hown0 hgrow0 e0 own0 hst eset
    go_wp2
    go_ret
    exact Gives.of (unhide HS) (bel0.setCell (Nat.le_refl _) _)
  rcases (show n % 4 = 0 ∨ n % 4 = 1 ∨ n % 4 = 2 ∨ n % 4 = 3 by omega) with h | h | h | h
  · exact hmk 0 1 h (by decide) (fun _ => by kernel_rfl)
  · exact hmk 1 10 h (by decide) (fun _ => by kernel_rfl)
  · exact hmk 2 100 h (by decide) (fun _ => by kernel_rfl)
  · exact hmk 3 1000 h (by decide) (fun _ => by kernel_rfl)

theorem l1TenAbs_any (w : World) (n : Nat) (hn : n ≤ 200) :
    Calls Tryz.prog 100 #[.int .i64 n] w (Gives w (L (10 ^ n))) := by
  have hm : n % 4 < 4 := by omega
  have el : L (10 ^ n) = List.replicate (n / 4) 0 ++ [((10 ^ (n % 4) : Nat) : Int)] := by
    have := L_ten (n / 4) (n % 4) hm
    rwa [show 4 * (n / 4) + n % 4 = n by omega] at this
  rw [el]
  clear el
  go_enter Tryz.func100, Tryz.ntmps100
  go_wp2
  go_loopw [0, 3] (fun nn s wr => ∃ k : Nat, 4 * k ≤ n ∧ nn = .int .i64 ((n - 4 * k : Nat) : Int) ∧ Own w.heap.size wr s (List.replicate k 0) ∧ Below w.heap.size w wr) (fun nn _ _ => (intOf nn).toNat)
  case atStart => exact ⟨0, by omega, rfl, own_empty w (Nat.le_refl _), (Below.refl _ _).alloc (Nat.le_refl _) _⟩
  case round =>
    obtain ⟨k, hk, rfl, hown, hbel⟩ := hrel
    have hsz := hbel.size
    have shape := hown.split
    have HO := hide hown
    have hlen : (List.replicate k (0 : Int)).length ≤ 8000000 := by simp; omega
    clear hown
    by_cases h4 : 4 ≤ n - 4 * k
    · rcases shape with ⟨rfl, h0⟩ | ⟨g, capo, rfl, hBg, hgs, hcapo, hmo⟩
      all_goals
        try clear h0
        go_wp2_with (at_builtin; refine wpList_push rfl _ _ 23 rfl Tryz.underlying23 w.heap.size _ (List.replicate k 0) _ (unhide HO) rfl rfl hlen hsz ?_; intro g1 cap1 w1 hown1 hb1 hc1 hm1 hBg1 hgs1)
        have ho1 : Own w.heap.size w1 (.slice (some ⟨g1, 0, none⟩) (k + 1) cap1) (List.replicate (k + 1) 0) := by
          rw [List.replicate_succ']
          simpa using hown1
        go_roundw
        case rel => exact ⟨k + 1, by omega, by congr 1; omega, ho1, hbel.trans hb1⟩
        case measure => simp only [intOf]; omega
    · have hk4 : k = n / 4 := by omega
      have hr4 : n - 4 * k = n % 4 := by omega
      have hr3 : n - 4 * k < 4 := by omega
      have HK := hide hk4
      have HR := hide hr4
      clear hk4 hr4
      rcases shape with ⟨rfl, h0⟩ | ⟨g, capo, rfl, hBg, hgs, hcapo, hmo⟩
      all_goals
        try clear h0
        go_wp2
        go_loopw [0, 4] (fun nn tt wr' => ∃ j : Nat, j ≤ n - 4 * k ∧ nn = .int .i64 ((n - 4 * k - j : Nat) : Int) ∧ tt = .int .i64 ((10 ^ j : Nat) : Int) ∧ wr' = wr) (fun nn _ _ => (intOf nn).toNat)
        case atStart => exact ⟨0, by omega, rfl, rfl, rfl⟩
        case round =>
          obtain ⟨j, hj, rfl, rfl, rfl⟩ := hrel
          by_cases hjl : j < n - 4 * k
          · have hp : 10 ^ j ≤ 100 := by
              have : j ≤ 2 := by omega
              exact Nat.le_trans (Nat.pow_le_pow_right (by decide) this) (by decide)
            have hp2 : ((10 ^ (j + 1) : Nat) : Int) = ((10 ^ j : Nat) : Int) * 10 := by rw [Nat.pow_succ]; simp
            have HP2 := hide hp2
            generalize 10 ^ j = P at *
            clear hp2
            go_wp2
            go_roundw
            case rel => exact ⟨j + 1, by omega, by congr 1; omega, by rw [unhide HP2], by trivial⟩
            case measure => simp only [intOf]; omega
          · have ej : j = n % 4 := by have := unhide HR; omega
            have EJ := hide ej
            clear ej
            go_wp2_with (at_builtin; refine wpList_push rfl _ _ 23 rfl Tryz.underlying23 w.heap.size _ (List.replicate k 0) _ (unhide HO) rfl rfl hlen hsz ?_; intro g1 cap1 w1 hown1 hb1 hc1 hm1 hBg1 hgs1)
            have ho1 : Own w.heap.size w1 (.slice (some ⟨g1, 0, none⟩) (k + 1) cap1) (List.replicate (n / 4) 0 ++ [((10 ^ (n % 4) : Nat) : Int)]) := by
              rw [← unhide HK, ← unhide EJ]
              simpa using hown1
            go_ret
            exact Gives.of ho1 (hbel.trans hb1)

end Go.Proofs.YthnkmjkgcnhlfaaGreatDoor

namespace Go.Proofs.YthnkmjkgcnhlfaaGreatDoor
open Go.RowKit
set_option maxRecDepth 100000


theorem l1Limb_any (w : World) (v : Value) (l : List Int) (i : Nat) (hr : Reads w v l) (hi : i ≤ 8000000) :
    Calls Tryz.prog 122 #[v, .int .i64 i] w fun e w' => e = .returned (.int .i64 (l.getD i 0)) ∧ w' = w := by
  obtain ⟨ao, b, off, cap, rfl, hr⟩ := hr
  have h1 := hr.le
  have h2 := hr.big
  unfold maxLen at h2
  by_cases h : i < l.length
  · have hc := hr.cell i h
    rw [getD_at h]
    have hat := hr.at_ (by omega)
    subst hat
    clear hr
    go_enter Tryz.func122, Tryz.ntmps122
    go_wp2
    go_ret
    exact ⟨rfl, rfl⟩
  · rw [getD_past (by omega)]
    clear hr
    go_enter Tryz.func122, Tryz.ntmps122
    go_wp2
    go_ret
    exact ⟨rfl, rfl⟩

end Go.Proofs.YthnkmjkgcnhlfaaGreatDoor

namespace Go.Proofs.YthnkmjkgcnhlfaaGreatDoor
open Go.RowKit
set_option maxRecDepth 100000

theorem l1MulAbs_any (w : World) (u v : Value) (a b : Nat) (hu : Reads w u (L a)) (hv : Reads w v (L b)) (ha : a < 10000 ^ 200) (hb : b < 10000 ^ 200) :
    Calls Tryz.prog 98 #[u, v] w (Gives w (L (a * b))) := by
  have hla := L_len_le ha
  have hlb := L_len_le hb
  have hla' := L_lim a
  have hlb' := L_lim b
  have Hend := hide (@mul_end (a := a) (b := b))
  generalize L a = l at *
  generalize L b = m at *
  clear ha hb
  have V := hide hv
  obtain ⟨ao, b1, off, cap, rfl, hu⟩ := hu
  obtain ⟨ao', b2, off', cap', rfl, hv⟩ := hv
  have h1 := hu.le
  have h2 := hu.big
  have h3 := hv.le
  have h4 := hv.big
  unfold maxLen at h2 h4
  clear hv
  obtain ⟨i0, hi, hz0, hz1, hz2⟩ := info_parts Tryz.info3
  go_enter Tryz.func98, Tryz.ntmps98
  go_wp2_with (at_make; refine wpList_make_full _ rfl _ _ 23 rfl w.heap.size 3 i0 (.int .i64 0) 1 Tryz.underlying23 hi hz0 hz1 _ _ _ _ (l.length + m.length) rfl rfl (by omega) (by omega) ?b2 ?b3 (Nat.le_refl _) ?_)
  case b2 => rw [hz2]; omega
  case b3 => unfold maxLen; omega
  intro w0 hown0 hgrow0
  have e0 : (madeCells #[Value.int .i64 0] (l.length + m.length)).toList = ints (List.replicate (l.length + m.length) 0) := by rw [toList_madeCells_one, ints_zeros]
  have own0 : Own w.heap.size w0 (.slice (some ⟨w.heap.size, 0, none⟩) (l.length + m.length) (l.length + m.length)) (List.replicate (l.length + m.length) 0) := by
    unfold Own
    rw [List.length_replicate, ← e0]
    exact hown0
  have bel0 : Below w.heap.size w w0 := (Below.refl _ _).grown hgrow0 (Nat.le_refl _) (fun k h => by cases h)
  clear hown0 hgrow0 e0
  go_wp2
  go_loopw [6, 7, 8, 9] (fun ii _ _ _ wr => ∃ (i : Nat) (out : List Int), i ≤ l.length ∧ ii = .int .i64 i ∧ out.length = l.length + m.length ∧ Lim out ∧ val out = val (l.take i) * val m ∧
      Own w.heap.size wr (.slice (some ⟨w.heap.size, 0, none⟩) (l.length + m.length) (l.length + m.length)) out ∧ Below w.heap.size w wr)
    (fun ii _ _ _ _ => l.length - (intOf ii).toNat)
  case atStart => exact ⟨0, _, Nat.zero_le _, rfl, by simp, Lim.zeros _, by simp [val, val_replicate], own0, bel0⟩
  case round =>
    obtain ⟨i, out, hil, rfl, hol, hlim, hval, hown, hbel⟩ := hrel
    by_cases hlt : i < l.length
    · have hx1 := hla'.at hlt
      have hat := hu.at_ (by omega)
      subst hat
      go_wp2
      go_loopw [7, 8, 9] (fun oo kk _ wr => ∃ (k : Nat) (over : Int) (out : List Int), kk = .int .i64 k ∧ oo = .int .i64 over ∧ out.length = l.length + m.length ∧ Lim out ∧ val out + over * 10000 ^ (i + k) = val (l.take i) * val m + l.getD i 0 * 10000 ^ i * val (m.take k) ∧ 0 ≤ over ∧ over ≤ 10000 ∧
          Own w.heap.size wr (.slice (some ⟨w.heap.size, 0, none⟩) (l.length + m.length) (l.length + m.length)) out ∧ Below w.heap.size w wr ∧ k ≤ m.length + 1)
        (fun _ kk _ _ => m.length + 5 - (intOf kk).toNat)
      case atStart => exact ⟨0, 0, out, rfl, rfl, hol, hlim, by simp [val, hval], by omega, by omega, hown, hbel, by omega⟩
      case round =>
        obtain ⟨k, over, out, rfl, rfl, hol, hlim, hval, ho1, ho2, hown, hbel, hk1⟩ := hrel
        have HVal := hide hval
        have HOl := hide hol
        have hsz := hbel.size
        have V' := hide ((unhide V).later hbel)
        clear hval hol
        by_cases hgo : k < m.length ∨ 0 < over
        · have hkm : k ≤ m.length := by
            rcases hgo with h | h
            · omega
            · by_cases h5 : m.length ≤ k
              · exact mul_room h hlim hla' hlb' hlt h5 (unhide HVal)
              · omega
          have hik : i + k < out.length := by rw [unhide HOl]; omega
          have hik' : i + k < l.length + m.length := by omega
          have hx2 := hlb'.getD k
          have hx3 := hlim.at hik
          have hco := hown.cellAt hik
          have hcf := hown.frozenAt (i + k)
          have hc := (hu.later hbel).cell i hlt
          have C2 := hide (fun W (h : Reads W (Value.slice ao' m.length cap') m) => l1Limb_any W _ m k h (by omega))
          have R := mul_step hik rfl (unhide HVal)
          rw [getD_at hik, getD_at hlt] at R
          have hst := fun x => (hown.store (i + k) x).1
          have hlen : ∀ x, (out.set (i + k) x).length = l.length + m.length := fun x => by rw [List.length_set]; exact unhide HOl
          have hset : ∀ x, 0 ≤ x → x < 10000 → Lim (out.set (i + k) x) := fun x h h' => hlim.set _ h h'
          have HR := hide R
          have HSt := hide hst
          have HLen := hide hlen
          have HSet := hide hset
          generalize hya : l[i] = ya at *
          generalize hyb : m.getD k 0 = yb at *
          generalize hyo : out[i + k] = yo at *
          have Hya := hide hya
          have Hyb := hide hyb
          have Hyo := hide hyo
          obtain ⟨q1, q2⟩ := hx1
          obtain ⟨q3, q4⟩ := hx2
          obtain ⟨q5, q6⟩ := hx3
          have q7 : 0 ≤ ya * yb := Int.mul_nonneg q1 q3
          have q8 : ya * yb ≤ 99980001 := by
            have h1 : ya * yb ≤ 9999 * yb := Int.mul_le_mul_of_nonneg_right (by omega) q3
            have h2 : 9999 * yb ≤ 9999 * 9999 := Int.mul_le_mul_of_nonneg_left (by omega) (by omega)
            omega
          clear R hst hlen hset hya hyb hyo hown hu
          have cases2 : k < m.length ∨ (¬ k < m.length ∧ 0 < over) := by omega
          clear hgo
          rcases cases2 with c1 | ⟨c1, c2⟩
          all_goals
            go_wp2
            go_quiet ((go_at_call 122; exact Calls.quiet_of_same (unhide C2 _ ((unhide V').later (below_drewN (Below.refl _ _) _)))))
            go_wp2
            go_roundw
            case rel => exact ⟨k + 1, _, _, by go_num, rfl, unhide HLen _, unhide HSet _ (by omega) (by omega), by rw [getD_at hlt, unhide Hya]; exact unhide HR, by omega, by omega, unhide HSt _, (below_draws hbel _).setCell (Nat.le_refl _) _, by omega⟩
            case measure => simp only [intOf]; omega
        · have hov : over = 0 := by omega
          have hkm : m.length ≤ k := by omega
          have e := unhide HVal
          rw [hov] at e
          have He := hide (mul_row_end hkm e)
          have hov1 : over ≤ 0 := by omega
          clear e hov hgo hu
          go_wp2
          go_roundw
          case rel => exact ⟨i + 1, out, by omega, by go_num, unhide HOl, hlim, unhide He, hown, hbel⟩
          case measure => simp only [intOf]; omega
    · have etr := unhide Hend out hlim (n := i) (by omega) hval
      have hsz := hbel.size
      have fin : ∀ e w1, Gives wr (trim out) e w1 → Gives w (L (a * b)) e w1 := by
        rintro e w1 ⟨ao, cap, rfl, ho, hb⟩
        rw [etr] at ho ⊢
        exact ⟨ao, cap, rfl, ho.mono hsz, hbel.trans (hb.mono hsz)⟩
      have HFin := hide fin
      have hcall := l1Trim_any wr _ out hown.reads (by rw [hol]; omega)
      have HCall := hide hcall
      clear etr fin hcall hu hown hol hval
      go_wp2_with fail
      refine (unhide HCall).mono ?_
      intro e w1 h
      obtain ⟨ao1, cap1, rfl, ho1, hb1⟩ := unhide HFin e w1 h
      go_wp2
      go_ret
      exact ⟨ao1, cap1, rfl, ho1, hb1⟩

end Go.Proofs.YthnkmjkgcnhlfaaGreatDoor
