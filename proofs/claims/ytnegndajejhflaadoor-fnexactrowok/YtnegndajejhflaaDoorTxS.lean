/- The figures of a number by the specification, by a contract. -/
import Derived.Test.YtnegndajejhflaaDoorTxS0
namespace Go.Proofs.YtnegndajejhflaaDoor
open Go.RowKit

set_option maxHeartbeats 1000000 in
set_option maxRecDepth 10000 in
theorem l1Figures_any (w : World) (v : Value) (l : List Int) (hr : Reads w v l) (hl : Lim l) (hn : l.length ≤ 1000) :
    Calls Tryd.prog 52 #[v] w fun e w' => e = .returned (.string ⟨(txtL l).toArray⟩) ∧ Below w.heap.size w w' := by
  obtain ⟨ao, b, off, cap, rfl, hr⟩ := hr
  have h1 := hr.le
  have h2 := hr.big
  unfold maxLen at h2
  by_cases h0 : l.length = 0
  · have e : l = [] := List.length_eq_zero_iff.1 h0
    subst e
    clear hr
    go_enter Tryd.func52, Tryd.ntmps52
    go_wp2
    go_ret
    exact ⟨rfl, Below.refl _ _⟩
  · obtain rfl : ao = some ⟨b, off, none⟩ := hr.at_ (by omega)
    have e0 : ((l.length : Int) == 0) = false := by rw [beq_eq_false_iff_ne]; omega
    have HR := hide hr
    have top := hl.getD (l.length - 1)
    have ctop := hr.cell (l.length - 1) (by omega)
    have htop : l[l.length - 1] = l.getD (l.length - 1) 0 := by simp [List.getD_eq_getElem?_getD, List.getElem?_eq_getElem (show l.length - 1 < l.length by omega)]
    rw [htop] at ctop
    clear htop hr
    have E1 := hide (show dtxt (l.getD (l.length - 1) 0).toNat = ⟨(txtAt l (l.length - 1)).toArray⟩ by unfold dtxt; rw [txtAt_top (by omega)])
    generalize l.getD (l.length - 1) 0 = x at *
    obtain ⟨y, rfl⟩ : ∃ y : Nat, x = y := ⟨x.toNat, by omega⟩
    rw [Int.toNat_natCast] at E1
    have C1 := hide (l1Dec_nat y (by omega) w)
    go_enter Tryd.func52, Tryd.ntmps52
    go_wp2_with fail
    refine (unhide C1).mono ?_
    rintro e w1 ⟨rfl, b1⟩
    clear C1 ctop
    go_wp2
    go_loopw [3, 4] (fun o i wr => ∃ (k : Nat) (t : ByteArray), k < l.length ∧ i = .int .i64 ((k : Int) - 1) ∧ o = .string t ∧ Hid (t = ⟨(txtAt l k).toArray⟩) ∧ Below w.heap.size w wr) (fun _ i _ => (intOf i + 1).toNat)
    case atStart => exact ⟨l.length - 1, _, by omega, by go_num, rfl, E1, b1⟩
    case round =>
      obtain ⟨k, t, hk, rfl, rfl, Ht, B3⟩ := hrel
      clear b1 E1 top
      by_cases hz : k = 0
      · subst hz
        have E0 := hide (show t = ⟨(txtL l).toArray⟩ by rw [unhide Ht]; rw [show txtL l = txtAt l 0 from if_neg (fun e => h0 (by rw [e]; rfl))])
        go_wp2
        go_ret
        exact ⟨by rw [← unhide E0]; rfl, B3⟩
      · obtain ⟨j, rfl⟩ : ∃ j, k = j + 1 := ⟨k - 1, by omega⟩
        have g0 : decide ((0 : Int) ≤ ((j + 1 : Nat) : Int) - 1) = true := by simp
        have xj := hl.at (show j < l.length by omega)
        have cj := ((unhide HR).later B3).cell j (by omega)
        have E3 := hide (txtAt_step (l := l) (k := j) (by omega))
        generalize l[j] = x at *
        obtain ⟨z, rfl⟩ : ∃ z : Nat, x = z := ⟨x.toNat, by omega⟩
        have E4 := wide_limb xj.1 xj.2
        rw [Int.toNat_natCast] at E4
        have C1 := hide (l1Wide_any wr z 4 (by omega) (by omega))
        rw [E4] at C1
        have LT := (txtAt_len hl (j + 1) hk).1
        have L4 := limbT_len xj.1 xj.2
        have E5 := hide (show t ++ ⟨(limbT (z : Int)).toArray⟩ = ⟨(txtAt l j).toArray⟩ by rw [unhide Ht, bytes_cat, ← unhide E3])
        have Z5 : (⟨(limbT (z : Int)).toArray⟩ : ByteArray).size = 4 := by rw [bytes_size, L4]
        have Z6 : t.size ≤ 5000 := by rw [unhide Ht, bytes_size]; omega
        generalize (⟨(limbT (z : Int)).toArray⟩ : ByteArray) = q at *
        have z1 : ¬ (9223372036854775807 < t.size + q.size) := by omega
        clear E4 L4 LT Z5 Z6 E3 Ht
        go_wp2_with fail
        refine (unhide C1).mono ?_
        rintro e w3 ⟨rfl, b3⟩
        have B4 := B3.trans (b3.mono B3.size)
        clear C1 b3
        go_wp2
        go_roundw
        case rel => exact ⟨j, _, by omega, by go_num, rfl, E5, B4⟩
        case measure => simp [intOf]

end Go.Proofs.YtnegndajejhflaaDoor
