/- The text of limbs: (limbs).text of the program. -/
import Derived.Test.YtnegndajejhflaaDoorTxM
import Derived.Test.YtnegndajejhflaaDoorBld
import Derived.Deep.RegionHeld3
namespace Go.Proofs.YtnegndajejhflaaDoor
open Go.RowKit

theorem itxt_nat {x : Int} (h : 0 ≤ x) : (itxt x).data.toList = Lib.decDigits x.toNat := by
  obtain ⟨n, rfl⟩ : ∃ n : Nat, x = n := ⟨x.toNat, by omega⟩
  unfold itxt
  rw [Lib.itoa_nonneg]
  simp

theorem extract_tail (t : ByteArray) : (t.extract 1 t.size).data.toList = t.data.toList.tail := by
  rw [ByteArray.data_extract, Array.toList_extract]
  unfold List.extract
  rw [List.drop_one, List.take_of_length_le (by rw [List.length_tail, Array.length_toList]; exact Nat.le_refl _)]

set_option maxHeartbeats 2000000 in
set_option maxRecDepth 100000 in
theorem implText_any (w : World) (v : Value) (l : List Int) (hr : Reads w v l) (hl : Lim l) (hn : l.length ≤ 1000) (ht : Tab w) :
    Calls Tryd.prog 45 #[v] w fun e w' => e = .returned (.string ⟨(txtL l).toArray⟩) ∧ Below w.heap.size w w' := by
  obtain ⟨ao, b, off, cap, rfl, hr⟩ := hr
  have h1 := hr.le
  have h2 := hr.big
  unfold maxLen at h2
  by_cases h0 : l.length = 0
  · have e : l = [] := List.length_eq_zero_iff.1 h0
    subst e
    clear hr
    go_enter Tryd.func45, Tryd.ntmps45
    go_wp2
    go_ret
    exact ⟨rfl, Below.refl _ _⟩
  · obtain rfl : ao = some ⟨b, off, none⟩ := hr.at_ (by omega)
    have e0 : ((l.length : Int) == 0) = false := by rw [beq_eq_false_iff_ne]; omega
    have HR := hide hr
    have top := hl.getD (l.length - 1)
    have I0 := Lib.fresh_isBuilder 100 5 w
    have B0 : Below w.heap.size w (w.alloc (.cells #[.pointer none, .slice none 0 0] 100)) := (Below.refl _ _).alloc (Nat.le_refl _) _
    have T0 := ht.later B0
    have ctop := (hr.later B0).cell (l.length - 1) (by omega)
    have htop : l[l.length - 1] = l.getD (l.length - 1) 0 := by simp [List.getD_eq_getElem?_getD, List.getElem?_eq_getElem (show l.length - 1 < l.length by omega)]
    rw [htop] at ctop
    clear htop hr
    have E1 := hide ((itxt_nat top.1).trans (txtAt_top (l := l) (by omega)).symm)
    generalize l.getD (l.length - 1) 0 = x at *
    have C1 := hide (fun W (t : Tab W) => itoa_any W x (by omega) (by omega) t)
    have S1 := itxt_size (n := x) (by omega) (by omega)
    go_enter Tryd.func45, Tryd.ntmps45
    go_wp2_with fail
    refine (unhide C1 _ T0).mono ?_
    rintro e w1 ⟨rfl, b1⟩
    have I1 := bld_later I0 b1
    have B1 := B0.trans (b1.mono B0.size)
    clear I0 b1 C1 T0 ctop B0
    go_wp2_with fail
    refine (writeBytes_any _ _ [] _ _ I1 (by simp only [List.length_nil]; omega) B1.size).mono ?_
    rintro e w2 ⟨rfl, I2, b2⟩
    have B2 := B1.trans b2
    rw [List.nil_append, unhide E1] at I2
    have HI := hide I2
    clear I1 b2 B1 I2
    go_wp2
    go_loopw [4] (fun i wr => ∃ k : Nat, k < l.length ∧ i = .int .i64 ((k : Int) - 1) ∧ Lib.IsBuilder 100 5 w.heap.size w.heap.size (Lib.byteCells (txtAt l k)) wr ∧ Below w.heap.size w wr) (fun i _ => (intOf i + 1).toNat)
    case atStart => exact ⟨l.length - 1, by omega, by go_num, unhide HI, B2⟩
    case round =>
      obtain ⟨k, hk, rfl, I3, B3⟩ := hrel
      clear HI B2 S1 E1 top
      have HI3 := hide I3
      clear I3
      by_cases hz : k = 0
      · subst hz
        have E0 := hide (show txtL l = txtAt l 0 from if_neg (fun e => h0 (by rw [e]; rfl)))
        go_wp2_with fail
        refine (Tryd.Builder_String_any _ _ _ _ (unhide HI3) B3.size).mono ?_
        rintro e w3 ⟨rfl, b3⟩
        go_wp2
        go_ret
        exact ⟨by rw [unhide E0]; rfl, B3.trans b3⟩
      · obtain ⟨j, rfl⟩ : ∃ j, k = j + 1 := ⟨k - 1, by omega⟩
        have g0 : decide ((0 : Int) ≤ ((j + 1 : Nat) : Int) - 1) = true := by simp
        have xj := hl.at (show j < l.length by omega)
        have cj := ((unhide HR).later B3).cell j (by omega)
        have E3 := hide (txtAt_step (l := l) (k := j) (by omega))
        generalize l[j] = y at *
        have C1 := hide (itoa_any wr (10000 + y) (by omega) (by omega) (ht.later B3))
        have E4 := hide (itxt_nat (x := 10000 + y) (by omega))
        have L4 : (itxt (10000 + y)).data.toList.length = 5 := by rw [unhide E4, dd4 (by omega) (by omega)]; rfl
        have S4 : (itxt (10000 + y)).size = 5 := by rw [← L4]; rfl
        generalize itxt (10000 + y) = t at *
        have S5 : (1 : Int) ≤ (t.size : Int) := by omega
        have S7 : t.size ≤ 5 := by omega
        clear L4 S4
        go_wp2_with fail
        refine (unhide C1).mono ?_
        rintro e w3 ⟨rfl, b3⟩
        have I4 := hide (bld_later (unhide HI3) b3)
        have B4 := B3.trans (b3.mono B3.size)
        clear HI3 b3 C1
        go_wp2_with fail
        have E5 : (t.extract 1 t.size).data.toList = limbT y := by
          unfold limbT
          rw [← unhide E4]
          exact extract_tail t
        have S8 : (t.extract 1 t.size).size ≤ 5 := by rw [ByteArray.size_extract]; omega
        have LT := (txtAt_len hl (j + 1) hk).1
        refine (writeBytes_any _ _ _ _ _ (unhide I4) (by omega) B4.size).mono ?_
        rintro e w4 ⟨rfl, I5, b4⟩
        rw [E5, ← unhide E3] at I5
        have I6 := hide I5
        have B5 := B4.trans b4
        clear I5 b4 B4 I4 E5 S8 LT
        go_wp2
        go_roundw
        case rel => exact ⟨j, by omega, by go_num, unhide I6, B5⟩
        case measure => simp [intOf]

end Go.Proofs.YtnegndajejhflaaDoor
