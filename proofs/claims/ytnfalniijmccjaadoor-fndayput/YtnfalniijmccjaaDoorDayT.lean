/- DayPut of the program and of the specification. -/
import Derived.Test.YtnfalniijmccjaaDoorDayPa
import Derived.Test.YtnfalniijmccjaaDoorDayT0
namespace Go.Proofs.YtnfalniijmccjaaDoor
open Go.RowKit

theorem padded_any (w : World) (n wide : Nat) (hn : n ≤ 1000000) (hw : wide ≤ 1000) (ht : Tab w) :
    Calls Tryd.prog 37 #[.int .i64 n, .int .i64 wide] w fun e w' => e = .returned (.string ⟨(wideT n wide).toArray⟩) ∧ Below w.heap.size w w' := by
  have C := hide (itoa_any w n (by omega) (by omega) ht)
  have E0 : itxt (n : Int) = ⟨(Lib.decDigits n).toArray⟩ := by unfold itxt; rw [Lib.itoa_nonneg]
  have hs := itxt_size (n := (n : Int)) (by omega) (by omega)
  have hz : (itxt (n : Int)).size = (Lib.decDigits n).length := by rw [E0]; exact bytes_size _
  have HE := hide E0
  have HZ := hide hz
  clear E0 hz
  generalize itxt (n : Int) = t at *
  go_enter Tryd.func37, Tryd.ntmps37
  go_wp2_with fail
  refine (unhide C).mono ?_
  rintro e w1 ⟨rfl, b1⟩
  clear C
  obtain ⟨c, hc⟩ : ∃ c : Nat, wide - t.size = c := ⟨_, rfl⟩
  have hm : max 0 ((wide : Int) - (t.size : Int)) = (c : Int) := by omega
  have C2 := hide (Tryd.strings_Repeat ⟨#[48]⟩ c w1 (by omega) (by show 1 * c ≤ _; omega))
  have E := hide (show (⟨(Lib.repeatL [48] c).toArray⟩ : ByteArray) ++ t = ⟨(wideT n wide).toArray⟩ by
    rw [unhide HE, bytes_cat]
    unfold wideT
    rw [← unhide HZ, hc, repeatL_one])
  have Z : (⟨(Lib.repeatL [48] c).toArray⟩ : ByteArray).size ≤ 1000 := by rw [bytes_size, repeatL_one, List.length_replicate]; omega
  have C3 : Hid (Calls Tryd.prog 69 #[.string ⟨#[48]⟩, .int .i64 c] w1 fun e w' => e = .returned (.string ⟨(Lib.repeatL [48] c).toArray⟩) ∧ Below w1.heap.size w1 w') := C2
  generalize (⟨(Lib.repeatL [48] c).toArray⟩ : ByteArray) = q at *
  have z1 : ¬ (9223372036854775807 < q.size + t.size) := by omega
  clear C2 hc
  go_wp2_with fail
  refine (unhide C3).mono ?_
  rintro e w2 ⟨rfl, b2⟩
  clear hm
  go_wp2
  go_ret
  exact ⟨by rw [← unhide E]; rfl, b1.trans (b2.mono b1.size)⟩

/-- The text of a day. -/
def dayT (n : Int) : ByteArray := ⟨(wideT (moN n / 12 + 1) 4 ++ [45] ++ wideT (moN n % 12 + 1) 2 ++ [45] ++ wideT (dyN n).toNat 2).toArray⟩

theorem wideT_len (n wide : Nat) (hn : n < 10000) (hw : wide ≤ 4) : (wideT n wide).length ≤ 8 := by
  have := dd_len_le hn
  unfold wideT
  rw [List.length_append, List.length_replicate]
  omega

theorem implDayPut_yes (w : World) (n : Int) (h1 : 1 ≤ n) (h2 : n ≤ 3652059) (ht : Tab w) :
    Calls Tryd.prog 11 #[.int .i64 n] w fun e w' => e = .returned (.string (dayT n)) ∧ Below w.heap.size w w' := by
  have C0 := implDayParts_any w n
  rw [decide_eq_true (show IsDay n from ⟨h1, h2⟩), show partY n = (moN n : Int) / 12 + 1 from if_pos ⟨h1, h2⟩, show partM n = (moN n : Int) % 12 + 1 from if_pos ⟨h1, h2⟩, show partD n = dyN n from if_pos ⟨h1, h2⟩] at C0
  have hY : moN n / 12 + 1 < 10000 := by have := moN_lt h1 h2; omega
  have hM : moN n % 12 + 1 < 13 := by omega
  have hD := dyN_bounds h1 h2
  have hL := lastM_bounds (moN n)
  have L1 := wideT_len (moN n / 12 + 1) 4 hY (by omega)
  have L2 := wideT_len (moN n % 12 + 1) 2 (by omega) (by omega)
  have L3 := wideT_len (dyN n).toNat 2 (by omega) (by omega)
  have E := hide (show (⟨(wideT (moN n / 12 + 1) 4).toArray⟩ : ByteArray) ++ ⟨#[45]⟩ ++ ⟨(wideT (moN n % 12 + 1) 2).toArray⟩ ++ ⟨#[45]⟩ ++ ⟨(wideT (dyN n).toNat 2).toArray⟩ = dayT n by
    rw [show (⟨#[45]⟩ : ByteArray) = ⟨([45] : List UInt8).toArray⟩ from rfl, bytes_cat, bytes_cat, bytes_cat, bytes_cat]; rfl)
  have Z1 : (⟨(wideT (moN n / 12 + 1) 4).toArray⟩ : ByteArray).size ≤ 8 := by rw [bytes_size]; exact L1
  have Z2 : (⟨(wideT (moN n % 12 + 1) 2).toArray⟩ : ByteArray).size ≤ 8 := by rw [bytes_size]; exact L2
  have Z3 : (⟨(wideT (dyN n).toNat 2).toArray⟩ : ByteArray).size ≤ 8 := by rw [bytes_size]; exact L3
  have C1 := hide (fun (z : Int) (hz : z = ((moN n / 12 + 1 : Nat) : Int)) W (t : Tab W) => (by subst hz; exact padded_any W (moN n / 12 + 1) 4 (by omega) (by omega) t : Calls Tryd.prog 37 #[.int .i64 z, .int .i64 4] W fun e w' => e = .returned (.string ⟨(wideT (moN n / 12 + 1) 4).toArray⟩) ∧ Below W.heap.size W w'))
  have C2 := hide (fun (z : Int) (hz : z = ((moN n % 12 + 1 : Nat) : Int)) W (t : Tab W) => (by subst hz; exact padded_any W (moN n % 12 + 1) 2 (by omega) (by omega) t : Calls Tryd.prog 37 #[.int .i64 z, .int .i64 2] W fun e w' => e = .returned (.string ⟨(wideT (moN n % 12 + 1) 2).toArray⟩) ∧ Below W.heap.size W w'))
  have C3 := hide (fun (z : Int) (hz : z = ((dyN n).toNat : Int)) W (t : Tab W) => (by subst hz; exact padded_any W (dyN n).toNat 2 (by omega) (by omega) t : Calls Tryd.prog 37 #[.int .i64 z, .int .i64 2] W fun e w' => e = .returned (.string ⟨(wideT (dyN n).toNat 2).toArray⟩) ∧ Below W.heap.size W w'))
  generalize (⟨(wideT (moN n / 12 + 1) 4).toArray⟩ : ByteArray) = ty at *
  generalize (⟨(wideT (moN n % 12 + 1) 2).toArray⟩ : ByteArray) = tm at *
  generalize (⟨(wideT (dyN n).toNat 2).toArray⟩ : ByteArray) = td at *
  have z1 : ¬ (9223372036854775807 < ty.size + 1) := by omega
  have z2 : ¬ (9223372036854775807 < ty.size + 1 + tm.size) := by omega
  have z3 : ¬ (9223372036854775807 < ty.size + 1 + tm.size + 1) := by omega
  have z4 : ¬ (9223372036854775807 < ty.size + 1 + tm.size + 1 + td.size) := by omega
  have eD : dyN n = ((dyN n).toNat : Int) := by omega
  have HD := hide eD
  have HY := hide (show (moN n : Int) / 12 + 1 = ((moN n / 12 + 1 : Nat) : Int) by omega)
  have HM := hide (show (moN n : Int) % 12 + 1 = ((moN n % 12 + 1 : Nat) : Int) by omega)
  generalize (moN n : Int) / 12 + 1 = y at *
  generalize (moN n : Int) % 12 + 1 = m at *
  generalize dyN n = d at *
  clear eD L1 L2 L3 hD hL hY hM
  have H0 := hide C0
  clear C0
  go_enter Tryd.func11, Tryd.ntmps11
  go_wp2_with fail
  refine (unhide H0).mono ?_
  rintro e w1 ⟨rfl, rfl⟩
  go_wp2_with fail
  refine (unhide C1 _ (unhide HY) _ ht).mono ?_
  rintro e w1 ⟨rfl, b1⟩
  go_wp2_with fail
  refine (unhide C2 _ (unhide HM) _ (ht.later b1)).mono ?_
  rintro e w2 ⟨rfl, b2⟩
  have B2 := b1.trans (b2.mono b1.size)
  go_wp2_with fail
  refine (unhide C3 _ (unhide HD) _ (ht.later B2)).mono ?_
  rintro e w3 ⟨rfl, b3⟩
  go_wp2
  go_ret
  exact ⟨by rw [← unhide E]; rfl, B2.trans (b3.mono B2.size)⟩

theorem implDayPut_no (w : World) (n : Int) (h : ¬ IsDay n) :
    Calls Tryd.prog 11 #[.int .i64 n] w fun e w' => e = .returned (.string ⟨#[]⟩) ∧ Below w.heap.size w w' := by
  have C0 := implDayParts_any w n
  rw [decide_eq_false h] at C0
  generalize partY n = y at *
  generalize partM n = m at *
  generalize partD n = d at *
  clear h
  have H0 := hide C0
  clear C0
  go_enter Tryd.func11, Tryd.ntmps11
  go_wp2_with fail
  refine (unhide H0).mono ?_
  rintro e w1 ⟨rfl, rfl⟩
  go_wp2
  go_ret
  exact ⟨rfl, Below.refl _ _⟩

theorem l3Put_any (w : World) (n : Int) (h1 : 1 ≤ n) (h2 : n ≤ 3652059) :
    Calls Tryd.prog 39 #[.int .i64 n] w fun e w' => e = .returned (.string (dayT n)) ∧ Below w.heap.size w w' := by
  have CY := hide (specYear_any w n h1 h2)
  have CM := hide (fun W => specMonth_any W n h1 h2)
  have CD := hide (fun W => specDay_any W n h1 h2)
  have hY : moN n / 12 + 1 < 10000 := by have := moN_lt h1 h2; omega
  have hM : moN n % 12 + 1 < 13 := by omega
  have hD := dyN_bounds h1 h2
  have hL := lastM_bounds (moN n)
  have L1 := wideT_len (moN n / 12 + 1) 4 hY (by omega)
  have L2 := wideT_len (moN n % 12 + 1) 2 (by omega) (by omega)
  have L3 := wideT_len (dyN n).toNat 2 (by omega) (by omega)
  have E := hide (show (⟨(wideT (moN n / 12 + 1) 4).toArray⟩ : ByteArray) ++ ⟨#[45]⟩ ++ ⟨(wideT (moN n % 12 + 1) 2).toArray⟩ ++ ⟨#[45]⟩ ++ ⟨(wideT (dyN n).toNat 2).toArray⟩ = dayT n by
    rw [show (⟨#[45]⟩ : ByteArray) = ⟨([45] : List UInt8).toArray⟩ from rfl, bytes_cat, bytes_cat, bytes_cat, bytes_cat]; rfl)
  have Z1 : (⟨(wideT (moN n / 12 + 1) 4).toArray⟩ : ByteArray).size ≤ 8 := by rw [bytes_size]; exact L1
  have Z2 : (⟨(wideT (moN n % 12 + 1) 2).toArray⟩ : ByteArray).size ≤ 8 := by rw [bytes_size]; exact L2
  have Z3 : (⟨(wideT (dyN n).toNat 2).toArray⟩ : ByteArray).size ≤ 8 := by rw [bytes_size]; exact L3
  have C1 := hide (fun (z : Int) (hz : z = ((moN n / 12 + 1 : Nat) : Int)) W => (by subst hz; exact l1Wide_any W (moN n / 12 + 1) 4 (by omega) (by omega) : Calls Tryd.prog 72 #[.int .i64 z, .int .i64 4] W fun e w' => e = .returned (.string ⟨(wideT (moN n / 12 + 1) 4).toArray⟩) ∧ Below W.heap.size W w'))
  have C2 := hide (fun (z : Int) (hz : z = ((moN n % 12 + 1 : Nat) : Int)) W => (by subst hz; exact l1Wide_any W (moN n % 12 + 1) 2 (by omega) (by omega) : Calls Tryd.prog 72 #[.int .i64 z, .int .i64 2] W fun e w' => e = .returned (.string ⟨(wideT (moN n % 12 + 1) 2).toArray⟩) ∧ Below W.heap.size W w'))
  have C3 := hide (fun (z : Int) (hz : z = ((dyN n).toNat : Int)) W => (by subst hz; exact l1Wide_any W (dyN n).toNat 2 (by omega) (by omega) : Calls Tryd.prog 72 #[.int .i64 z, .int .i64 2] W fun e w' => e = .returned (.string ⟨(wideT (dyN n).toNat 2).toArray⟩) ∧ Below W.heap.size W w'))
  generalize (⟨(wideT (moN n / 12 + 1) 4).toArray⟩ : ByteArray) = ty at *
  generalize (⟨(wideT (moN n % 12 + 1) 2).toArray⟩ : ByteArray) = tm at *
  generalize (⟨(wideT (dyN n).toNat 2).toArray⟩ : ByteArray) = td at *
  have z1 : ¬ (9223372036854775807 < ty.size + 1) := by omega
  have z2 : ¬ (9223372036854775807 < ty.size + 1 + tm.size) := by omega
  have z3 : ¬ (9223372036854775807 < ty.size + 1 + tm.size + 1) := by omega
  have z4 : ¬ (9223372036854775807 < ty.size + 1 + tm.size + 1 + td.size) := by omega
  have eD : dyN n = ((dyN n).toNat : Int) := by omega
  have HD := hide eD
  have HY := hide (show (moN n : Int) / 12 + 1 = ((moN n / 12 + 1 : Nat) : Int) by omega)
  have HM := hide (show (moN n : Int) % 12 + 1 = ((moN n % 12 + 1 : Nat) : Int) by omega)
  generalize (moN n : Int) / 12 + 1 = y at *
  generalize (moN n : Int) % 12 + 1 = m at *
  generalize dyN n = d at *
  clear eD L1 L2 L3 hD hL hY hM
  go_enter Tryd.func39, Tryd.ntmps39
  go_wp2_with fail
  refine (unhide CY).mono ?_
  rintro e w1 ⟨rfl, rfl⟩
  go_wp2_with fail
  refine (unhide C1 _ (unhide HY) _).mono ?_
  rintro e w1 ⟨rfl, b1⟩
  go_wp2_with fail
  refine (unhide CM _).mono ?_
  rintro e w2 ⟨rfl, rfl⟩
  go_wp2_with fail
  refine (unhide C2 _ (unhide HM) _).mono ?_
  rintro e w2 ⟨rfl, b2⟩
  have B2 := b1.trans (b2.mono b1.size)
  go_wp2_with fail
  refine (unhide CD _).mono ?_
  rintro e w3 ⟨rfl, rfl⟩
  go_wp2_with fail
  refine (unhide C3 _ (unhide HD) _).mono ?_
  rintro e w3 ⟨rfl, b3⟩
  go_wp2
  go_ret
  exact ⟨by rw [← unhide E]; rfl, B2.trans (b3.mono B2.size)⟩

theorem specDayPut_yes (w : World) (n : Int) (h1 : 1 ≤ n) (h2 : n ≤ 3652059) :
    Calls Tryd.prog 12 #[.int .i64 n] w fun e w' => e = .returned (.string (dayT n)) ∧ Below w.heap.size w w' := by
  have C0 := specIs_any w n
  rw [decide_eq_true ⟨h1, h2⟩] at C0
  have C1 := hide (l3Put_any w n h1 h2)
  have H0 := hide C0
  clear C0 h1 h2
  go_enter Tryd.func12, Tryd.ntmps12
  go_wp2_with fail
  refine (unhide H0).mono ?_
  rintro e w1 ⟨rfl, rfl⟩
  go_wp2_with fail
  refine (unhide C1).mono ?_
  rintro e w2 ⟨rfl, b2⟩
  go_wp2
  go_ret
  exact ⟨rfl, b2⟩

theorem specDayPut_no (w : World) (n : Int) (h : ¬ IsDay n) :
    Calls Tryd.prog 12 #[.int .i64 n] w fun e w' => e = .returned (.string ⟨#[]⟩) ∧ Below w.heap.size w w' := by
  have C0 := specIs_any w n
  rw [decide_eq_false h] at C0
  have H0 := hide C0
  clear C0 h
  go_enter Tryd.func12, Tryd.ntmps12
  go_wp2_with fail
  refine (unhide H0).mono ?_
  rintro e w1 ⟨rfl, rfl⟩
  go_wp2
  go_ret
  exact ⟨rfl, Below.refl _ _⟩

/-- What DayPut answers. -/
def dayPutR (n : Int) : ByteArray := if IsDay n then dayT n else ⟨#[]⟩
theorem implDayPut_any (w : World) (n : Int) (ht : Tab w) : Calls Tryd.prog 11 #[.int .i64 n] w fun e w' => e = .returned (.string (dayPutR n)) ∧ Below w.heap.size w w' := by
  unfold dayPutR
  by_cases h : IsDay n
  · rw [if_pos h]; exact implDayPut_yes w n h.1 h.2 ht
  · rw [if_neg h]; exact implDayPut_no w n h
theorem specDayPut_any (w : World) (n : Int) : Calls Tryd.prog 12 #[.int .i64 n] w fun e w' => e = .returned (.string (dayPutR n)) ∧ Below w.heap.size w w' := by
  unfold dayPutR
  by_cases h : IsDay n
  · rw [if_pos h]; exact specDayPut_yes w n h.1 h.2
  · rw [if_neg h]; exact specDayPut_no w n h

end Go.Proofs.YtnfalniijmccjaaDoor
