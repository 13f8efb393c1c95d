/- DayPut of the program and of the specification. SpanPut of the program and of the specification. -/
import Derived.Test.YtdklikicngmkbaaGreatDoorG12
import Derived.Test.YtdklikicngmkbaaGreatDoorG09
import Derived.Test.YtdklikicngmkbaaGreatDoorG04
import Derived.Test.YtdklikicngmkbaaGreatDoorG06
import Derived.Deep.RegionHeld3
namespace Go.Proofs.YtdklikicngmkbaaGreatDoor
open Go.RowKit

theorem padded_any (w : World) (n wide : Nat) (hn : n ≤ 1000000) (hw : wide ≤ 1000) (ht : Tab w) :
    Calls Tryz.prog 169 #[.int .i64 n, .int .i64 wide] w fun e w' => e = .returned (.string ⟨(wideT n wide).toArray⟩) ∧ Below w.heap.size w w' := by
  have C := hide (itoa_any w n (by omega) (by omega) ht)
  have E0 : itxt (n : Int) = ⟨(Lib.decDigits n).toArray⟩ := by unfold itxt; rw [Lib.itoa_nonneg]
  have hs := itxt_size (n := (n : Int)) (by omega) (by omega)
  have hz : (itxt (n : Int)).size = (Lib.decDigits n).length := by rw [E0]; exact bytes_size _
  have HE := hide E0
  have HZ := hide hz
  clear E0 hz
  generalize itxt (n : Int) = t at *
  go_enter Tryz.func169, Tryz.ntmps169
  go_wp2_with fail
  refine (unhide C).mono ?_
  rintro e w1 ⟨rfl, b1⟩
  clear C
  obtain ⟨c, hc⟩ : ∃ c : Nat, wide - t.size = c := ⟨_, rfl⟩
  have hm : max 0 ((wide : Int) - (t.size : Int)) = (c : Int) := by omega
  have C2 := hide (Tryz.strings_Repeat ⟨#[48]⟩ c w1 (by omega) (by show 1 * c ≤ _; omega))
  have E := hide (show (⟨(Lib.repeatL [48] c).toArray⟩ : ByteArray) ++ t = ⟨(wideT n wide).toArray⟩ by
    rw [unhide HE, bytes_cat]
    unfold wideT
    rw [← unhide HZ, hc, repeatL_one])
  have Z : (⟨(Lib.repeatL [48] c).toArray⟩ : ByteArray).size ≤ 1000 := by rw [bytes_size, repeatL_one, List.length_replicate]; omega
  have C3 : Hid (Calls Tryz.prog 204 #[.string ⟨#[48]⟩, .int .i64 c] w1 fun e w' => e = .returned (.string ⟨(Lib.repeatL [48] c).toArray⟩) ∧ Below w1.heap.size w1 w') := C2
  generalize (⟨(Lib.repeatL [48] c).toArray⟩ : ByteArray) = q at *
  have z1 : ¬ (9223372036854775807 < q.size + t.size) := by omega
  clear C2 hc
  go_wp2_with fail
  refine (unhide C3).mono ?_
  rintro e w2 ⟨rfl, b2⟩
  clear hm
  go_wp2
  go_ret
  exact ⟨by rw [← unhide E]; rfl, b1.trans (b2.mono b1.size)⟩

/-- The text of a day. -/
def dayT (n : Int) : ByteArray := ⟨(wideT (moN n / 12 + 1) 4 ++ [45] ++ wideT (moN n % 12 + 1) 2 ++ [45] ++ wideT (dyN n).toNat 2).toArray⟩

theorem wideT_len (n wide : Nat) (hn : n < 10000) (hw : wide ≤ 4) : (wideT n wide).length ≤ 8 := by
  have := dd_len_le hn
  unfold wideT
  rw [List.length_append, List.length_replicate]
  omega

theorem implDayPut_yes (w : World) (n : Int) (h1 : 1 ≤ n) (h2 : n ≤ 3652059) (ht : Tab w) :
    Calls Tryz.prog 117 #[.int .i64 n] w fun e w' => e = .returned (.string (dayT n)) ∧ Below w.heap.size w w' := by
  have C0 := implDayParts_any w n
  rw [decide_eq_true (show IsDay n from ⟨h1, h2⟩), show partY n = (moN n : Int) / 12 + 1 from if_pos ⟨h1, h2⟩, show partM n = (moN n : Int) % 12 + 1 from if_pos ⟨h1, h2⟩, show partD n = dyN n from if_pos ⟨h1, h2⟩] at C0
  have hY : moN n / 12 + 1 < 10000 := by have := moN_lt h1 h2; omega
  have hM : moN n % 12 + 1 < 13 := by omega
  have hD := dyN_bounds h1 h2
  have hL := lastM_bounds (moN n)
  have L1 := wideT_len (moN n / 12 + 1) 4 hY (by omega)
  have L2 := wideT_len (moN n % 12 + 1) 2 (by omega) (by omega)
  have L3 := wideT_len (dyN n).toNat 2 (by omega) (by omega)
  have E := hide (show (⟨(wideT (moN n / 12 + 1) 4).toArray⟩ : ByteArray) ++ ⟨#[45]⟩ ++ ⟨(wideT (moN n % 12 + 1) 2).toArray⟩ ++ ⟨#[45]⟩ ++ ⟨(wideT (dyN n).toNat 2).toArray⟩ = dayT n by
    rw [show (⟨#[45]⟩ : ByteArray) = ⟨([45] : List UInt8).toArray⟩ from rfl, bytes_cat, bytes_cat, bytes_cat, bytes_cat]; rfl)
  have Z1 : (⟨(wideT (moN n / 12 + 1) 4).toArray⟩ : ByteArray).size ≤ 8 := by rw [bytes_size]; exact L1
  have Z2 : (⟨(wideT (moN n % 12 + 1) 2).toArray⟩ : ByteArray).size ≤ 8 := by rw [bytes_size]; exact L2
  have Z3 : (⟨(wideT (dyN n).toNat 2).toArray⟩ : ByteArray).size ≤ 8 := by rw [bytes_size]; exact L3
  have C1 := hide (fun (z : Int) (hz : z = ((moN n / 12 + 1 : Nat) : Int)) W (t : Tab W) => (by subst hz; exact padded_any W (moN n / 12 + 1) 4 (by omega) (by omega) t : Calls Tryz.prog 169 #[.int .i64 z, .int .i64 4] W fun e w' => e = .returned (.string ⟨(wideT (moN n / 12 + 1) 4).toArray⟩) ∧ Below W.heap.size W w'))
  have C2 := hide (fun (z : Int) (hz : z = ((moN n % 12 + 1 : Nat) : Int)) W (t : Tab W) => (by subst hz; exact padded_any W (moN n % 12 + 1) 2 (by omega) (by omega) t : Calls Tryz.prog 169 #[.int .i64 z, .int .i64 2] W fun e w' => e = .returned (.string ⟨(wideT (moN n % 12 + 1) 2).toArray⟩) ∧ Below W.heap.size W w'))
  have C3 := hide (fun (z : Int) (hz : z = ((dyN n).toNat : Int)) W (t : Tab W) => (by subst hz; exact padded_any W (dyN n).toNat 2 (by omega) (by omega) t : Calls Tryz.prog 169 #[.int .i64 z, .int .i64 2] W fun e w' => e = .returned (.string ⟨(wideT (dyN n).toNat 2).toArray⟩) ∧ Below W.heap.size W w'))
  generalize (⟨(wideT (moN n / 12 + 1) 4).toArray⟩ : ByteArray) = ty at *
  generalize (⟨(wideT (moN n % 12 + 1) 2).toArray⟩ : ByteArray) = tm at *
  generalize (⟨(wideT (dyN n).toNat 2).toArray⟩ : ByteArray) = td at *
  have z1 : ¬ (9223372036854775807 < ty.size + 1) := by omega
  have z2 : ¬ (9223372036854775807 < ty.size + 1 + tm.size) := by omega
  have z3 : ¬ (9223372036854775807 < ty.size + 1 + tm.size + 1) := by omega
  have z4 : ¬ (9223372036854775807 < ty.size + 1 + tm.size + 1 + td.size) := by omega
  have eD : dyN n = ((dyN n).toNat : Int) := by omega
  have HD := hide eD
  have HY := hide (show (moN n : Int) / 12 + 1 = ((moN n / 12 + 1 : Nat) : Int) by omega)
  have HM := hide (show (moN n : Int) % 12 + 1 = ((moN n % 12 + 1 : Nat) : Int) by omega)
  generalize (moN n : Int) / 12 + 1 = y at *
  generalize (moN n : Int) % 12 + 1 = m at *
  generalize dyN n = d at *
  clear eD L1 L2 L3 hD hL hY hM
  have H0 := hide C0
  clear C0
  go_enter Tryz.func117, Tryz.ntmps117
  go_wp2_with fail
  refine (unhide H0).mono ?_
  rintro e w1 ⟨rfl, rfl⟩
  go_wp2_with fail
  refine (unhide C1 _ (unhide HY) _ ht).mono ?_
  rintro e w1 ⟨rfl, b1⟩
  go_wp2_with fail
  refine (unhide C2 _ (unhide HM) _ (ht.later b1)).mono ?_
  rintro e w2 ⟨rfl, b2⟩
  have B2 := b1.trans (b2.mono b1.size)
  go_wp2_with fail
  refine (unhide C3 _ (unhide HD) _ (ht.later B2)).mono ?_
  rintro e w3 ⟨rfl, b3⟩
  go_wp2
  go_ret
  exact ⟨by rw [← unhide E]; rfl, B2.trans (b3.mono B2.size)⟩

theorem implDayPut_no (w : World) (n : Int) (h : ¬ IsDay n) :
    Calls Tryz.prog 117 #[.int .i64 n] w fun e w' => e = .returned (.string ⟨#[]⟩) ∧ Below w.heap.size w w' := by
  have C0 := implDayParts_any w n
  rw [decide_eq_false h] at C0
  generalize partY n = y at *
  generalize partM n = m at *
  generalize partD n = d at *
  clear h
  have H0 := hide C0
  clear C0
  go_enter Tryz.func117, Tryz.ntmps117
  go_wp2_with fail
  refine (unhide H0).mono ?_
  rintro e w1 ⟨rfl, rfl⟩
  go_wp2
  go_ret
  exact ⟨rfl, Below.refl _ _⟩

theorem l3Put_any (w : World) (n : Int) (h1 : 1 ≤ n) (h2 : n ≤ 3652059) :
    Calls Tryz.prog 68 #[.int .i64 n] w fun e w' => e = .returned (.string (dayT n)) ∧ Below w.heap.size w w' := by
  have CY := hide (specYear_any w n h1 h2)
  have CM := hide (fun W => specMonth_any W n h1 h2)
  have CD := hide (fun W => specDay_any W n h1 h2)
  have hY : moN n / 12 + 1 < 10000 := by have := moN_lt h1 h2; omega
  have hM : moN n % 12 + 1 < 13 := by omega
  have hD := dyN_bounds h1 h2
  have hL := lastM_bounds (moN n)
  have L1 := wideT_len (moN n / 12 + 1) 4 hY (by omega)
  have L2 := wideT_len (moN n % 12 + 1) 2 (by omega) (by omega)
  have L3 := wideT_len (dyN n).toNat 2 (by omega) (by omega)
  have E := hide (show (⟨(wideT (moN n / 12 + 1) 4).toArray⟩ : ByteArray) ++ ⟨#[45]⟩ ++ ⟨(wideT (moN n % 12 + 1) 2).toArray⟩ ++ ⟨#[45]⟩ ++ ⟨(wideT (dyN n).toNat 2).toArray⟩ = dayT n by
    rw [show (⟨#[45]⟩ : ByteArray) = ⟨([45] : List UInt8).toArray⟩ from rfl, bytes_cat, bytes_cat, bytes_cat, bytes_cat]; rfl)
  have Z1 : (⟨(wideT (moN n / 12 + 1) 4).toArray⟩ : ByteArray).size ≤ 8 := by rw [bytes_size]; exact L1
  have Z2 : (⟨(wideT (moN n % 12 + 1) 2).toArray⟩ : ByteArray).size ≤ 8 := by rw [bytes_size]; exact L2
  have Z3 : (⟨(wideT (dyN n).toNat 2).toArray⟩ : ByteArray).size ≤ 8 := by rw [bytes_size]; exact L3
  have C1 := hide (fun (z : Int) (hz : z = ((moN n / 12 + 1 : Nat) : Int)) W => (by subst hz; exact l1Wide_any W (moN n / 12 + 1) 4 (by omega) (by omega) : Calls Tryz.prog 109 #[.int .i64 z, .int .i64 4] W fun e w' => e = .returned (.string ⟨(wideT (moN n / 12 + 1) 4).toArray⟩) ∧ Below W.heap.size W w'))
  have C2 := hide (fun (z : Int) (hz : z = ((moN n % 12 + 1 : Nat) : Int)) W => (by subst hz; exact l1Wide_any W (moN n % 12 + 1) 2 (by omega) (by omega) : Calls Tryz.prog 109 #[.int .i64 z, .int .i64 2] W fun e w' => e = .returned (.string ⟨(wideT (moN n % 12 + 1) 2).toArray⟩) ∧ Below W.heap.size W w'))
  have C3 := hide (fun (z : Int) (hz : z = ((dyN n).toNat : Int)) W => (by subst hz; exact l1Wide_any W (dyN n).toNat 2 (by omega) (by omega) : Calls Tryz.prog 109 #[.int .i64 z, .int .i64 2] W fun e w' => e = .returned (.string ⟨(wideT (dyN n).toNat 2).toArray⟩) ∧ Below W.heap.size W w'))
  generalize (⟨(wideT (moN n / 12 + 1) 4).toArray⟩ : ByteArray) = ty at *
  generalize (⟨(wideT (moN n % 12 + 1) 2).toArray⟩ : ByteArray) = tm at *
  generalize (⟨(wideT (dyN n).toNat 2).toArray⟩ : ByteArray) = td at *
  have z1 : ¬ (9223372036854775807 < ty.size + 1) := by omega
  have z2 : ¬ (9223372036854775807 < ty.size + 1 + tm.size) := by omega
  have z3 : ¬ (9223372036854775807 < ty.size + 1 + tm.size + 1) := by omega
  have z4 : ¬ (9223372036854775807 < ty.size + 1 + tm.size + 1 + td.size) := by omega
  have eD : dyN n = ((dyN n).toNat : Int) := by omega
  have HD := hide eD
  have HY := hide (show (moN n : Int) / 12 + 1 = ((moN n / 12 + 1 : Nat) : Int) by omega)
  have HM := hide (show (moN n : Int) % 12 + 1 = ((moN n % 12 + 1 : Nat) : Int) by omega)
  generalize (moN n : Int) / 12 + 1 = y at *
  generalize (moN n : Int) % 12 + 1 = m at *
  generalize dyN n = d at *
  clear eD L1 L2 L3 hD hL hY hM
  go_enter Tryz.func68, Tryz.ntmps68
  go_wp2_with fail
  refine (unhide CY).mono ?_
  rintro e w1 ⟨rfl, rfl⟩
  go_wp2_with fail
  refine (unhide C1 _ (unhide HY) _).mono ?_
  rintro e w1 ⟨rfl, b1⟩
  go_wp2_with fail
  refine (unhide CM _).mono ?_
  rintro e w2 ⟨rfl, rfl⟩
  go_wp2_with fail
  refine (unhide C2 _ (unhide HM) _).mono ?_
  rintro e w2 ⟨rfl, b2⟩
  have B2 := b1.trans (b2.mono b1.size)
  go_wp2_with fail
  refine (unhide CD _).mono ?_
  rintro e w3 ⟨rfl, rfl⟩
  go_wp2_with fail
  refine (unhide C3 _ (unhide HD) _).mono ?_
  rintro e w3 ⟨rfl, b3⟩
  go_wp2
  go_ret
  exact ⟨by rw [← unhide E]; rfl, B2.trans (b3.mono B2.size)⟩

/-- What DayPut answers. -/
def dayPutR (n : Int) : ByteArray := if IsDay n then dayT n else ⟨#[]⟩

theorem implDayPut_any (w : World) (n : Int) (ht : Tab w) : Calls Tryz.prog 117 #[.int .i64 n] w fun e w' => e = .returned (.string (dayPutR n)) ∧ Below w.heap.size w w' := by
  unfold dayPutR
  by_cases h : IsDay n
  · rw [if_pos h]; exact implDayPut_yes w n h.1 h.2 ht
  · rw [if_neg h]; exact implDayPut_no w n h

end Go.Proofs.YtdklikicngmkbaaGreatDoor

namespace Go.Proofs.YtdklikicngmkbaaGreatDoor
open Go.RowKit

/-- The text of a span. -/
def spanT (m d : Int) : ByteArray := itxt m ++ ⟨#[109]⟩ ++ itxt d ++ ⟨#[100]⟩

theorem l3SpanPut_any (w : World) (m d : Int) (hm : -9223372036854775807 ≤ m ∧ m ≤ 9223372036854775807) (hd : -9223372036854775807 ≤ d ∧ d ≤ 9223372036854775807) :
    Calls Tryz.prog 69 #[.agg #[.int .i64 m, .int .i64 d]] w fun e w' => e = .returned (.string (spanT m d)) ∧ Below w.heap.size w w' := by
  have C1 := hide (fun W => l1Dec_any W m hm.1 hm.2)
  have C2 := hide (fun W => l1Dec_any W d hd.1 hd.2)
  have s1 := itxt_size (n := m) (by omega) (by omega)
  have s2 := itxt_size (n := d) (by omega) (by omega)
  clear hm hd
  go_enter Tryz.func69, Tryz.ntmps69
  go_wp2_with fail
  have c0 : (w.alloc (.cells #[.int .i64 m, .int .i64 d] 29)).cell? ⟨w.heap.size, 0, none⟩ = some (.int .i64 m) := by go_simp
  have c1 : (w.alloc (.cells #[.int .i64 m, .int .i64 d] 29)).cell? ⟨w.heap.size, 1, none⟩ = some (.int .i64 d) := by go_simp
  have B0 : Below w.heap.size w (w.alloc (.cells #[.int .i64 m, .int .i64 d] 29)) := (Below.refl _ _).alloc (Nat.le_refl _) _
  have l0 : w.heap.size < (w.alloc (.cells #[.int .i64 m, .int .i64 d] 29)).heap.size := by simp
  generalize w.alloc (.cells #[.int .i64 m, .int .i64 d] 29) = W0 at *
  have Stab := hide (fun (w' : World) (h : Below W0.heap.size W0 w') => (⟨(h.cell (p := ⟨w.heap.size, 0, none⟩) l0).trans c0, (h.cell (p := ⟨w.heap.size, 1, none⟩) l0).trans c1⟩ : w'.cell? ⟨w.heap.size, 0, none⟩ = some (.int .i64 m) ∧ w'.cell? ⟨w.heap.size, 1, none⟩ = some (.int .i64 d)))
  have z1 : ¬ (9223372036854775807 < (itxt m).size + 1) := by omega
  have z2 : ¬ (9223372036854775807 < (itxt m).size + 1 + (itxt d).size) := by omega
  have z3 : ¬ (9223372036854775807 < (itxt m).size + 1 + (itxt d).size + 1) := by omega
  go_region_held3 (fun w' => w'.cell? ⟨w.heap.size, 0, none⟩ = some (.int .i64 m) ∧ w'.cell? ⟨w.heap.size, 1, none⟩ = some (.int .i64 d))
    (first | exact unhide Stab _ (Below.refl _ _).drew | (refine unhide Stab _ ?_; assumption))
    (first
      | (go_at_call_of 112 (Value.int .i64 m); refine (unhide C1 _).mono ?_; rintro e w1 ⟨rfl, b1⟩; have BX : Below W0.heap.size W0 w1 := (Below.refl _ _).drew.trans b1)
      | (go_at_call_of 112 (Value.int .i64 d); refine (unhide C2 _).mono ?_; rintro e w2 ⟨rfl, b2⟩; have BY : Below W0.heap.size W0 w2 := BX.trans (b2.mono BX.size)))
  go_wp2
  go_ret
  exact ⟨rfl, B0.trans (BY.mono B0.size)⟩

theorem implSpanPut_yes (w : World) (m d : Int) (h : SpanIs m d) (ht : Tab w) :
    Calls Tryz.prog 119 #[.agg #[.int .i64 m, .int .i64 d]] w fun e w' => e = .returned (.string (spanT m d)) ∧ Below w.heap.size w w' := by
  have CO := fun W => implSpanOk_any W m d
  rw [decide_eq_true h] at CO
  obtain ⟨⟨h1, h2⟩, h3, h4⟩ := h
  have C1 := hide (fun W (t : Tab W) => itoa_any W m (by omega) (by omega) t)
  have C2 := hide (fun W (t : Tab W) => itoa_any W d (by omega) (by omega) t)
  have s1 := itxt_size (n := m) (by omega) (by omega)
  have s2 := itxt_size (n := d) (by omega) (by omega)
  clear h1 h2 h3 h4
  go_enter Tryz.func119, Tryz.ntmps119
  go_wp2_with fail
  refine (CO _).mono ?_
  rintro e w1 ⟨rfl, rfl⟩
  go_wp2_with fail
  have c0 : ((w.alloc (.cells #[.int .i64 m, .int .i64 d] 29)).alloc (.cells #[.int .i64 m, .int .i64 d] 29)).cell? ⟨w.heap.size, 0, none⟩ = some (.int .i64 m) := by go_simp
  have c1 : ((w.alloc (.cells #[.int .i64 m, .int .i64 d] 29)).alloc (.cells #[.int .i64 m, .int .i64 d] 29)).cell? ⟨w.heap.size, 1, none⟩ = some (.int .i64 d) := by go_simp
  have B0 : Below w.heap.size w ((w.alloc (.cells #[.int .i64 m, .int .i64 d] 29)).alloc (.cells #[.int .i64 m, .int .i64 d] 29)) := ((Below.refl _ _).alloc (Nat.le_refl _) _).alloc (by simp) _
  have l0 : w.heap.size < ((w.alloc (.cells #[.int .i64 m, .int .i64 d] 29)).alloc (.cells #[.int .i64 m, .int .i64 d] 29)).heap.size := by simp; omega
  have T0 := ht.later B0
  generalize (w.alloc (.cells #[.int .i64 m, .int .i64 d] 29)).alloc (.cells #[.int .i64 m, .int .i64 d] 29) = W0 at *
  have Stab := hide (fun (w' : World) (h : Below W0.heap.size W0 w') => (⟨(h.cell (p := ⟨w.heap.size, 0, none⟩) l0).trans c0, (h.cell (p := ⟨w.heap.size, 1, none⟩) l0).trans c1⟩ : w'.cell? ⟨w.heap.size, 0, none⟩ = some (.int .i64 m) ∧ w'.cell? ⟨w.heap.size, 1, none⟩ = some (.int .i64 d)))
  have z1 : ¬ (9223372036854775807 < (itxt m).size + 1) := by omega
  have z2 : ¬ (9223372036854775807 < (itxt m).size + 1 + (itxt d).size) := by omega
  have z3 : ¬ (9223372036854775807 < (itxt m).size + 1 + (itxt d).size + 1) := by omega
  go_region_held3 (fun w' => w'.cell? ⟨w.heap.size, 0, none⟩ = some (.int .i64 m) ∧ w'.cell? ⟨w.heap.size, 1, none⟩ = some (.int .i64 d))
    (first | exact unhide Stab _ (Below.refl _ _).drew | (refine unhide Stab _ ?_; assumption))
    (first
      | (go_at_call_of 172 (Value.int .i64 m); refine (unhide C1 _ ?_).mono ?_; exact T0.later (Below.refl _ _).drew; rintro e w1 ⟨rfl, b1⟩; have BX : Below W0.heap.size W0 w1 := (Below.refl _ _).drew.trans b1)
      | (go_at_call_of 172 (Value.int .i64 d); refine (unhide C2 _ ?_).mono ?_; exact T0.later BX; rintro e w2 ⟨rfl, b2⟩; have BY : Below W0.heap.size W0 w2 := BX.trans (b2.mono BX.size)))
  go_wp2
  go_ret
  exact ⟨rfl, B0.trans (BY.mono B0.size)⟩

theorem implSpanPut_no (w : World) (m d : Int) (h : ¬ SpanIs m d) :
    Calls Tryz.prog 119 #[.agg #[.int .i64 m, .int .i64 d]] w fun e w' => e = .returned (.string ⟨#[]⟩) ∧ Below w.heap.size w w' := by
  have CO := fun W => implSpanOk_any W m d
  rw [decide_eq_false h] at CO
  clear h
  go_enter Tryz.func119, Tryz.ntmps119
  go_wp2_with fail
  refine (CO _).mono ?_
  rintro e w1 ⟨rfl, rfl⟩
  go_wp2
  go_ret
  exact ⟨rfl, ((Below.refl _ _).alloc (Nat.le_refl _) _).alloc (by simp) _⟩

end Go.Proofs.YtdklikicngmkbaaGreatDoor
