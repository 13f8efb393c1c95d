/- The law FnExactValueFits: its walk. -/
import Derived.Test.YtnegndajejhflaaDoorVlG
import Derived.Test.YtnegndajejhflaaDoorTypK
import Derived.Deep.RegionHeld3
namespace Go.Proofs.YtnegndajejhflaaDoor
open Go.RowKit
set_option maxRecDepth 100000
set_option linter.unusedSimpArgs false
set_option linter.unusedVariables false

theorem szV_big {N T : Nat} (h : szV 1048576 N T < 0) : True := trivial
theorem szV_small {N T : Nat} (h : ¬ szV 1048576 N T < 0) : N ≤ 1048576 ∧ T ≤ 1048576 := by
  unfold szV at h
  split at h
  · omega
  · split at h
    · omega
    · omega

theorem toType_below (w : World) (k d s : Int) : Calls Tryd.prog 8 #[.agg #[.int .i64 k, .int .i64 d, .int .i64 s]] w fun e w' => e = .returned (.agg #[.int .i64 k, .int .i64 d, .int .i64 s]) ∧ Below w.heap.size w w' := by
  refine (toType_any w k d s).mono ?_
  rintro e w' ⟨rfl, hw⟩
  subst hw
  exact ⟨rfl, (((Below.refl _ _).alloc (Nat.le_refl _) _).alloc (by simp) _).alloc (by simp; omega) _⟩

set_option maxHeartbeats 8000000 in
theorem xValueFits_walk (w : World) (k : Int) (y n : Bool) (ao : Option Addr) (l : List Int) (cap : Nat) (sc d mo da : Int) (t : ByteArray) (K D C : Int) (ht : t.size ≤ maxLen) (hr : Reads w (.slice ao l.length cap) l) (tt : Tab w) :
    Calls Tryd.prog 3 #[.agg #[.int .i64 k, .bool y, .bool n, .slice ao l.length cap, .int .i64 sc, .int .i64 d, .int .i64 mo, .int .i64 da, .string t], .agg #[.int .i64 K, .int .i64 D, .int .i64 C]] w fun e w' => e = .returned (.bool true) ∧ Below w.heap.size w w' := by
  have B0 : Below w.heap.size w ((w.alloc (.cells #[.int .i64 k, .bool y, .bool n, .slice ao l.length cap, .int .i64 sc, .int .i64 d, .int .i64 mo, .int .i64 da, .string t] 30)).alloc (.cells #[.int .i64 K, .int .i64 D, .int .i64 C] 32)) := ((Below.refl _ _).alloc (Nat.le_refl _) _).alloc (by simp) _
  have VA := (V9.new w (.int .i64 k) (.bool y) (.bool n) (.slice ao l.length cap) (.int .i64 sc) (.int .i64 d) (.int .i64 mo) (.int .i64 da) (.string t) 30).later ((Below.refl _ _).alloc (Nat.le_refl _) (.cells #[.int .i64 K, .int .i64 D, .int .i64 C] 32))
  have TA : T3 ((w.alloc (.cells #[.int .i64 k, .bool y, .bool n, .slice ao l.length cap, .int .i64 sc, .int .i64 d, .int .i64 mo, .int .i64 da, .string t] 30)).alloc (.cells #[.int .i64 K, .int .i64 D, .int .i64 C] 32)) (w.heap.size + 1) K D C := by
    have h : T3 ((w.alloc (.cells #[.int .i64 k, .bool y, .bool n, .slice ao l.length cap, .int .i64 sc, .int .i64 d, .int .i64 mo, .int .i64 da, .string t] 30)).alloc (.cells #[.int .i64 K, .int .i64 D, .int .i64 C] 32)) (w.alloc (.cells #[.int .i64 k, .bool y, .bool n, .slice ao l.length cap, .int .i64 sc, .int .i64 d, .int .i64 mo, .int .i64 da, .string t] 30)).heap.size K D C := ⟨by go_simp, by go_simp, by go_simp, by simp⟩
    rwa [World.size_alloc] at h
  have CZ := hide (fun W (b : Below w.heap.size w W) => szValue_any W k y n ao l cap sc d mo da t 1048576 (hr.later b) ht (by decide) (by decide))
  by_cases hz : szV 1048576 l.length t.size < 0
  · have z0 : decide (szV 1048576 l.length t.size < 0) = true := by simpa using hz
    generalize szV 1048576 l.length t.size = z at *
    clear hz VA TA hr
    go_enter Tryd.func3, Tryd.ntmps3
    go_wp2_with fail
    refine (unhide CZ _ B0).mono ?_
    rintro e w1 ⟨rfl, b1⟩
    go_wp2
    go_ret
    exact ⟨rfl, B0.trans (b1.mono B0.size)⟩
  have z0 : decide (szV 1048576 l.length t.size < 0) = false := by simpa using hz
  have hl := (szV_small hz).1
  generalize szV 1048576 l.length t.size = z at *
  have CT := hide (fun W (b : Below w.heap.size w W) => toValue_any W k y n ao l cap sc d mo da t (hr.later b) hl)
  have CY := hide (fun W => toType_below W K D C)
  have CS := fun W ao cap (hr : Reads W (.slice ao l.length cap) l) => specValueFits_any W k y n ao l cap sc d mo da t K D C ht hr
  have CI := fun W ao cap (hr : Reads W (.slice ao l.length cap) l) (b : Below w.heap.size w W) => implValueFits_any W k y n ao l cap sc d mo da t K D C ht hr (tt.later b)
  generalize fitsB k y n l sc d mo da t K D C = g at *
  have CS := hide CS
  have CI := hide CI
  have gg : (!g == g) = false := by cases g <;> rfl
  have gg2 : (g != g) = false := by cases g <;> rfl
  clear hz hr hl
  go_enter Tryd.func3, Tryd.ntmps3
  go_wp2_with fail
  refine (unhide CZ _ B0).mono ?_
  rintro e w1 ⟨rfl, b1⟩
  have B1 := B0.trans (b1.mono B0.size)
  have VA1 := VA.later b1
  have TA1 := TA.later b1
  clear VA TA B0 b1 CZ
  have Stab := hide (fun (w' : World) (h : Below w1.heap.size w1 w') => (⟨(VA1.later h).c0, (VA1.later h).c1, (VA1.later h).c2, (VA1.later h).c3, (VA1.later h).c4, (VA1.later h).c5, (VA1.later h).c6, (VA1.later h).c7, (VA1.later h).c8, (TA1.later h).c0, (TA1.later h).c1, (TA1.later h).c2⟩ : w'.cell? ⟨w.heap.size, 0, none⟩ = some (.int .i64 k) ∧ w'.cell? ⟨w.heap.size, 1, none⟩ = some (.bool y) ∧ w'.cell? ⟨w.heap.size, 2, none⟩ = some (.bool n) ∧ w'.cell? ⟨w.heap.size, 3, none⟩ = some (.slice ao l.length cap) ∧ w'.cell? ⟨w.heap.size, 4, none⟩ = some (.int .i64 sc) ∧ w'.cell? ⟨w.heap.size, 5, none⟩ = some (.int .i64 d) ∧ w'.cell? ⟨w.heap.size, 6, none⟩ = some (.int .i64 mo) ∧ w'.cell? ⟨w.heap.size, 7, none⟩ = some (.int .i64 da) ∧ w'.cell? ⟨w.heap.size, 8, none⟩ = some (.string t) ∧ w'.cell? ⟨w.heap.size + 1, 0, none⟩ = some (.int .i64 K) ∧ w'.cell? ⟨w.heap.size + 1, 1, none⟩ = some (.int .i64 D) ∧ w'.cell? ⟨w.heap.size + 1, 2, none⟩ = some (.int .i64 C)))
  have BW : Below w1.heap.size w1 w1.drew := (Below.refl _ _).drew
  obtain ⟨ac0, ac1, ac2, ac3, ac4, ac5, ac6, ac7, ac8, af0, af1, af2, af3, af4, af5, af6, af7, af8, al⟩ := id VA1
  obtain ⟨tc0, tc1, tc2, tl⟩ := id TA1
  go_wp2
  go_region_held3 (fun w' => w'.cell? ⟨w.heap.size, 0, none⟩ = some (.int .i64 k) ∧ w'.cell? ⟨w.heap.size, 1, none⟩ = some (.bool y) ∧ w'.cell? ⟨w.heap.size, 2, none⟩ = some (.bool n) ∧ w'.cell? ⟨w.heap.size, 3, none⟩ = some (.slice ao l.length cap) ∧ w'.cell? ⟨w.heap.size, 4, none⟩ = some (.int .i64 sc) ∧ w'.cell? ⟨w.heap.size, 5, none⟩ = some (.int .i64 d) ∧ w'.cell? ⟨w.heap.size, 6, none⟩ = some (.int .i64 mo) ∧ w'.cell? ⟨w.heap.size, 7, none⟩ = some (.int .i64 da) ∧ w'.cell? ⟨w.heap.size, 8, none⟩ = some (.string t) ∧ w'.cell? ⟨w.heap.size + 1, 0, none⟩ = some (.int .i64 K) ∧ w'.cell? ⟨w.heap.size + 1, 1, none⟩ = some (.int .i64 D) ∧ w'.cell? ⟨w.heap.size + 1, 2, none⟩ = some (.int .i64 C))
    (first | exact unhide Stab _ (Below.refl _ _).drew | (refine unhide Stab _ ?_; assumption))
    (first | (go_at_call 7; refine (unhide CT _ B1.drew).mono ?_; rintro e w2 ⟨a2, c2, rfl, o2, b2⟩; have BX : Below w1.heap.size w1 w2 := BW.trans b2) | (go_at_call 8; refine (unhide CY _).mono ?_; rintro e w3 ⟨rfl, b3⟩; have BY : Below w1.heap.size w1 w3 := BX.trans (b3.mono BX.size); have o3 := o2.later b3) | (go_at_call 6; refine (unhide CS _ _ _ o3.reads).mono ?_; rintro e w4 ⟨rfl, b4⟩; have BZ : Below w1.heap.size w1 w4 := BY.trans (b4.mono BY.size)))
  have B4 := B1.trans (BZ.mono B1.size)
  have VA4 := VA1.later BZ
  have TA4 := TA1.later BZ
  clear ac0 ac1 ac2 ac3 ac4 ac5 ac6 ac7 ac8 af0 af1 af2 af3 af4 af5 af6 af7 af8 al tc0 tc1 tc2 tl VA1 TA1 B1 BZ BY BX BW b2 b3 b4 o2 o3 CS Stab
  obtain ⟨ac0, ac1, ac2, ac3, ac4, ac5, ac6, ac7, ac8, af0, af1, af2, af3, af4, af5, af6, af7, af8, al⟩ := id VA4
  obtain ⟨tc0, tc1, tc2, tl⟩ := id TA4
  go_wp2_with fail
  refine (unhide CT _ B4).mono ?_
  rintro e w5 ⟨a5, c5, rfl, o5, b5⟩
  have B5 := B4.trans (b5.mono B4.size)
  have VA5 := VA4.later b5
  have TA5 := TA4.later b5
  have VX := V9.new w5 (.int .i64 k) (.bool y) (.bool n) (.slice a5 l.length c5) (.int .i64 sc) (.int .i64 d) (.int .i64 mo) (.int .i64 da) (.string t) 40
  have BA : Below w5.heap.size w5 (w5.alloc (.cells #[.int .i64 k, .bool y, .bool n, .slice a5 l.length c5, .int .i64 sc, .int .i64 d, .int .i64 mo, .int .i64 da, .string t] 40)) := (Below.refl _ _).alloc (Nat.le_refl _) _
  have VA6 := VA5.later BA
  have TA6 := TA5.later BA
  have o6 := o5.later BA
  have B6 := B5.trans (BA.mono B5.size)
  have hsz : w.heap.size + 1 < w5.heap.size := TA5.lt
  clear ac0 ac1 ac2 ac3 ac4 ac5 ac6 ac7 ac8 af0 af1 af2 af3 af4 af5 af6 af7 af8 al tc0 tc1 tc2 tl VA4 TA4 B4 b5 VA5 TA5 BA B5 o5
  go_wp2
  generalize w5.alloc (.cells #[.int .i64 k, .bool y, .bool n, .slice a5 l.length c5, .int .i64 sc, .int .i64 d, .int .i64 mo, .int .i64 da, .string t] 40) = H at *
  have Stab := hide (fun (w' : World) (h : Below H.heap.size H w') => (⟨(VX.later h).c0, (VX.later h).c1, (VX.later h).c2, (VX.later h).c3, (VX.later h).c4, (VX.later h).c5, (VX.later h).c6, (VX.later h).c7, (VX.later h).c8, (TA6.later h).c0, (TA6.later h).c1, (TA6.later h).c2⟩ : w'.cell? ⟨w5.heap.size, 0, none⟩ = some (.int .i64 k) ∧ w'.cell? ⟨w5.heap.size, 1, none⟩ = some (.bool y) ∧ w'.cell? ⟨w5.heap.size, 2, none⟩ = some (.bool n) ∧ w'.cell? ⟨w5.heap.size, 3, none⟩ = some (.slice a5 l.length c5) ∧ w'.cell? ⟨w5.heap.size, 4, none⟩ = some (.int .i64 sc) ∧ w'.cell? ⟨w5.heap.size, 5, none⟩ = some (.int .i64 d) ∧ w'.cell? ⟨w5.heap.size, 6, none⟩ = some (.int .i64 mo) ∧ w'.cell? ⟨w5.heap.size, 7, none⟩ = some (.int .i64 da) ∧ w'.cell? ⟨w5.heap.size, 8, none⟩ = some (.string t) ∧ w'.cell? ⟨w.heap.size + 1, 0, none⟩ = some (.int .i64 K) ∧ w'.cell? ⟨w.heap.size + 1, 1, none⟩ = some (.int .i64 D) ∧ w'.cell? ⟨w.heap.size + 1, 2, none⟩ = some (.int .i64 C)))
  have BW : Below H.heap.size H H.drew := (Below.refl _ _).drew
  go_region_held3 (fun w' => w'.cell? ⟨w5.heap.size, 0, none⟩ = some (.int .i64 k) ∧ w'.cell? ⟨w5.heap.size, 1, none⟩ = some (.bool y) ∧ w'.cell? ⟨w5.heap.size, 2, none⟩ = some (.bool n) ∧ w'.cell? ⟨w5.heap.size, 3, none⟩ = some (.slice a5 l.length c5) ∧ w'.cell? ⟨w5.heap.size, 4, none⟩ = some (.int .i64 sc) ∧ w'.cell? ⟨w5.heap.size, 5, none⟩ = some (.int .i64 d) ∧ w'.cell? ⟨w5.heap.size, 6, none⟩ = some (.int .i64 mo) ∧ w'.cell? ⟨w5.heap.size, 7, none⟩ = some (.int .i64 da) ∧ w'.cell? ⟨w5.heap.size, 8, none⟩ = some (.string t) ∧ w'.cell? ⟨w.heap.size + 1, 0, none⟩ = some (.int .i64 K) ∧ w'.cell? ⟨w.heap.size + 1, 1, none⟩ = some (.int .i64 D) ∧ w'.cell? ⟨w.heap.size + 1, 2, none⟩ = some (.int .i64 C))
    (first | exact unhide Stab _ (Below.refl _ _).drew | (refine unhide Stab _ ?_; assumption))
    (first | (go_at_call 8; refine (unhide CY _).mono ?_; rintro e w7 ⟨rfl, b7⟩; have BX : Below H.heap.size H w7 := BW.trans b7) | (go_at_call 9; refine (unhide CI _ _ _ (o6.later BX).reads (B6.trans (BX.mono B6.size))).mono ?_; rintro e w8 ⟨rfl, b8⟩; have BZ : Below H.heap.size H w8 := BX.trans (b8.mono BX.size)))
  have B8 := B6.trans (BZ.mono B6.size)
  have VX8 := VX.later BZ
  have VA8 := VA6.later BZ
  have o8 := o6.later BZ
  clear VX VA6 TA6 o6 B6 BX BZ BW b7 b8 CI CY Stab
  have Stab := hide (fun (w' : World) (h : Below w8.heap.size w8 w') => (⟨(VX8.later h).c0, (VX8.later h).c1, (VX8.later h).c2, (VX8.later h).c3, (VX8.later h).c4, (VX8.later h).c5, (VX8.later h).c6, (VX8.later h).c7, (VX8.later h).c8, (VA8.later h).c0, (VA8.later h).c1, (VA8.later h).c2, (VA8.later h).c3, (VA8.later h).c4, (VA8.later h).c5, (VA8.later h).c6, (VA8.later h).c7, (VA8.later h).c8⟩ : w'.cell? ⟨w5.heap.size, 0, none⟩ = some (.int .i64 k) ∧ w'.cell? ⟨w5.heap.size, 1, none⟩ = some (.bool y) ∧ w'.cell? ⟨w5.heap.size, 2, none⟩ = some (.bool n) ∧ w'.cell? ⟨w5.heap.size, 3, none⟩ = some (.slice a5 l.length c5) ∧ w'.cell? ⟨w5.heap.size, 4, none⟩ = some (.int .i64 sc) ∧ w'.cell? ⟨w5.heap.size, 5, none⟩ = some (.int .i64 d) ∧ w'.cell? ⟨w5.heap.size, 6, none⟩ = some (.int .i64 mo) ∧ w'.cell? ⟨w5.heap.size, 7, none⟩ = some (.int .i64 da) ∧ w'.cell? ⟨w5.heap.size, 8, none⟩ = some (.string t) ∧ w'.cell? ⟨w.heap.size, 0, none⟩ = some (.int .i64 k) ∧ w'.cell? ⟨w.heap.size, 1, none⟩ = some (.bool y) ∧ w'.cell? ⟨w.heap.size, 2, none⟩ = some (.bool n) ∧ w'.cell? ⟨w.heap.size, 3, none⟩ = some (.slice ao l.length cap) ∧ w'.cell? ⟨w.heap.size, 4, none⟩ = some (.int .i64 sc) ∧ w'.cell? ⟨w.heap.size, 5, none⟩ = some (.int .i64 d) ∧ w'.cell? ⟨w.heap.size, 6, none⟩ = some (.int .i64 mo) ∧ w'.cell? ⟨w.heap.size, 7, none⟩ = some (.int .i64 da) ∧ w'.cell? ⟨w.heap.size, 8, none⟩ = some (.string t)))
  have BW : Below w8.heap.size w8 w8.drew := (Below.refl _ _).drew
  go_wp2
  go_region_held3 (fun w' => w'.cell? ⟨w5.heap.size, 0, none⟩ = some (.int .i64 k) ∧ w'.cell? ⟨w5.heap.size, 1, none⟩ = some (.bool y) ∧ w'.cell? ⟨w5.heap.size, 2, none⟩ = some (.bool n) ∧ w'.cell? ⟨w5.heap.size, 3, none⟩ = some (.slice a5 l.length c5) ∧ w'.cell? ⟨w5.heap.size, 4, none⟩ = some (.int .i64 sc) ∧ w'.cell? ⟨w5.heap.size, 5, none⟩ = some (.int .i64 d) ∧ w'.cell? ⟨w5.heap.size, 6, none⟩ = some (.int .i64 mo) ∧ w'.cell? ⟨w5.heap.size, 7, none⟩ = some (.int .i64 da) ∧ w'.cell? ⟨w5.heap.size, 8, none⟩ = some (.string t) ∧ w'.cell? ⟨w.heap.size, 0, none⟩ = some (.int .i64 k) ∧ w'.cell? ⟨w.heap.size, 1, none⟩ = some (.bool y) ∧ w'.cell? ⟨w.heap.size, 2, none⟩ = some (.bool n) ∧ w'.cell? ⟨w.heap.size, 3, none⟩ = some (.slice ao l.length cap) ∧ w'.cell? ⟨w.heap.size, 4, none⟩ = some (.int .i64 sc) ∧ w'.cell? ⟨w.heap.size, 5, none⟩ = some (.int .i64 d) ∧ w'.cell? ⟨w.heap.size, 6, none⟩ = some (.int .i64 mo) ∧ w'.cell? ⟨w.heap.size, 7, none⟩ = some (.int .i64 da) ∧ w'.cell? ⟨w.heap.size, 8, none⟩ = some (.string t))
    (first | exact unhide Stab _ (Below.refl _ _).drew | (refine unhide Stab _ ?_; assumption))
    (first | (go_at_call 7; refine (unhide CT _ B8.drew).mono ?_; rintro e w9 ⟨a9, c9, rfl, o9, b9⟩; have BX : Below w8.heap.size w8 w9 := BW.trans b9) | (go_at_call 10; refine (eqValue_same _ k y n _ _ l _ _ sc d mo da t (o8.later BX).reads o9.reads).mono ?_; rintro e wa ⟨rfl, ba⟩; have BZ : Below w8.heap.size w8 wa := BX.trans (ba.mono BX.size)))
  go_wp2
  go_ret
  exact ⟨rfl, B8.trans (BZ.mono B8.size)⟩

end Go.Proofs.YtnegndajejhflaaDoor
