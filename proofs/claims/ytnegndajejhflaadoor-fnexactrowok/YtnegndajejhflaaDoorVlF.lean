/- Whether a value is of a type: ValueFits of both, by contracts. -/
import Derived.Test.YtnegndajejhflaaDoorVlS
import Derived.Test.YtnegndajejhflaaDoorVlM
import Derived.Test.YtnegndajejhflaaDoorTypK0
import Derived.Deep.RegionHeld3
namespace Go.Proofs.YtnegndajejhflaaDoor
open Go.RowKit
set_option maxRecDepth 100000
set_option linter.unusedSimpArgs false
set_option linter.unusedVariables false

/-- A value of a kind fits a type. -/
def fitB (k sc : Int) (l : List Int) (K D C : Int) : Bool :=
  if k = 0 then true else if k = 2 then decide (K = 2) && (decide (sc = C) && decide (((txtL l).length : Int) ≤ D)) else decide (k = K)

/-- The cells of a type's box. -/
structure T3 (W : World) (b : Nat) (K D C : Int) : Prop where
  c0 : W.cell? ⟨b, 0, none⟩ = some (.int .i64 K)
  c1 : W.cell? ⟨b, 1, none⟩ = some (.int .i64 D)
  c2 : W.cell? ⟨b, 2, none⟩ = some (.int .i64 C)
  lt : b < W.heap.size
theorem T3.later {w w' : World} {b : Nat} {K D C : Int} (h : T3 w b K D C) (k : Below w.heap.size w w') : T3 w' b K D C :=
  ⟨cell_later k h.c0, cell_later k h.c1, cell_later k h.c2, Nat.lt_of_lt_of_le h.lt k.size⟩
theorem T3.new (X : World) (K D C : Int) : T3 (X.alloc (.cells #[.int .i64 K, .int .i64 D, .int .i64 C] 42)) X.heap.size K D C := ⟨by go_simp, by go_simp, by go_simp, by simp⟩

theorem type2 {D C : Int} (h : TypeIs 2 D C) : 1 ≤ D ∧ D ≤ 30 := by
  have h2 : (1 ≤ D ∧ D ≤ 30) ∧ (0 ≤ C ∧ C ≤ 12) ∧ C ≤ D := by simpa [TypeIs] using h
  exact h2.1

set_option maxHeartbeats 2000000 in
theorem specFits_any (w : World) (k : Int) (y n : Bool) (ao : Option Addr) (l : List Int) (cap : Nat) (sc d mo da : Int) (t : ByteArray) (K D C : Int) (hr : Reads w (.slice ao l.length cap) l) (hi : TypeIs K D C) (hd : k = 2 → Lim l ∧ l.length ≤ 1000) :
    Calls Tryd.prog 22 #[.agg #[.int .i64 k, .bool y, .bool n, .slice ao l.length cap, .int .i64 sc, .int .i64 d, .int .i64 mo, .int .i64 da, .string t], .agg #[.int .i64 K, .int .i64 D, .int .i64 C]] w fun e w' => e = .returned (.bool (fitB k sc l K D C)) ∧ Below w.heap.size w w' := by
  have B0 : Below w.heap.size w ((w.alloc (.cells #[.int .i64 k, .bool y, .bool n, .slice ao l.length cap, .int .i64 sc, .int .i64 d, .int .i64 mo, .int .i64 da, .string t] 40)).alloc (.cells #[.int .i64 K, .int .i64 D, .int .i64 C] 42)) := ((Below.refl _ _).alloc (Nat.le_refl _) _).alloc (by simp) _
  by_cases h0 : k = 0
  · subst h0
    have hv : fitB 0 sc l K D C = true := by simp [fitB]
    rw [hv]
    clear hv hr hi hd
    go_enter Tryd.func22, Tryd.ntmps22
    go_wp2
    go_ret
    exact ⟨rfl, B0⟩
  have t0 : (k == 0) = false := by simpa using h0
  by_cases hk : k = K
  case neg =>
    have t1 : (k != K) = true := by simpa using hk
    have hv : fitB k sc l K D C = false := by
      unfold fitB
      rw [if_neg h0]
      split
      · rename_i e
        rw [decide_eq_false (fun q => hk (e.trans q.symm)), Bool.false_and]
      · exact decide_eq_false hk
    rw [hv]
    clear hv hr hi hd h0 hk
    go_enter Tryd.func22, Tryd.ntmps22
    go_wp2
    go_ret
    exact ⟨rfl, B0⟩
  subst hk
  have t1 : (k != k) = false := by simp
  by_cases h2 : k = 2
  case neg =>
    have t2 : (k != 2) = true := by simpa using h2
    have hv : fitB k sc l k D C = true := by
      unfold fitB
      rw [if_neg h0, if_neg h2]
      exact decide_eq_true rfl
    rw [hv]
    clear hv hr hi hd h0 h2
    go_enter Tryd.func22, Tryd.ntmps22
    go_wp2
    go_quiet (fail)
    go_wp2
    go_ret
    exact ⟨rfl, below_draws B0 _⟩
  subst h2
  obtain ⟨hlim, hlen⟩ := hd rfl
  obtain ⟨d1, d2⟩ := type2 hi
  have CL := fun W (b : Below w.heap.size w W) => l1Long_any W (.slice ao l.length cap) l (hr.later b) hlim hlen
  clear hr hi hd t0 t1 h0
  by_cases hs : sc = C
  case neg =>
    have t3 : (sc == C) = false := by simpa using hs
    have hv : fitB 2 sc l 2 D C = false := by simp [fitB, hs]
    rw [hv]
    clear hv hs CL hlim
    go_enter Tryd.func22, Tryd.ntmps22
    go_wp2
    go_quiet (fail)
    go_wp2
    go_ret
    exact ⟨rfl, below_draws B0 _⟩
  subst hs
  have t3 : (sc == sc) = true := by simp
  have hv : fitB 2 sc l 2 D sc = decide (((if l.length = 0 then 0 else (txtL l).length : Nat) : Int) ≤ D) := by
    by_cases e : l.length = 0
    · have e2 : l = [] := List.length_eq_zero_iff.1 e
      subst e2
      have : (txtL []).length = 1 := rfl
      simp [fitB, this]
      omega
    · simp [fitB, e]
  rw [hv]
  clear hv hlim
  generalize (if l.length = 0 then 0 else (txtL l).length : Nat) = q at *
  have CL := hide CL
  have V0 := (V9.new w (.int .i64 2) (.bool y) (.bool n) (.slice ao l.length cap) (.int .i64 sc) (.int .i64 d) (.int .i64 mo) (.int .i64 da) (.string t) 40).later ((Below.refl _ _).alloc (Nat.le_refl _) (.cells #[.int .i64 2, .int .i64 D, .int .i64 sc] 42))
  have T0 := T3.new (w.alloc (.cells #[.int .i64 2, .bool y, .bool n, .slice ao l.length cap, .int .i64 sc, .int .i64 d, .int .i64 mo, .int .i64 da, .string t] 40)) 2 D sc
  rw [World.size_alloc] at T0
  go_enter Tryd.func22, Tryd.ntmps22
  go_wp2
  generalize (w.alloc (.cells #[.int .i64 2, .bool y, .bool n, .slice ao l.length cap, .int .i64 sc, .int .i64 d, .int .i64 mo, .int .i64 da, .string t] 40)).alloc (.cells #[.int .i64 2, .int .i64 D, .int .i64 sc] 42) = W at *
  generalize hb : w.heap.size + 1 = b at *
  generalize hw : w.heap.size = b0 at *
  have Stab := hide (fun (w' : World) (h : Below W.heap.size W w') => (⟨(V0.later h).c0, (V0.later h).c3, (V0.later h).c4, (T0.later h).c1, (T0.later h).c2⟩ : w'.cell? ⟨b0, 0, none⟩ = some (.int .i64 2) ∧ w'.cell? ⟨b0, 3, none⟩ = some (.slice ao l.length cap) ∧ w'.cell? ⟨b0, 4, none⟩ = some (.int .i64 sc) ∧ w'.cell? ⟨b, 1, none⟩ = some (.int .i64 D) ∧ w'.cell? ⟨b, 2, none⟩ = some (.int .i64 sc)))
  have BW : Below W.heap.size W W.drew := (Below.refl _ _).drew
  go_region_held3 (fun w' => w'.cell? ⟨b0, 0, none⟩ = some (.int .i64 2) ∧ w'.cell? ⟨b0, 3, none⟩ = some (.slice ao l.length cap) ∧ w'.cell? ⟨b0, 4, none⟩ = some (.int .i64 sc) ∧ w'.cell? ⟨b, 1, none⟩ = some (.int .i64 D) ∧ w'.cell? ⟨b, 2, none⟩ = some (.int .i64 sc))
    (first | exact unhide Stab _ (Below.refl _ _).drew | (refine unhide Stab _ ?_; assumption))
    (first | (go_at_call 40; refine (unhide CL _ (B0.drew)).mono ?_; rintro e w1 ⟨rfl, b1⟩; have BX : Below W.heap.size W w1 := BW.trans b1))
  go_wp2
  go_ret
  subst hw
  exact ⟨rfl, B0.trans (BX.mono B0.size)⟩

theorem valB_lim {y n : Bool} {l : List Int} {sc d mo da : Int} {t : ByteArray} (h : valB 2 y n l sc d mo da t = true) : Lim l ∧ l.length ≤ 1000 := by
  unfold valB at h
  rw [if_neg (by decide), if_neg (by decide), if_pos rfl, Bool.and_eq_true] at h
  have h2 := decB_iff.1 h.1
  exact ⟨h2.1.2.1, by have := h2.1.1; omega⟩

/-- What ValueFits answers. -/
def fitsB (k : Int) (y n : Bool) (l : List Int) (sc d mo da : Int) (t : ByteArray) (K D C : Int) : Bool := valB k y n l sc d mo da t && (decide (TypeIs K D C) && fitB k sc l K D C)

set_option maxHeartbeats 2000000 in
theorem specValueFits_any (w : World) (k : Int) (y n : Bool) (ao : Option Addr) (l : List Int) (cap : Nat) (sc d mo da : Int) (t : ByteArray) (K D C : Int) (ht : t.size ≤ maxLen) (hr : Reads w (.slice ao l.length cap) l) :
    Calls Tryd.prog 6 #[.agg #[.int .i64 k, .bool y, .bool n, .slice ao l.length cap, .int .i64 sc, .int .i64 d, .int .i64 mo, .int .i64 da, .string t], .agg #[.int .i64 K, .int .i64 D, .int .i64 C]] w fun e w' => e = .returned (.bool (fitsB k y n l sc d mo da t K D C)) ∧ Below w.heap.size w w' := by
  have B0 : Below w.heap.size w ((w.alloc (.cells #[.int .i64 k, .bool y, .bool n, .slice ao l.length cap, .int .i64 sc, .int .i64 d, .int .i64 mo, .int .i64 da, .string t] 40)).alloc (.cells #[.int .i64 K, .int .i64 D, .int .i64 C] 42)) := ((Below.refl _ _).alloc (Nat.le_refl _) _).alloc (by simp) _
  have CV := fun W (b : Below w.heap.size w W) => specL4Ok_any W k y n ao l cap sc d mo da t ht (hr.later b)
  have CT := fun W => specL4TypeOk_any W K D C
  have V0 := (V9.new w (.int .i64 k) (.bool y) (.bool n) (.slice ao l.length cap) (.int .i64 sc) (.int .i64 d) (.int .i64 mo) (.int .i64 da) (.string t) 40).later ((Below.refl _ _).alloc (Nat.le_refl _) (.cells #[.int .i64 K, .int .i64 D, .int .i64 C] 42))
  have T0 := T3.new (w.alloc (.cells #[.int .i64 k, .bool y, .bool n, .slice ao l.length cap, .int .i64 sc, .int .i64 d, .int .i64 mo, .int .i64 da, .string t] 40)) K D C
  rw [World.size_alloc] at T0
  unfold fitsB
  by_cases hv : valB k y n l sc d mo da t = true
  case neg =>
    have hv' : valB k y n l sc d mo da t = false := by simpa using hv
    rw [hv'] at CV ⊢
    have CV := hide CV
    clear hv hv' hr CT V0 T0
    go_enter Tryd.func6, Tryd.ntmps6
    go_wp2_with fail
    refine (unhide CV _ B0).mono ?_
    rintro e w1 ⟨rfl, b1⟩
    go_wp2
    go_ret
    exact ⟨rfl, B0.trans (b1.mono B0.size)⟩
  have hlim : k = 2 → Lim l ∧ l.length ≤ 1000 := fun e => by subst e; exact valB_lim hv
  rw [hv] at CV ⊢
  have CV := hide CV
  by_cases hi : TypeIs K D C
  case neg =>
    rw [decide_eq_false hi] at CT ⊢
    have CT := hide CT
    clear hv hr hlim hi
    go_enter Tryd.func6, Tryd.ntmps6
    go_wp2_with fail
    refine (unhide CV _ B0).mono ?_
    rintro e w1 ⟨rfl, b1⟩
    have B1 := B0.trans (b1.mono B0.size)
    obtain ⟨ac0, ac1, ac2, ac3, ac4, ac5, ac6, ac7, ac8, af0, af1, af2, af3, af4, af5, af6, af7, af8, al⟩ := V0.later b1
    obtain ⟨tc0, tc1, tc2, tl⟩ := T0.later b1
    clear V0 T0 B0 b1 CV
    go_wp2_with fail
    refine (unhide CT _).mono ?_
    rintro e w2 ⟨rfl, hw⟩
    have b2 : Below w1.heap.size w1 w2 := by subst hw; exact (Below.refl _ _).alloc (Nat.le_refl _) _
    clear hw
    go_wp2
    go_ret
    exact ⟨rfl, B1.trans (b2.mono B1.size)⟩
  have CF := fun W (b : Below w.heap.size w W) => specFits_any W k y n ao l cap sc d mo da t K D C (hr.later b) hi hlim
  rw [decide_eq_true hi] at CT ⊢
  have CT := hide CT
  generalize fitB k sc l K D C = g at *
  have CF := hide CF
  clear hv hr hlim hi
  go_enter Tryd.func6, Tryd.ntmps6
  go_wp2_with fail
  refine (unhide CV _ B0).mono ?_
  rintro e w1 ⟨rfl, b1⟩
  have B1 := B0.trans (b1.mono B0.size)
  have V1 := V0.later b1
  have T1 := T0.later b1
  obtain ⟨ac0, ac1, ac2, ac3, ac4, ac5, ac6, ac7, ac8, af0, af1, af2, af3, af4, af5, af6, af7, af8, al⟩ := id V1
  obtain ⟨tc0, tc1, tc2, tl⟩ := id T1
  clear V0 T0 B0 b1 CV
  go_wp2_with fail
  refine (unhide CT _).mono ?_
  rintro e w2 ⟨rfl, hw⟩
  have b2 : Below w1.heap.size w1 w2 := by subst hw; exact (Below.refl _ _).alloc (Nat.le_refl _) _
  clear hw ac0 ac1 ac2 ac3 ac4 ac5 ac6 ac7 ac8 af0 af1 af2 af3 af4 af5 af6 af7 af8 al tc0 tc1 tc2 tl CT
  have B2 := B1.trans (b2.mono B1.size)
  obtain ⟨ac0, ac1, ac2, ac3, ac4, ac5, ac6, ac7, ac8, af0, af1, af2, af3, af4, af5, af6, af7, af8, al⟩ := V1.later b2
  obtain ⟨tc0, tc1, tc2, tl⟩ := T1.later b2
  clear V1 T1 b2 B1
  go_wp2_with fail
  refine (unhide CF _ B2).mono ?_
  rintro e w3 ⟨rfl, b3⟩
  go_wp2
  go_ret
  exact ⟨rfl, B2.trans (b3.mono B2.size)⟩

end Go.Proofs.YtnegndajejhflaaDoor
