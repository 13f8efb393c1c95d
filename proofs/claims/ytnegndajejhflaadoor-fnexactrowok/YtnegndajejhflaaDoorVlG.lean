/- Whether a value is of a type: ValueFits of the program, by a contract. -/
import Derived.Test.YtnegndajejhflaaDoorVlF
namespace Go.Proofs.YtnegndajejhflaaDoor
open Go.RowKit
set_option maxRecDepth 100000
set_option linter.unusedSimpArgs false
set_option linter.unusedVariables false

set_option maxHeartbeats 4000000 in
theorem implValueFits_any (w : World) (k : Int) (y n : Bool) (ao : Option Addr) (l : List Int) (cap : Nat) (sc d mo da : Int) (t : ByteArray) (K D C : Int) (ht : t.size ≤ maxLen) (hr : Reads w (.slice ao l.length cap) l) (tt : Tab w) :
    Calls Tryd.prog 9 #[.agg #[.int .i64 k, .bool y, .bool n, .slice ao l.length cap, .int .i64 sc, .int .i64 d, .int .i64 mo, .int .i64 da, .string t], .agg #[.int .i64 K, .int .i64 D, .int .i64 C]] w fun e w' => e = .returned (.bool (fitsB k y n l sc d mo da t K D C)) ∧ Below w.heap.size w w' := by
  have B0 : Below w.heap.size w ((w.alloc (.cells #[.int .i64 k, .bool y, .bool n, .slice ao l.length cap, .int .i64 sc, .int .i64 d, .int .i64 mo, .int .i64 da, .string t] 40)).alloc (.cells #[.int .i64 K, .int .i64 D, .int .i64 C] 42)) := ((Below.refl _ _).alloc (Nat.le_refl _) _).alloc (by simp) _
  have CV := fun W (b : Below w.heap.size w W) => implValueOk_any W k y n ao l cap sc d mo da t ht (hr.later b) (tt.later b)
  have CT := fun W => implTypeOk_any W K D C
  have V0 := (V9.new w (.int .i64 k) (.bool y) (.bool n) (.slice ao l.length cap) (.int .i64 sc) (.int .i64 d) (.int .i64 mo) (.int .i64 da) (.string t) 40).later ((Below.refl _ _).alloc (Nat.le_refl _) (.cells #[.int .i64 K, .int .i64 D, .int .i64 C] 42))
  have T0 := T3.new (w.alloc (.cells #[.int .i64 k, .bool y, .bool n, .slice ao l.length cap, .int .i64 sc, .int .i64 d, .int .i64 mo, .int .i64 da, .string t] 40)) K D C
  rw [World.size_alloc] at T0
  unfold fitsB
  by_cases hv : valB k y n l sc d mo da t = true
  case neg =>
    have hv' : valB k y n l sc d mo da t = false := by simpa using hv
    rw [hv'] at CV ⊢
    have CV := hide CV
    clear hv hv' hr CT V0 T0
    go_enter Tryd.func9, Tryd.ntmps9
    go_wp2_with fail
    refine (unhide CV _ B0).mono ?_
    rintro e w1 ⟨rfl, b1⟩
    go_wp2
    go_ret
    exact ⟨rfl, B0.trans (b1.mono B0.size)⟩
  have hlim : k = 2 → Lim l ∧ l.length ≤ 1000 := fun e => by subst e; exact valB_lim hv
  have hkk : k = 0 ∨ k = 2 ∨ (k ≠ 0 ∧ k ≠ 2) := by omega
  rw [hv] at CV ⊢
  have CV := hide CV
  by_cases hi : TypeIs K D C
  case neg =>
    rw [decide_eq_false hi] at CT ⊢
    have CT := hide CT
    clear hv hr hlim hi
    go_enter Tryd.func9, Tryd.ntmps9
    go_wp2_with fail
    refine (unhide CV _ B0).mono ?_
    rintro e w1 ⟨rfl, b1⟩
    have B1 := B0.trans (b1.mono B0.size)
    obtain ⟨ac0, ac1, ac2, ac3, ac4, ac5, ac6, ac7, ac8, af0, af1, af2, af3, af4, af5, af6, af7, af8, al⟩ := V0.later b1
    obtain ⟨tc0, tc1, tc2, tl⟩ := T0.later b1
    clear V0 T0 B0 b1 CV
    go_wp2_with fail
    refine (unhide CT _).mono ?_
    rintro e w2 ⟨rfl, hw⟩
    have b2 : Below w1.heap.size w1 w2 := by subst hw; exact (Below.refl _ _).alloc (Nat.le_refl _) _
    clear hw
    go_wp2
    go_ret
    exact ⟨rfl, B1.trans (b2.mono B1.size)⟩
  rw [decide_eq_true hi] at CT ⊢
  have CT := hide CT
  obtain ⟨g, hg⟩ : ∃ g, g = fitB k sc l K D C := ⟨_, rfl⟩
  rw [← hg]
  have HG := hide hg
  have CF := hide (fun (h : k = 2) W (b : Below w.heap.size w W) => figuresOf_any W n (.slice ao l.length cap) l (hr.later b) (hlim h).1 (hlim h).2 (tt.later b))
  clear hv hr hlim hi hg
  go_enter Tryd.func9, Tryd.ntmps9
  go_wp2_with fail
  refine (unhide CV _ B0).mono ?_
  rintro e w1 ⟨rfl, b1⟩
  have B1 := B0.trans (b1.mono B0.size)
  have V1 := V0.later b1
  have T1 := T0.later b1
  obtain ⟨ac0, ac1, ac2, ac3, ac4, ac5, ac6, ac7, ac8, af0, af1, af2, af3, af4, af5, af6, af7, af8, al⟩ := id V1
  obtain ⟨tc0, tc1, tc2, tl⟩ := id T1
  clear V0 T0 B0 b1 CV
  go_wp2_with fail
  refine (unhide CT _).mono ?_
  rintro e w2 ⟨rfl, hw⟩
  have b2 : Below w1.heap.size w1 w2 := by subst hw; exact (Below.refl _ _).alloc (Nat.le_refl _) _
  clear hw ac0 ac1 ac2 ac3 ac4 ac5 ac6 ac7 ac8 af0 af1 af2 af3 af4 af5 af6 af7 af8 al tc0 tc1 tc2 tl CT
  have B2 := B1.trans (b2.mono B1.size)
  have V2 := V1.later b2
  have T2' := T1.later b2
  clear V1 T1 b2 B1
  rcases hkk with rfl | rfl | ⟨h0, h2⟩
  · have HV := hide (show g = true from (unhide HG).trans (by simp [fitB]))
    clear HG
    obtain ⟨ac0, ac1, ac2, ac3, ac4, ac5, ac6, ac7, ac8, af0, af1, af2, af3, af4, af5, af6, af7, af8, al⟩ := V2
    clear CF T2'
    go_wp2
    go_ret
    exact ⟨by rw [unhide HV]; rfl, B2⟩
  · by_cases hK : K = 2
    case neg =>
      have t1 : (K == 2) = false := by simpa using hK
      have HV := hide (show g = false from (unhide HG).trans (by simp [fitB, hK]))
      clear HG
      obtain ⟨ac0, ac1, ac2, ac3, ac4, ac5, ac6, ac7, ac8, af0, af1, af2, af3, af4, af5, af6, af7, af8, al⟩ := V2
      obtain ⟨tc0, tc1, tc2, tl⟩ := T2'
      clear CF hK
      go_wp2
      (try (go_quiet (fail)))
      go_wp2
      go_ret
      exact ⟨by rw [unhide HV]; rfl, by first | exact B2 | exact below_draws B2 _⟩
    subst hK
    by_cases hs : sc = C
    case neg =>
      have t1 : (sc == C) = false := by simpa using hs
      have HV := hide (show g = false from (unhide HG).trans (by simp [fitB, hs]))
      clear HG
      obtain ⟨ac0, ac1, ac2, ac3, ac4, ac5, ac6, ac7, ac8, af0, af1, af2, af3, af4, af5, af6, af7, af8, al⟩ := V2
      obtain ⟨tc0, tc1, tc2, tl⟩ := T2'
      clear CF hs
      go_wp2
      (try (go_quiet (fail)))
      go_wp2
      go_ret
      exact ⟨by rw [unhide HV]; rfl, by first | exact B2 | exact below_draws B2 _⟩
    subst hs
    have t1 : (sc == sc) = true := by simp
    have HV := hide (show g = decide (((txtL l).length : Int) ≤ D) from (unhide HG).trans (by simp [fitB]))
    clear HG
    have CG := hide (unhide CF rfl)
    clear CF
    generalize (txtL l).length = q at *
    have Stab := hide (fun (w' : World) (h : Below w2.heap.size w2 w') => (⟨(V2.later h).c2, (V2.later h).c3, (V2.later h).c4, (T2'.later h).c0, (T2'.later h).c1, (T2'.later h).c2⟩ : w'.cell? ⟨w.heap.size, 2, none⟩ = some (.bool n) ∧ w'.cell? ⟨w.heap.size, 3, none⟩ = some (.slice ao l.length cap) ∧ w'.cell? ⟨w.heap.size, 4, none⟩ = some (.int .i64 sc) ∧ w'.cell? ⟨w.heap.size + 1, 0, none⟩ = some (.int .i64 2) ∧ w'.cell? ⟨w.heap.size + 1, 1, none⟩ = some (.int .i64 D) ∧ w'.cell? ⟨w.heap.size + 1, 2, none⟩ = some (.int .i64 sc)))
    have BW : Below w2.heap.size w2 w2.drew := (Below.refl _ _).drew
    obtain ⟨ac0, ac1, ac2, ac3, ac4, ac5, ac6, ac7, ac8, af0, af1, af2, af3, af4, af5, af6, af7, af8, al⟩ := id V2
    go_wp2
    go_region_held3 (fun w' => w'.cell? ⟨w.heap.size, 2, none⟩ = some (.bool n) ∧ w'.cell? ⟨w.heap.size, 3, none⟩ = some (.slice ao l.length cap) ∧ w'.cell? ⟨w.heap.size, 4, none⟩ = some (.int .i64 sc) ∧ w'.cell? ⟨w.heap.size + 1, 0, none⟩ = some (.int .i64 2) ∧ w'.cell? ⟨w.heap.size + 1, 1, none⟩ = some (.int .i64 D) ∧ w'.cell? ⟨w.heap.size + 1, 2, none⟩ = some (.int .i64 sc))
      (first | exact unhide Stab _ (Below.refl _ _).drew | (refine unhide Stab _ ?_; assumption))
      (first | (go_at_call 27; refine (unhide CG _ B2.drew).mono ?_; rintro e w3 ⟨rfl, b3⟩; have BX : Below w2.heap.size w2 w3 := BW.trans b3))
    go_wp2
    go_ret
    exact ⟨by rw [unhide HV]; rfl, B2.trans (BX.mono B2.size)⟩
  · have t0 : (k == 0) = false := by simpa using h0
    have t2 : (k == 2) = false := by simpa using h2
    have HV := hide (show g = decide (k = K) from (unhide HG).trans (by
      unfold fitB
      rw [if_neg h0, if_neg h2]))
    clear HG
    obtain ⟨ac0, ac1, ac2, ac3, ac4, ac5, ac6, ac7, ac8, af0, af1, af2, af3, af4, af5, af6, af7, af8, al⟩ := V2
    obtain ⟨tc0, tc1, tc2, tl⟩ := T2'
    clear CF h0 h2
    by_cases hk : k = K
    · have t1 : (k == K) = true := by simpa using hk
      rw [decide_eq_true hk] at HV
      clear hk
      go_wp2
      (try (go_quiet (fail)))
      go_wp2
      go_ret
      exact ⟨by rw [unhide HV]; rfl, by first | exact B2 | exact below_draws B2 _⟩
    · have t1 : (k == K) = false := by simpa using hk
      rw [decide_eq_false hk] at HV
      clear hk
      go_wp2
      (try (go_quiet (fail)))
      go_wp2
      go_ret
      exact ⟨by rw [unhide HV]; rfl, by first | exact B2 | exact below_draws B2 _⟩

end Go.Proofs.YtnegndajejhflaaDoor
