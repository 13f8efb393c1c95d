/- DayUntil of the program and of the specification. -/
import Derived.Test.YtieinmfmkimjjaaAddX
namespace Go.Proofs.Ytieinmfmkimjjaa
open Go.RowKit

/-- The last month from which the same day is no later than b. -/
def toN (a b : Int) : Nat := if dayIn (moN b) (dyN a) ≤ b then moN b else moN b - 1

theorem dayIn_gt (k : Nat) {d : Int} (h : 1 ≤ d) : ahead k < dayIn k d := by
  unfold dayIn; have := lastM_bounds k; omega
theorem dayIn_le (k : Nat) (d : Int) : dayIn k d ≤ ahead (k + 1) := by
  unfold dayIn; rw [ahead_succ]; omega
theorem dayIn_mono {d : Int} (h : 1 ≤ d) {j k : Nat} (hjk : j ≤ k) : dayIn j d ≤ dayIn k d := by
  by_cases e : j = k
  · subst e; exact Int.le_refl _
  · have h1 := dayIn_le j d
    have h2 := ahead_le (show j + 1 ≤ k by omega)
    have h3 := dayIn_gt k h
    omega
theorem dayIn_self {a : Int} (h1 : 1 ≤ a) (h2 : a ≤ 3652059) : dayIn (moN a) (dyN a) = a := by
  have := dyN_bounds h1 h2
  unfold dayIn
  rw [Int.min_eq_left this.2]
  unfold dyN; omega

theorem toN_is {a b : Int} (ha : IsDay a) (hb : IsDay b) (hab : a ≤ b) :
    moN a ≤ toN a b ∧ toN a b ≤ moN b ∧ dayIn (toN a b) (dyN a) ≤ b ∧ b < dayIn (toN a b + 1) (dyN a) := by
  have hd := (dyN_bounds ha.1 ha.2).1
  have a1 := moN_ahead ha.1 ha.2
  have b1 := moN_ahead hb.1 hb.2
  have b2 := moN_next hb.1 hb.2
  have hAB : moN a ≤ moN b := by
    apply Classical.byContradiction; intro h
    have := ahead_le (show moN b + 1 ≤ moN a by omega); omega
  unfold toN
  by_cases h : dayIn (moN b) (dyN a) ≤ b
  · rw [if_pos h]
    refine ⟨hAB, Nat.le_refl _, h, ?_⟩
    have := dayIn_gt (moN b + 1) hd
    omega
  · rw [if_neg h]
    have hne : moN a ≠ moN b := by
      intro e; rw [← e, dayIn_self ha.1 ha.2] at h; omega
    have h3 := dayIn_le (moN b - 1) (dyN a)
    have e : moN b - 1 + 1 = moN b := by omega
    rw [e] at h3 ⊢
    exact ⟨by omega, by omega, by omega, by omega⟩

theorem addR_lead {a b : Int} (ha : IsDay a) (hb : IsDay b) (hab : a ≤ b) {k : Nat} (_hk : k ≤ 120000) :
    (0 < addR a k 0 ∧ addR a k 0 ≤ b) ↔ moN a + k ≤ toN a b := by
  obtain ⟨t1, t2, t3, t4⟩ := toN_is ha hb hab
  have hd := dyN_bounds ha.1 ha.2
  have hl := lastM_bounds (moN a)
  have hB := moN_lt hb.1 hb.2
  unfold addR
  rw [show ((moN a : Int) + (k : Int)).toNat = moN a + k by omega]
  by_cases hm : MoIs ((moN a : Int) + k)
  · rw [if_pos hm]
    have hbd := dayIn_bounds (k := moN a + k) (d := dyN a) (by have := hm.2; omega) hd.1 (by omega)
    rw [if_pos (show IsDay (dayIn (moN a + k) (dyN a) + 0) from ⟨by omega, by omega⟩)]
    constructor
    · intro ⟨_, h⟩
      apply Classical.byContradiction; intro hc
      have := dayIn_mono hd.1 (show toN a b + 1 ≤ moN a + k by omega)
      omega
    · intro h
      have := dayIn_mono hd.1 h
      exact ⟨by omega, by omega⟩
  · rw [if_neg hm]
    constructor
    · intro h; omega
    · intro h; exact absurd (show MoIs ((moN a : Int) + k) from ⟨by omega, by omega⟩) hm

theorem addR_to {a b : Int} (ha : IsDay a) (hb : IsDay b) (hab : a ≤ b) {k : Nat} (h : moN a + k = toN a b) : addR a k 0 = dayIn (toN a b) (dyN a) := by
  obtain ⟨t1, t2, t3, t4⟩ := toN_is ha hb hab
  have hd := dyN_bounds ha.1 ha.2
  have hl := lastM_bounds (moN a)
  have hB := moN_lt hb.1 hb.2
  have hbd := dayIn_bounds (k := toN a b) (d := dyN a) (by omega) hd.1 (by omega)
  unfold addR
  rw [show ((moN a : Int) + (k : Int)).toNat = toN a b by omega, if_pos (show MoIs ((moN a : Int) + k) from ⟨by omega, by omega⟩), if_pos (show IsDay (dayIn (toN a b) (dyN a) + 0) from ⟨by omega, by omega⟩)]
  omega

@[reducible] def UntIs (a b : Int) : Prop := IsDay a ∧ IsDay b ∧ a ≤ b
def untM (a b : Int) : Int := if UntIs a b then (toN a b : Int) - moN a else 0
def untD (a b : Int) : Int := if UntIs a b then b - dayIn (toN a b) (dyN a) else 0

theorem specDayUntil_any (w : World) (a b : Int) : Calls Try.prog 28 #[.int .i64 a, .int .i64 b] w fun e w' => e = .returned (.tuple #[.agg #[.int .i64 (untM a b), .int .i64 (untD a b)], .bool (decide (UntIs a b))]) ∧ Below w.heap.size w w' := by
  have C0 := fun W => specIs_any W a
  have C1 := fun W => specIs_any W b
  by_cases ha : IsDay a
  · rw [decide_eq_true (show 1 ≤ a ∧ a ≤ 3652059 from ha)] at C0
    by_cases hb : IsDay b
    · rw [decide_eq_true (show 1 ≤ b ∧ b ≤ 3652059 from hb)] at C1
      by_cases hab : a ≤ b
      · have hu : UntIs a b := ⟨ha, hb, hab⟩
        rw [decide_eq_true hu, show untM a b = (toN a b : Int) - moN a from if_pos hu, show untD a b = b - dayIn (toN a b) (dyN a) from if_pos hu]
        have t : decide (b < a) = false := by simp; omega
        have hT := toN_is ha hb hab
        have hA := moN_lt ha.1 ha.2
        have hB := moN_lt hb.1 hb.2
        have CA := fun W (k : Nat) (hk : k ≤ 120000) => specAdd_any W a k 0 ha.1 ha.2 (by omega) (by omega) (by omega) (by omega)
        have HL := hid (fun (k : Nat) (hk : k ≤ 120000) => addR_lead ha hb hab hk)
        have HE := hid (fun (k : Nat) => addR_to ha hb hab (k := k))
        have h1 : moN a ≤ toN a b := hT.1
        have h2 : toN a b < 119988 := by omega
        have hX := dayIn_bounds (k := toN a b) (d := dyN a) (by omega) (dyN_bounds ha.1 ha.2).1 (by have := dyN_bounds ha.1 ha.2; have := lastM_bounds (moN a); omega)
        obtain ⟨hX1, hX2⟩ := hX
        have hX3 : dayIn (toN a b) (dyN a) ≤ b := hT.2.2.1
        have hb2 := hb.2
        clear hT hu hA hB hab hb
        generalize dayIn (toN a b) (dyN a) = X at *
        generalize toN a b = Tn at *
        go_enter Try.func28, Try.ntmps28
        go_wp2_with fail
        refine (C0 _).mono ?_
        rintro e w1 ⟨rfl, rfl⟩
        go_wp2_with fail
        refine (C1 _).mono ?_
        rintro e w1 ⟨rfl, rfl⟩
        go_wp2
        clear C0 C1
        go_loop [6, 7] (fun p q => ∃ x y : Nat, x < y ∧ y ≤ 120000 ∧ moN a + x ≤ Tn ∧ Tn < moN a + y ∧ p = .int .i64 x ∧ q = .int .i64 y)
          (fun p q => (intOf q - intOf p).toNat)
        case atStart => exact ⟨0, 120000, by omega, by omega, by omega, by omega, rfl, rfl⟩
        case round =>
          obtain ⟨x, y, hxy, hy, hx1, hy1, rfl, rfl⟩ := hrel
          by_cases hlt : 1 < (y : Int) - (x : Int)
          · obtain ⟨z, hz⟩ : ∃ z : Nat, z = (x + y) / 2 := ⟨_, rfl⟩
            have ez : ((x : Int) + (y : Int)) / 2 = (z : Int) := by omega
            have C := CA (w.alloc (.cells #[.int .i64 0, .int .i64 0] 36)) z (by omega)
            clear hz
            have hl := unhid HL z (by omega)
            generalize addR a z 0 = r at *
            by_cases hg : moN a + z ≤ Tn
            · have t1 : decide (0 < r) = true := by simpa using (hl.2 hg).1
              have t2 : decide (r ≤ b) = true := by simpa using (hl.2 hg).2
              clear hl
              go_wp2_with fail
              refine C.mono ?_
              rintro e w1 ⟨rfl, rfl⟩
              go_wp2
              go_round
              case rel => exact ⟨z, y, by omega, hy, hg, hy1, by go_num, rfl⟩
              case measure => simp [intOf]; omega
            · by_cases hp : 0 < r
              · have t1 : decide (0 < r) = true := by simpa using hp
                have t2 : decide (r ≤ b) = false := by
                  rw [decide_eq_false_iff_not]; exact fun e => hg (hl.1 ⟨hp, e⟩)
                clear hl
                go_wp2_with fail
                refine C.mono ?_
                rintro e w1 ⟨rfl, rfl⟩
                go_wp2
                go_round
                case rel => exact ⟨x, z, by omega, by omega, hx1, by omega, rfl, by go_num⟩
                case measure => simp [intOf]; omega
              · have t1 : decide (0 < r) = false := by simpa using hp
                clear hl
                go_wp2_with fail
                refine C.mono ?_
                rintro e w1 ⟨rfl, rfl⟩
                go_wp2
                go_round
                case rel => exact ⟨x, z, by omega, by omega, hx1, by omega, rfl, by go_num⟩
                case measure => simp [intOf]; omega
          · have hxe : moN a + x = Tn := by omega
            have C := CA (w.alloc (.cells #[.int .i64 0, .int .i64 0] 36)) x (by omega)
            rw [unhid HE x hxe] at C
            have E1 := hid (show (Tn : Int) - moN a = x by omega)
            clear hxe
            go_wp2_with fail
            refine C.mono ?_
            rintro e w1 ⟨rfl, rfl⟩
            go_wp2
            rw [unhid E1]
            refine bodyPost_ret (v := .tuple #[.agg #[.int .i64 x, .int .i64 (b - X)], .bool true]) (by simp [results, Try.results28, go_sem]) rfl ⟨rfl, ?_⟩
            repeat (first | exact Below.refl _ _ | refine below_drewN ?_ _ | refine Below.drew ?_ | refine Below.setCell ?_ (by first | exact Nat.le_refl _ | (simp only [World.size_alloc]; omega)) _ | refine Below.alloc ?_ (by first | exact Nat.le_refl _ | (simp only [World.size_alloc]; omega)) _)
      · have hu : ¬ UntIs a b := fun e => hab e.2.2
        rw [decide_eq_false hu, show untM a b = 0 from if_neg hu, show untD a b = 0 from if_neg hu]
        have t : decide (b < a) = true := by simp; omega
        go_enter Try.func28, Try.ntmps28
        go_wp2_with fail
        refine (C0 _).mono ?_
        rintro e w1 ⟨rfl, rfl⟩
        go_wp2_with fail
        refine (C1 _).mono ?_
        rintro e w1 ⟨rfl, rfl⟩
        go_wp2
        refine bodyPost_ret (v := .tuple #[.agg #[.int .i64 0, .int .i64 0], .bool false]) (by simp [results, Try.results28, go_sem]) rfl ⟨rfl, ?_⟩
        repeat (first | exact Below.refl _ _ | refine below_drewN ?_ _ | refine Below.drew ?_ | refine Below.setCell ?_ (by first | exact Nat.le_refl _ | (simp only [World.size_alloc]; omega)) _ | refine Below.alloc ?_ (by first | exact Nat.le_refl _ | (simp only [World.size_alloc]; omega)) _)
    · have hu : ¬ UntIs a b := fun e => hb e.2.1
      rw [decide_eq_false (show ¬ (1 ≤ b ∧ b ≤ 3652059) from hb)] at C1
      rw [decide_eq_false hu, show untM a b = 0 from if_neg hu, show untD a b = 0 from if_neg hu]
      go_enter Try.func28, Try.ntmps28
      go_wp2_with fail
      refine (C0 _).mono ?_
      rintro e w1 ⟨rfl, rfl⟩
      go_wp2_with fail
      refine (C1 _).mono ?_
      rintro e w1 ⟨rfl, rfl⟩
      go_wp2
      refine bodyPost_ret (v := .tuple #[.agg #[.int .i64 0, .int .i64 0], .bool false]) (by simp [results, Try.results28, go_sem]) rfl ⟨rfl, ?_⟩
      repeat (first | exact Below.refl _ _ | refine below_drewN ?_ _ | refine Below.drew ?_ | refine Below.setCell ?_ (by first | exact Nat.le_refl _ | (simp only [World.size_alloc]; omega)) _ | refine Below.alloc ?_ (by first | exact Nat.le_refl _ | (simp only [World.size_alloc]; omega)) _)
  · have hu : ¬ UntIs a b := fun e => ha e.1
    rw [decide_eq_false (show ¬ (1 ≤ a ∧ a ≤ 3652059) from ha)] at C0
    rw [decide_eq_false hu, show untM a b = 0 from if_neg hu, show untD a b = 0 from if_neg hu]
    go_enter Try.func28, Try.ntmps28
    go_wp2_with fail
    refine (C0 _).mono ?_
    rintro e w1 ⟨rfl, rfl⟩
    go_wp2
    refine bodyPost_ret (v := .tuple #[.agg #[.int .i64 0, .int .i64 0], .bool false]) (by simp [results, Try.results28, go_sem]) rfl ⟨rfl, ?_⟩
    repeat (first | exact Below.refl _ _ | refine below_drewN ?_ _ | refine Below.drew ?_ | refine Below.setCell ?_ (by first | exact Nat.le_refl _ | (simp only [World.size_alloc]; omega)) _ | refine Below.alloc ?_ (by first | exact Nat.le_refl _ | (simp only [World.size_alloc]; omega)) _)

theorem implDayUntil_any (w : World) (a b : Int) : Calls Try.prog 27 #[.int .i64 a, .int .i64 b] w fun e w' => e = .returned (.tuple #[.agg #[.int .i64 (untM a b), .int .i64 (untD a b)], .bool (decide (UntIs a b))]) ∧ Below w.heap.size w w' := by
  have C0 := fun W => dayOk_any W a
  have C1 := fun W => dayOk_any W b
  by_cases ha : IsDay a
  · rw [decide_eq_true (show 1 ≤ a ∧ a ≤ 3652059 from ha)] at C0
    by_cases hb : IsDay b
    · rw [decide_eq_true (show 1 ≤ b ∧ b ≤ 3652059 from hb)] at C1
      by_cases hab : a ≤ b
      · have hu : UntIs a b := ⟨ha, hb, hab⟩
        rw [decide_eq_true hu, show untM a b = (toN a b : Int) - moN a from if_pos hu, show untD a b = b - dayIn (toN a b) (dyN a) from if_pos hu]
        have t : decide (b < a) = false := by simp; omega
        have hT := toN_is ha hb hab
        have hA := moN_lt ha.1 ha.2
        have hB := moN_lt hb.1 hb.2
        have hda := dyN_bounds ha.1 ha.2
        have hla := lastM_bounds (moN a)
        have a1 := moN_ahead ha.1 ha.2
        have a0 := ahead_nonneg (moN a)
        have ha2 := ha.2
        have hb2 := hb.2
        have CM1 := fun W => monthAt_any W a ha.1 ha.2
        have CM2 := fun W => monthAt_any W b hb.1 hb.2
        have C2 := fun W => ahead_any W (moN a) (by omega)
        have C3 := fun W => day_any W (moN b) (a - ahead (moN a)) (by omega) (by unfold dyN at hda; omega) (by unfold dyN at hda; omega)
        have C4 := fun W => day_any W (toN a b) (a - ahead (moN a)) (by omega) (by unfold dyN at hda; omega) (by unfold dyN at hda; omega)
        have HC4 := hid C4
        clear C4
        have hX := dayIn_bounds (k := toN a b) (d := dyN a) (by omega) hda.1 (by omega)
        obtain ⟨hX1, hX2⟩ := hX
        have h1 : moN a ≤ toN a b := hT.1
        have h2 : toN a b ≤ moN b := hT.2.1
        have hX3 : dayIn (toN a b) (dyN a) ≤ b := hT.2.2.1
        unfold dyN at hX1 hX2 hX3 hda
        have HD := hid (show a - ahead (moN a) = dyN a from rfl)
        clear hu hT
        by_cases hg : dayIn (moN b) (dyN a) ≤ b
        · have hto : toN a b = moN b := if_pos hg
          rw [hto] at HC4 hX1 hX2 hX3 h1 ⊢
          rw [← unhid HD] at hg ⊢
          have tg : decide (b < dayIn (moN b) (a - ahead (moN a))) = false := by simp; omega
          clear hto h2 hab
          generalize dayIn (moN b) (a - ahead (moN a)) = X at *
          generalize ahead (moN a) = A0 at *
          generalize moN a = A at *
          generalize moN b = B at *
          go_enter Try.func27, Try.ntmps27
          go_wp2_with fail
          refine (C0 _).mono ?_
          rintro e w1 ⟨rfl, rfl⟩
          go_wp2_with fail
          refine (C1 _).mono ?_
          rintro e w1 ⟨rfl, rfl⟩
          go_wp2_with fail
          refine (CM1 _).mono ?_
          rintro e w1 ⟨rfl, rfl⟩
          go_wp2_with fail
          refine (CM2 _).mono ?_
          rintro e w1 ⟨rfl, rfl⟩
          go_wp2_with fail
          refine (C2 _).mono ?_
          rintro e w1 ⟨rfl, rfl⟩
          go_wp2_with fail
          refine (C3 _).mono ?_
          rintro e w1 ⟨rfl, rfl⟩
          go_wp2_with fail
          refine (C3 _).mono ?_
          rintro e w1 ⟨rfl, rfl⟩
          go_wp2
          refine bodyPost_ret (v := .tuple #[.agg #[.int .i64 ((B : Int) - A), .int .i64 (b - X)], .bool true]) (by simp [results, Try.results27, go_sem]) rfl ⟨rfl, ?_⟩
          repeat (first | exact Below.refl _ _ | refine below_drewN ?_ _ | refine Below.drew ?_ | refine Below.setCell ?_ (by first | exact Nat.le_refl _ | (simp only [World.size_alloc]; omega)) _ | refine Below.alloc ?_ (by first | exact Nat.le_refl _ | (simp only [World.size_alloc]; omega)) _)
        · have hto : toN a b = moN b - 1 := if_neg hg
          rw [← unhid HD] at hg
          have tg : decide (b < dayIn (moN b) (a - ahead (moN a))) = true := by simp; omega
          have hne : 1 ≤ moN b := by
            apply Classical.byContradiction; intro hc
            have e0 : moN b = 0 := by omega
            have e1 : moN a = moN b := by omega
            rw [← e1] at hg
            have := dayIn_self ha.1 ha.2
            rw [← unhid HD] at this
            omega
          have ecast : ((toN a b : Nat) : Int) = (moN b : Int) - 1 := by omega
          have C4 := unhid HC4
          rw [ecast] at C4 ⊢
          rw [← unhid HD]
          clear hto h2 hab hg HC4
          generalize dayIn (moN b) (a - ahead (moN a)) = Z at *
          generalize dayIn (toN a b) (a - ahead (moN a)) = X at *
          generalize toN a b = Tn at *
          generalize ahead (moN a) = A0 at *
          generalize moN a = A at *
          generalize moN b = B at *
          have HE := hid ecast
          have h1' : (A : Int) ≤ (B : Int) - 1 := by omega
          clear ecast h1
          go_enter Try.func27, Try.ntmps27
          go_wp2_with fail
          refine (C0 _).mono ?_
          rintro e w1 ⟨rfl, rfl⟩
          go_wp2_with fail
          refine (C1 _).mono ?_
          rintro e w1 ⟨rfl, rfl⟩
          go_wp2_with fail
          refine (CM1 _).mono ?_
          rintro e w1 ⟨rfl, rfl⟩
          go_wp2_with fail
          refine (CM2 _).mono ?_
          rintro e w1 ⟨rfl, rfl⟩
          go_wp2_with fail
          refine (C2 _).mono ?_
          rintro e w1 ⟨rfl, rfl⟩
          go_wp2_with fail
          refine (C3 _).mono ?_
          rintro e w1 ⟨rfl, rfl⟩
          go_wp2_with fail
          refine (C4 _).mono ?_
          rintro e w1 ⟨rfl, rfl⟩
          go_wp2
          refine bodyPost_ret (v := .tuple #[.agg #[.int .i64 ((B : Int) - 1 - A), .int .i64 (b - X)], .bool true]) (by simp [results, Try.results27, go_sem]) rfl ⟨rfl, ?_⟩
          repeat (first | exact Below.refl _ _ | refine below_drewN ?_ _ | refine Below.drew ?_ | refine Below.setCell ?_ (by first | exact Nat.le_refl _ | (simp only [World.size_alloc]; omega)) _ | refine Below.alloc ?_ (by first | exact Nat.le_refl _ | (simp only [World.size_alloc]; omega)) _)
      · have hu : ¬ UntIs a b := fun e => hab e.2.2
        rw [decide_eq_false hu, show untM a b = 0 from if_neg hu, show untD a b = 0 from if_neg hu]
        have t : decide (b < a) = true := by simp; omega
        go_enter Try.func27, Try.ntmps27
        go_wp2_with fail
        refine (C0 _).mono ?_
        rintro e w1 ⟨rfl, rfl⟩
        go_wp2_with fail
        refine (C1 _).mono ?_
        rintro e w1 ⟨rfl, rfl⟩
        go_wp2
        refine bodyPost_ret (v := .tuple #[.agg #[.int .i64 0, .int .i64 0], .bool false]) (by simp [results, Try.results27, go_sem]) rfl ⟨rfl, ?_⟩
        repeat (first | exact Below.refl _ _ | refine below_drewN ?_ _ | refine Below.drew ?_ | refine Below.setCell ?_ (by first | exact Nat.le_refl _ | (simp only [World.size_alloc]; omega)) _ | refine Below.alloc ?_ (by first | exact Nat.le_refl _ | (simp only [World.size_alloc]; omega)) _)
    · have hu : ¬ UntIs a b := fun e => hb e.2.1
      rw [decide_eq_false (show ¬ (1 ≤ b ∧ b ≤ 3652059) from hb)] at C1
      rw [decide_eq_false hu, show untM a b = 0 from if_neg hu, show untD a b = 0 from if_neg hu]
      go_enter Try.func27, Try.ntmps27
      go_wp2_with fail
      refine (C0 _).mono ?_
      rintro e w1 ⟨rfl, rfl⟩
      go_wp2_with fail
      refine (C1 _).mono ?_
      rintro e w1 ⟨rfl, rfl⟩
      go_wp2
      refine bodyPost_ret (v := .tuple #[.agg #[.int .i64 0, .int .i64 0], .bool false]) (by simp [results, Try.results27, go_sem]) rfl ⟨rfl, ?_⟩
      repeat (first | exact Below.refl _ _ | refine below_drewN ?_ _ | refine Below.drew ?_ | refine Below.setCell ?_ (by first | exact Nat.le_refl _ | (simp only [World.size_alloc]; omega)) _ | refine Below.alloc ?_ (by first | exact Nat.le_refl _ | (simp only [World.size_alloc]; omega)) _)
  · have hu : ¬ UntIs a b := fun e => ha e.1
    rw [decide_eq_false (show ¬ (1 ≤ a ∧ a ≤ 3652059) from ha)] at C0
    rw [decide_eq_false hu, show untM a b = 0 from if_neg hu, show untD a b = 0 from if_neg hu]
    go_enter Try.func27, Try.ntmps27
    go_wp2_with fail
    refine (C0 _).mono ?_
    rintro e w1 ⟨rfl, rfl⟩
    go_wp2
    refine bodyPost_ret (v := .tuple #[.agg #[.int .i64 0, .int .i64 0], .bool false]) (by simp [results, Try.results27, go_sem]) rfl ⟨rfl, ?_⟩
    repeat (first | exact Below.refl _ _ | refine below_drewN ?_ _ | refine Below.drew ?_ | refine Below.setCell ?_ (by first | exact Nat.le_refl _ | (simp only [World.size_alloc]; omega)) _ | refine Below.alloc ?_ (by first | exact Nat.le_refl _ | (simp only [World.size_alloc]; omega)) _)


end Go.Proofs.Ytieinmfmkimjjaa
