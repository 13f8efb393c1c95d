/- TypePut of the program and of the specification. -/
import Derived.Test.YtnfalniijmccjaaDoorTypK0
import Derived.Test.YtnfalniijmccjaaDoorTab
import Derived.Deep.RegionHeld3
namespace Go.Proofs.YtnfalniijmccjaaDoor
open Go.RowKit

/-- The text of a type of numbers. -/
def numT (d s : Int) : ByteArray := ⟨#[110, 117, 109, 40]⟩ ++ itxt d ++ ⟨#[44]⟩ ++ itxt s ++ ⟨#[41]⟩

theorem kindNames_any (w : World) : Calls Tryd.prog 56 #[] w fun e w' => e = .returned (.slice (some ⟨w.heap.size, 0, none⟩) 6 6) ∧
    w' = w.alloc (.cells #[.string ⟨#[]⟩, .string ⟨#[98, 111, 111, 108]⟩, .string ⟨#[110, 117, 109]⟩, .string ⟨#[100, 97, 121]⟩, .string ⟨#[115, 112, 97, 110]⟩, .string ⟨#[116, 101, 120, 116]⟩] 9) := by
  go_enter Tryd.func56, Tryd.ntmps56
  go_wp2
  go_ret
  exact ⟨rfl, rfl⟩

theorem implTypePut_1 (w : World) :
    Calls Tryd.prog 25 #[.agg #[.int .i64 1, .int .i64 0, .int .i64 0]] w fun e w' => e = .returned (.string ⟨#[98, 111, 111, 108]⟩) ∧ Below w.heap.size w w' := by
  have CO := fun W => implTypeOk_any W 1 0 0
  rw [decide_eq_true (show TypeIs 1 0 0 by decide)] at CO
  go_enter Tryd.func25, Tryd.ntmps25
  go_wp2_with fail
  refine (CO _).mono ?_
  rintro e w1 ⟨rfl, rfl⟩
  go_wp2_with fail
  go_region_with (go_at_call 56; refine (kindNames_any _).mono ?_; rintro e w1 ⟨rfl, rfl⟩)
  all_goals
    go_wp2
    go_ret
    refine ⟨rfl, ?_⟩
    repeat (first | exact Below.refl _ _ | refine Below.drew ?_ | refine Below.alloc ?_ (by first | exact Nat.le_refl _ | (simp only [World.size_alloc]; omega) | (simp; omega)) _)

theorem specTypePut_1 (w : World) :
    Calls Tryd.prog 27 #[.agg #[.int .i64 1, .int .i64 0, .int .i64 0]] w fun e w' => e = .returned (.string ⟨#[98, 111, 111, 108]⟩) ∧ Below w.heap.size w w' := by
  have CO := fun W => specL4TypeOk_any W 1 0 0
  rw [decide_eq_true (show TypeIs 1 0 0 by decide)] at CO
  have C : ∀ W : World, Calls Tryd.prog 59 #[.agg #[.int .i64 1, .int .i64 0, .int .i64 0]] W fun e w' => e = .returned (.string ⟨#[98, 111, 111, 108]⟩) ∧ Below W.heap.size W w' := by
    intro W
    go_enter Tryd.func59, Tryd.ntmps59
    go_wp2
    go_ret
    exact ⟨rfl, (Below.refl _ _).alloc (Nat.le_refl _) _⟩
  have C := hide C
  go_enter Tryd.func27, Tryd.ntmps27
  go_wp2_with fail
  refine (CO _).mono ?_
  rintro e w1 ⟨rfl, rfl⟩
  go_wp2_with fail
  refine (unhide C _).mono ?_
  rintro e w2 ⟨rfl, b2⟩
  go_wp2
  go_ret
  exact ⟨rfl, (((Below.refl _ _).alloc (Nat.le_refl _) _).alloc (by simp) _).trans (b2.mono (by simp; omega))⟩

theorem implTypePut_3 (w : World) :
    Calls Tryd.prog 25 #[.agg #[.int .i64 3, .int .i64 0, .int .i64 0]] w fun e w' => e = .returned (.string ⟨#[100, 97, 121]⟩) ∧ Below w.heap.size w w' := by
  have CO := fun W => implTypeOk_any W 3 0 0
  rw [decide_eq_true (show TypeIs 3 0 0 by decide)] at CO
  go_enter Tryd.func25, Tryd.ntmps25
  go_wp2_with fail
  refine (CO _).mono ?_
  rintro e w1 ⟨rfl, rfl⟩
  go_wp2_with fail
  go_region_with (go_at_call 56; refine (kindNames_any _).mono ?_; rintro e w1 ⟨rfl, rfl⟩)
  all_goals
    go_wp2
    go_ret
    refine ⟨rfl, ?_⟩
    repeat (first | exact Below.refl _ _ | refine Below.drew ?_ | refine Below.alloc ?_ (by first | exact Nat.le_refl _ | (simp only [World.size_alloc]; omega) | (simp; omega)) _)

theorem specTypePut_3 (w : World) :
    Calls Tryd.prog 27 #[.agg #[.int .i64 3, .int .i64 0, .int .i64 0]] w fun e w' => e = .returned (.string ⟨#[100, 97, 121]⟩) ∧ Below w.heap.size w w' := by
  have CO := fun W => specL4TypeOk_any W 3 0 0
  rw [decide_eq_true (show TypeIs 3 0 0 by decide)] at CO
  have C : ∀ W : World, Calls Tryd.prog 59 #[.agg #[.int .i64 3, .int .i64 0, .int .i64 0]] W fun e w' => e = .returned (.string ⟨#[100, 97, 121]⟩) ∧ Below W.heap.size W w' := by
    intro W
    go_enter Tryd.func59, Tryd.ntmps59
    go_wp2
    go_ret
    exact ⟨rfl, (Below.refl _ _).alloc (Nat.le_refl _) _⟩
  have C := hide C
  go_enter Tryd.func27, Tryd.ntmps27
  go_wp2_with fail
  refine (CO _).mono ?_
  rintro e w1 ⟨rfl, rfl⟩
  go_wp2_with fail
  refine (unhide C _).mono ?_
  rintro e w2 ⟨rfl, b2⟩
  go_wp2
  go_ret
  exact ⟨rfl, (((Below.refl _ _).alloc (Nat.le_refl _) _).alloc (by simp) _).trans (b2.mono (by simp; omega))⟩

theorem implTypePut_4 (w : World) :
    Calls Tryd.prog 25 #[.agg #[.int .i64 4, .int .i64 0, .int .i64 0]] w fun e w' => e = .returned (.string ⟨#[115, 112, 97, 110]⟩) ∧ Below w.heap.size w w' := by
  have CO := fun W => implTypeOk_any W 4 0 0
  rw [decide_eq_true (show TypeIs 4 0 0 by decide)] at CO
  go_enter Tryd.func25, Tryd.ntmps25
  go_wp2_with fail
  refine (CO _).mono ?_
  rintro e w1 ⟨rfl, rfl⟩
  go_wp2_with fail
  go_region_with (go_at_call 56; refine (kindNames_any _).mono ?_; rintro e w1 ⟨rfl, rfl⟩)
  all_goals
    go_wp2
    go_ret
    refine ⟨rfl, ?_⟩
    repeat (first | exact Below.refl _ _ | refine Below.drew ?_ | refine Below.alloc ?_ (by first | exact Nat.le_refl _ | (simp only [World.size_alloc]; omega) | (simp; omega)) _)

theorem specTypePut_4 (w : World) :
    Calls Tryd.prog 27 #[.agg #[.int .i64 4, .int .i64 0, .int .i64 0]] w fun e w' => e = .returned (.string ⟨#[115, 112, 97, 110]⟩) ∧ Below w.heap.size w w' := by
  have CO := fun W => specL4TypeOk_any W 4 0 0
  rw [decide_eq_true (show TypeIs 4 0 0 by decide)] at CO
  have C : ∀ W : World, Calls Tryd.prog 59 #[.agg #[.int .i64 4, .int .i64 0, .int .i64 0]] W fun e w' => e = .returned (.string ⟨#[115, 112, 97, 110]⟩) ∧ Below W.heap.size W w' := by
    intro W
    go_enter Tryd.func59, Tryd.ntmps59
    go_wp2
    go_ret
    exact ⟨rfl, (Below.refl _ _).alloc (Nat.le_refl _) _⟩
  have C := hide C
  go_enter Tryd.func27, Tryd.ntmps27
  go_wp2_with fail
  refine (CO _).mono ?_
  rintro e w1 ⟨rfl, rfl⟩
  go_wp2_with fail
  refine (unhide C _).mono ?_
  rintro e w2 ⟨rfl, b2⟩
  go_wp2
  go_ret
  exact ⟨rfl, (((Below.refl _ _).alloc (Nat.le_refl _) _).alloc (by simp) _).trans (b2.mono (by simp; omega))⟩

theorem implTypePut_5 (w : World) :
    Calls Tryd.prog 25 #[.agg #[.int .i64 5, .int .i64 0, .int .i64 0]] w fun e w' => e = .returned (.string ⟨#[116, 101, 120, 116]⟩) ∧ Below w.heap.size w w' := by
  have CO := fun W => implTypeOk_any W 5 0 0
  rw [decide_eq_true (show TypeIs 5 0 0 by decide)] at CO
  go_enter Tryd.func25, Tryd.ntmps25
  go_wp2_with fail
  refine (CO _).mono ?_
  rintro e w1 ⟨rfl, rfl⟩
  go_wp2_with fail
  go_region_with (go_at_call 56; refine (kindNames_any _).mono ?_; rintro e w1 ⟨rfl, rfl⟩)
  all_goals
    go_wp2
    go_ret
    refine ⟨rfl, ?_⟩
    repeat (first | exact Below.refl _ _ | refine Below.drew ?_ | refine Below.alloc ?_ (by first | exact Nat.le_refl _ | (simp only [World.size_alloc]; omega) | (simp; omega)) _)

theorem specTypePut_5 (w : World) :
    Calls Tryd.prog 27 #[.agg #[.int .i64 5, .int .i64 0, .int .i64 0]] w fun e w' => e = .returned (.string ⟨#[116, 101, 120, 116]⟩) ∧ Below w.heap.size w w' := by
  have CO := fun W => specL4TypeOk_any W 5 0 0
  rw [decide_eq_true (show TypeIs 5 0 0 by decide)] at CO
  have C : ∀ W : World, Calls Tryd.prog 59 #[.agg #[.int .i64 5, .int .i64 0, .int .i64 0]] W fun e w' => e = .returned (.string ⟨#[116, 101, 120, 116]⟩) ∧ Below W.heap.size W w' := by
    intro W
    go_enter Tryd.func59, Tryd.ntmps59
    go_wp2
    go_ret
    exact ⟨rfl, (Below.refl _ _).alloc (Nat.le_refl _) _⟩
  have C := hide C
  go_enter Tryd.func27, Tryd.ntmps27
  go_wp2_with fail
  refine (CO _).mono ?_
  rintro e w1 ⟨rfl, rfl⟩
  go_wp2_with fail
  refine (unhide C _).mono ?_
  rintro e w2 ⟨rfl, b2⟩
  go_wp2
  go_ret
  exact ⟨rfl, (((Below.refl _ _).alloc (Nat.le_refl _) _).alloc (by simp) _).trans (b2.mono (by simp; omega))⟩

theorem l4TypePut_2 (w : World) (d s : Int) (hd : -9223372036854775807 ≤ d ∧ d ≤ 9223372036854775807) (hs : -9223372036854775807 ≤ s ∧ s ≤ 9223372036854775807) :
    Calls Tryd.prog 59 #[.agg #[.int .i64 2, .int .i64 d, .int .i64 s]] w fun e w' => e = .returned (.string (numT d s)) ∧ Below w.heap.size w w' := by
  have C1 := hide (fun W => l1Dec_any W d hd.1 hd.2)
  have C2 := hide (fun W => l1Dec_any W s hs.1 hs.2)
  have s1 := itxt_size (n := d) (by omega) (by omega)
  have s2 := itxt_size (n := s) (by omega) (by omega)
  clear hs hd
  go_enter Tryd.func59, Tryd.ntmps59
  go_wp2_with fail
  have c0 : (w.alloc (.cells #[.int .i64 2, .int .i64 d, .int .i64 s] 38)).cell? ⟨w.heap.size, 1, none⟩ = some (.int .i64 d) := by go_simp
  have c1 : (w.alloc (.cells #[.int .i64 2, .int .i64 d, .int .i64 s] 38)).cell? ⟨w.heap.size, 2, none⟩ = some (.int .i64 s) := by go_simp
  have B0 : Below w.heap.size w (w.alloc (.cells #[.int .i64 2, .int .i64 d, .int .i64 s] 38)) := (Below.refl _ _).alloc (Nat.le_refl _) _
  have l0 : w.heap.size < (w.alloc (.cells #[.int .i64 2, .int .i64 d, .int .i64 s] 38)).heap.size := by simp
  generalize w.alloc (.cells #[.int .i64 2, .int .i64 d, .int .i64 s] 38) = W0 at *
  have Stab := hide (fun (w' : World) (h : Below W0.heap.size W0 w') => (⟨(h.cell (p := ⟨w.heap.size, 1, none⟩) l0).trans c0, (h.cell (p := ⟨w.heap.size, 2, none⟩) l0).trans c1⟩ : w'.cell? ⟨w.heap.size, 1, none⟩ = some (.int .i64 d) ∧ w'.cell? ⟨w.heap.size, 2, none⟩ = some (.int .i64 s)))
  have z1 : ¬ (9223372036854775807 < 4 + (itxt d).size) := by omega
  have z2 : ¬ (9223372036854775807 < 4 + (itxt d).size + 1) := by omega
  have z3 : ¬ (9223372036854775807 < 4 + (itxt d).size + 1 + (itxt s).size) := by omega
  have z4 : ¬ (9223372036854775807 < 4 + (itxt d).size + 1 + (itxt s).size + 1) := by omega
  go_region_held3 (fun w' => w'.cell? ⟨w.heap.size, 1, none⟩ = some (.int .i64 d) ∧ w'.cell? ⟨w.heap.size, 2, none⟩ = some (.int .i64 s))
    (first | exact unhide Stab _ (Below.refl _ _).drew | (refine unhide Stab _ ?_; assumption))
    (first
      | (go_at_call_of 85 (Value.int .i64 d); refine (unhide C1 _).mono ?_; rintro e w1 ⟨rfl, b1⟩; have BX : Below W0.heap.size W0 w1 := (Below.refl _ _).drew.trans b1)
      | (go_at_call_of 85 (Value.int .i64 s); refine (unhide C2 _).mono ?_; rintro e w2 ⟨rfl, b2⟩; have BY : Below W0.heap.size W0 w2 := BX.trans (b2.mono BX.size)))
  go_wp2
  go_ret
  exact ⟨rfl, B0.trans (BY.mono B0.size)⟩

theorem specTypePut_2 (w : World) (d s : Int) (h : TypeIs 2 d s) :
    Calls Tryd.prog 27 #[.agg #[.int .i64 2, .int .i64 d, .int .i64 s]] w fun e w' => e = .returned (.string (numT d s)) ∧ Below w.heap.size w w' := by
  have CO := fun W => specL4TypeOk_any W 2 d s
  rw [decide_eq_true h] at CO
  have h' : (1 ≤ d ∧ d ≤ 30) ∧ (0 ≤ s ∧ s ≤ 12) ∧ s ≤ d := by simpa [TypeIs] using h
  have C := hide (fun W => l4TypePut_2 W d s (by omega) (by omega))
  clear h h'
  go_enter Tryd.func27, Tryd.ntmps27
  go_wp2_with fail
  refine (CO _).mono ?_
  rintro e w1 ⟨rfl, rfl⟩
  go_wp2_with fail
  refine (unhide C _).mono ?_
  rintro e w2 ⟨rfl, b2⟩
  go_wp2
  go_ret
  exact ⟨rfl, (((Below.refl _ _).alloc (Nat.le_refl _) _).alloc (by simp) _).trans (b2.mono (by simp; omega))⟩

theorem implTypePut_2 (w : World) (d s : Int) (h : TypeIs 2 d s) (ht : Tab w) :
    Calls Tryd.prog 25 #[.agg #[.int .i64 2, .int .i64 d, .int .i64 s]] w fun e w' => e = .returned (.string (numT d s)) ∧ Below w.heap.size w w' := by
  have CO := fun W => implTypeOk_any W 2 d s
  rw [decide_eq_true h] at CO
  have h' : (1 ≤ d ∧ d ≤ 30) ∧ (0 ≤ s ∧ s ≤ 12) ∧ s ≤ d := by simpa [TypeIs] using h
  have C1 := hide (fun W (t : Tab W) => itoa_any W d (by omega) (by omega) t)
  have C2 := hide (fun W (t : Tab W) => itoa_any W s (by omega) (by omega) t)
  have s1 := itxt_size (n := d) (by omega) (by omega)
  have s2 := itxt_size (n := s) (by omega) (by omega)
  clear h h'
  go_enter Tryd.func25, Tryd.ntmps25
  go_wp2_with fail
  refine (CO _).mono ?_
  rintro e w1 ⟨rfl, rfl⟩
  go_wp2_with fail
  go_region_with (go_at_call 56; refine (kindNames_any _).mono ?_; rintro e w1 ⟨rfl, rfl⟩)
  all_goals
    go_wp2_with fail
    have c0 : ((((w.alloc (.cells #[.int .i64 2, .int .i64 d, .int .i64 s] 38)).alloc (.cells #[.int .i64 2, .int .i64 d, .int .i64 s] 38)).alloc (.cells #[.string ⟨#[]⟩, .string ⟨#[98, 111, 111, 108]⟩, .string ⟨#[110, 117, 109]⟩, .string ⟨#[100, 97, 121]⟩, .string ⟨#[115, 112, 97, 110]⟩, .string ⟨#[116, 101, 120, 116]⟩] 9)).drew).cell? ⟨w.heap.size, 1, none⟩ = some (.int .i64 d) := by go_simp
    have c1 : ((((w.alloc (.cells #[.int .i64 2, .int .i64 d, .int .i64 s] 38)).alloc (.cells #[.int .i64 2, .int .i64 d, .int .i64 s] 38)).alloc (.cells #[.string ⟨#[]⟩, .string ⟨#[98, 111, 111, 108]⟩, .string ⟨#[110, 117, 109]⟩, .string ⟨#[100, 97, 121]⟩, .string ⟨#[115, 112, 97, 110]⟩, .string ⟨#[116, 101, 120, 116]⟩] 9)).drew).cell? ⟨w.heap.size, 2, none⟩ = some (.int .i64 s) := by go_simp
    have B0 : Below w.heap.size w ((((w.alloc (.cells #[.int .i64 2, .int .i64 d, .int .i64 s] 38)).alloc (.cells #[.int .i64 2, .int .i64 d, .int .i64 s] 38)).alloc (.cells #[.string ⟨#[]⟩, .string ⟨#[98, 111, 111, 108]⟩, .string ⟨#[110, 117, 109]⟩, .string ⟨#[100, 97, 121]⟩, .string ⟨#[115, 112, 97, 110]⟩, .string ⟨#[116, 101, 120, 116]⟩] 9)).drew) := ((((Below.refl _ _).alloc (Nat.le_refl _) _).alloc (by simp) _).alloc (by simp; omega) _).drew
    have l0 : w.heap.size < ((((w.alloc (.cells #[.int .i64 2, .int .i64 d, .int .i64 s] 38)).alloc (.cells #[.int .i64 2, .int .i64 d, .int .i64 s] 38)).alloc (.cells #[.string ⟨#[]⟩, .string ⟨#[98, 111, 111, 108]⟩, .string ⟨#[110, 117, 109]⟩, .string ⟨#[100, 97, 121]⟩, .string ⟨#[115, 112, 97, 110]⟩, .string ⟨#[116, 101, 120, 116]⟩] 9)).drew).heap.size := by simp; omega
    have T0 := ht.later B0
    generalize ((((w.alloc (.cells #[.int .i64 2, .int .i64 d, .int .i64 s] 38)).alloc (.cells #[.int .i64 2, .int .i64 d, .int .i64 s] 38)).alloc (.cells #[.string ⟨#[]⟩, .string ⟨#[98, 111, 111, 108]⟩, .string ⟨#[110, 117, 109]⟩, .string ⟨#[100, 97, 121]⟩, .string ⟨#[115, 112, 97, 110]⟩, .string ⟨#[116, 101, 120, 116]⟩] 9)).drew) = W0 at *
    have Stab := hide (fun (w' : World) (h : Below W0.heap.size W0 w') => (⟨(h.cell (p := ⟨w.heap.size, 1, none⟩) l0).trans c0, (h.cell (p := ⟨w.heap.size, 2, none⟩) l0).trans c1⟩ : w'.cell? ⟨w.heap.size, 1, none⟩ = some (.int .i64 d) ∧ w'.cell? ⟨w.heap.size, 2, none⟩ = some (.int .i64 s)))
    have z1 : ¬ (9223372036854775807 < 4 + (itxt d).size) := by omega
    have z2 : ¬ (9223372036854775807 < 4 + (itxt d).size + 1) := by omega
    have z3 : ¬ (9223372036854775807 < 4 + (itxt d).size + 1 + (itxt s).size) := by omega
    have z4 : ¬ (9223372036854775807 < 4 + (itxt d).size + 1 + (itxt s).size + 1) := by omega
    go_region_held3 (fun w' => w'.cell? ⟨w.heap.size, 1, none⟩ = some (.int .i64 d) ∧ w'.cell? ⟨w.heap.size, 2, none⟩ = some (.int .i64 s))
      (first | exact unhide Stab _ (Below.refl _ _).drew | (refine unhide Stab _ ?_; assumption))
      (first
        | (go_at_call_of 48 (Value.int .i64 d); refine (unhide C1 _ ?_).mono ?_; exact T0.later (Below.refl _ _).drew; rintro e w1 ⟨rfl, b1⟩; have BX : Below W0.heap.size W0 w1 := (Below.refl _ _).drew.trans b1)
        | (go_at_call_of 48 (Value.int .i64 s); refine (unhide C2 _ ?_).mono ?_; exact T0.later BX; rintro e w2 ⟨rfl, b2⟩; have BY : Below W0.heap.size W0 w2 := BX.trans (b2.mono BX.size)))
    go_wp2
    go_ret
    exact ⟨rfl, B0.trans (BY.mono B0.size)⟩

theorem implTypePut_no (w : World) (k d s : Int) (h : ¬ TypeIs k d s) :
    Calls Tryd.prog 25 #[.agg #[.int .i64 k, .int .i64 d, .int .i64 s]] w fun e w' => e = .returned (.string ⟨#[]⟩) ∧ Below w.heap.size w w' := by
  have CO := fun W => implTypeOk_any W k d s
  rw [decide_eq_false h] at CO
  clear h
  go_enter Tryd.func25, Tryd.ntmps25
  go_wp2_with fail
  refine (CO _).mono ?_
  rintro e w1 ⟨rfl, rfl⟩
  go_wp2
  go_ret
  exact ⟨rfl, ((Below.refl _ _).alloc (Nat.le_refl _) _).alloc (by simp) _⟩

theorem specTypePut_no (w : World) (k d s : Int) (h : ¬ TypeIs k d s) :
    Calls Tryd.prog 27 #[.agg #[.int .i64 k, .int .i64 d, .int .i64 s]] w fun e w' => e = .returned (.string ⟨#[]⟩) ∧ Below w.heap.size w w' := by
  have CO := fun W => specL4TypeOk_any W k d s
  rw [decide_eq_false h] at CO
  clear h
  go_enter Tryd.func27, Tryd.ntmps27
  go_wp2_with fail
  refine (CO _).mono ?_
  rintro e w1 ⟨rfl, rfl⟩
  go_wp2
  go_ret
  exact ⟨rfl, ((Below.refl _ _).alloc (Nat.le_refl _) _).alloc (by simp) _⟩

/-- Both TypePut answer one text. -/
theorem typePut_one (k d s : Int) : ∃ T : ByteArray, (∀ W : World, Calls Tryd.prog 27 #[.agg #[.int .i64 k, .int .i64 d, .int .i64 s]] W fun e w' => e = .returned (.string T) ∧ Below W.heap.size W w') ∧ (∀ W : World, Tab W → Calls Tryd.prog 25 #[.agg #[.int .i64 k, .int .i64 d, .int .i64 s]] W fun e w' => e = .returned (.string T) ∧ Below W.heap.size W w') := by
  by_cases h : TypeIs k d s
  · by_cases hk : k = 2
    · subst hk
      exact ⟨numT d s, fun W => specTypePut_2 W d s h, fun W t => implTypePut_2 W d s h t⟩
    · have h' := h
      unfold TypeIs at h'
      rw [if_neg hk] at h'
      obtain ⟨⟨h1, h2⟩, rfl, rfl⟩ := h'
      have hc : k = 1 ∨ k = 3 ∨ k = 4 ∨ k = 5 := by omega
      clear h h1 h2 hk
      rcases hc with rfl | rfl | rfl | rfl
      · exact ⟨_, fun W => specTypePut_1 W, fun W _ => implTypePut_1 W⟩
      · exact ⟨_, fun W => specTypePut_3 W, fun W _ => implTypePut_3 W⟩
      · exact ⟨_, fun W => specTypePut_4 W, fun W _ => implTypePut_4 W⟩
      · exact ⟨_, fun W => specTypePut_5 W, fun W _ => implTypePut_5 W⟩
  · exact ⟨⟨#[]⟩, fun W => specTypePut_no W k d s h, fun W _ => implTypePut_no W k d s h⟩

end Go.Proofs.YtnfalniijmccjaaDoor
