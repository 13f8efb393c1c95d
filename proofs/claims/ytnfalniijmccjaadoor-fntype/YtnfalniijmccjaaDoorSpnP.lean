/- SpanPut of the program and of the specification. -/
import Derived.Test.YtnfalniijmccjaaDoorSpanK
import Derived.Test.YtnfalniijmccjaaDoorTab
import Derived.Deep.RegionHeld3
namespace Go.Proofs.YtnfalniijmccjaaDoor
open Go.RowKit

/-- The text of a span. -/
def spanT (m d : Int) : ByteArray := itxt m ++ ⟨#[109]⟩ ++ itxt d ++ ⟨#[100]⟩

theorem l3SpanPut_any (w : World) (m d : Int) (hm : -9223372036854775807 ≤ m ∧ m ≤ 9223372036854775807) (hd : -9223372036854775807 ≤ d ∧ d ≤ 9223372036854775807) :
    Calls Tryd.prog 52 #[.agg #[.int .i64 m, .int .i64 d]] w fun e w' => e = .returned (.string (spanT m d)) ∧ Below w.heap.size w w' := by
  have C1 := hide (fun W => l1Dec_any W m hm.1 hm.2)
  have C2 := hide (fun W => l1Dec_any W d hd.1 hd.2)
  have s1 := itxt_size (n := m) (by omega) (by omega)
  have s2 := itxt_size (n := d) (by omega) (by omega)
  clear hm hd
  go_enter Tryd.func52, Tryd.ntmps52
  go_wp2_with fail
  have c0 : (w.alloc (.cells #[.int .i64 m, .int .i64 d] 31)).cell? ⟨w.heap.size, 0, none⟩ = some (.int .i64 m) := by go_simp
  have c1 : (w.alloc (.cells #[.int .i64 m, .int .i64 d] 31)).cell? ⟨w.heap.size, 1, none⟩ = some (.int .i64 d) := by go_simp
  have B0 : Below w.heap.size w (w.alloc (.cells #[.int .i64 m, .int .i64 d] 31)) := (Below.refl _ _).alloc (Nat.le_refl _) _
  have l0 : w.heap.size < (w.alloc (.cells #[.int .i64 m, .int .i64 d] 31)).heap.size := by simp
  generalize w.alloc (.cells #[.int .i64 m, .int .i64 d] 31) = W0 at *
  have Stab := hide (fun (w' : World) (h : Below W0.heap.size W0 w') => (⟨(h.cell (p := ⟨w.heap.size, 0, none⟩) l0).trans c0, (h.cell (p := ⟨w.heap.size, 1, none⟩) l0).trans c1⟩ : w'.cell? ⟨w.heap.size, 0, none⟩ = some (.int .i64 m) ∧ w'.cell? ⟨w.heap.size, 1, none⟩ = some (.int .i64 d)))
  have z1 : ¬ (9223372036854775807 < (itxt m).size + 1) := by omega
  have z2 : ¬ (9223372036854775807 < (itxt m).size + 1 + (itxt d).size) := by omega
  have z3 : ¬ (9223372036854775807 < (itxt m).size + 1 + (itxt d).size + 1) := by omega
  go_region_held3 (fun w' => w'.cell? ⟨w.heap.size, 0, none⟩ = some (.int .i64 m) ∧ w'.cell? ⟨w.heap.size, 1, none⟩ = some (.int .i64 d))
    (first | exact unhide Stab _ (Below.refl _ _).drew | (refine unhide Stab _ ?_; assumption))
    (first
      | (go_at_call_of 85 (Value.int .i64 m); refine (unhide C1 _).mono ?_; rintro e w1 ⟨rfl, b1⟩; have BX : Below W0.heap.size W0 w1 := (Below.refl _ _).drew.trans b1)
      | (go_at_call_of 85 (Value.int .i64 d); refine (unhide C2 _).mono ?_; rintro e w2 ⟨rfl, b2⟩; have BY : Below W0.heap.size W0 w2 := BX.trans (b2.mono BX.size)))
  go_wp2
  go_ret
  exact ⟨rfl, B0.trans (BY.mono B0.size)⟩

theorem implSpanPut_yes (w : World) (m d : Int) (h : SpanIs m d) (ht : Tab w) :
    Calls Tryd.prog 17 #[.agg #[.int .i64 m, .int .i64 d]] w fun e w' => e = .returned (.string (spanT m d)) ∧ Below w.heap.size w w' := by
  have CO := fun W => implSpanOk_any W m d
  rw [decide_eq_true h] at CO
  obtain ⟨⟨h1, h2⟩, h3, h4⟩ := h
  have C1 := hide (fun W (t : Tab W) => itoa_any W m (by omega) (by omega) t)
  have C2 := hide (fun W (t : Tab W) => itoa_any W d (by omega) (by omega) t)
  have s1 := itxt_size (n := m) (by omega) (by omega)
  have s2 := itxt_size (n := d) (by omega) (by omega)
  clear h1 h2 h3 h4
  go_enter Tryd.func17, Tryd.ntmps17
  go_wp2_with fail
  refine (CO _).mono ?_
  rintro e w1 ⟨rfl, rfl⟩
  go_wp2_with fail
  have c0 : ((w.alloc (.cells #[.int .i64 m, .int .i64 d] 31)).alloc (.cells #[.int .i64 m, .int .i64 d] 31)).cell? ⟨w.heap.size, 0, none⟩ = some (.int .i64 m) := by go_simp
  have c1 : ((w.alloc (.cells #[.int .i64 m, .int .i64 d] 31)).alloc (.cells #[.int .i64 m, .int .i64 d] 31)).cell? ⟨w.heap.size, 1, none⟩ = some (.int .i64 d) := by go_simp
  have B0 : Below w.heap.size w ((w.alloc (.cells #[.int .i64 m, .int .i64 d] 31)).alloc (.cells #[.int .i64 m, .int .i64 d] 31)) := ((Below.refl _ _).alloc (Nat.le_refl _) _).alloc (by simp) _
  have l0 : w.heap.size < ((w.alloc (.cells #[.int .i64 m, .int .i64 d] 31)).alloc (.cells #[.int .i64 m, .int .i64 d] 31)).heap.size := by simp; omega
  have T0 := ht.later B0
  generalize (w.alloc (.cells #[.int .i64 m, .int .i64 d] 31)).alloc (.cells #[.int .i64 m, .int .i64 d] 31) = W0 at *
  have Stab := hide (fun (w' : World) (h : Below W0.heap.size W0 w') => (⟨(h.cell (p := ⟨w.heap.size, 0, none⟩) l0).trans c0, (h.cell (p := ⟨w.heap.size, 1, none⟩) l0).trans c1⟩ : w'.cell? ⟨w.heap.size, 0, none⟩ = some (.int .i64 m) ∧ w'.cell? ⟨w.heap.size, 1, none⟩ = some (.int .i64 d)))
  have z1 : ¬ (9223372036854775807 < (itxt m).size + 1) := by omega
  have z2 : ¬ (9223372036854775807 < (itxt m).size + 1 + (itxt d).size) := by omega
  have z3 : ¬ (9223372036854775807 < (itxt m).size + 1 + (itxt d).size + 1) := by omega
  go_region_held3 (fun w' => w'.cell? ⟨w.heap.size, 0, none⟩ = some (.int .i64 m) ∧ w'.cell? ⟨w.heap.size, 1, none⟩ = some (.int .i64 d))
    (first | exact unhide Stab _ (Below.refl _ _).drew | (refine unhide Stab _ ?_; assumption))
    (first
      | (go_at_call_of 48 (Value.int .i64 m); refine (unhide C1 _ ?_).mono ?_; exact T0.later (Below.refl _ _).drew; rintro e w1 ⟨rfl, b1⟩; have BX : Below W0.heap.size W0 w1 := (Below.refl _ _).drew.trans b1)
      | (go_at_call_of 48 (Value.int .i64 d); refine (unhide C2 _ ?_).mono ?_; exact T0.later BX; rintro e w2 ⟨rfl, b2⟩; have BY : Below W0.heap.size W0 w2 := BX.trans (b2.mono BX.size)))
  go_wp2
  go_ret
  exact ⟨rfl, B0.trans (BY.mono B0.size)⟩

theorem implSpanPut_no (w : World) (m d : Int) (h : ¬ SpanIs m d) :
    Calls Tryd.prog 17 #[.agg #[.int .i64 m, .int .i64 d]] w fun e w' => e = .returned (.string ⟨#[]⟩) ∧ Below w.heap.size w w' := by
  have CO := fun W => implSpanOk_any W m d
  rw [decide_eq_false h] at CO
  clear h
  go_enter Tryd.func17, Tryd.ntmps17
  go_wp2_with fail
  refine (CO _).mono ?_
  rintro e w1 ⟨rfl, rfl⟩
  go_wp2
  go_ret
  exact ⟨rfl, ((Below.refl _ _).alloc (Nat.le_refl _) _).alloc (by simp) _⟩

theorem specSpanPut_yes (w : World) (m d : Int) (h : SpanIs m d) :
    Calls Tryd.prog 19 #[.agg #[.int .i64 m, .int .i64 d]] w fun e w' => e = .returned (.string (spanT m d)) ∧ Below w.heap.size w w' := by
  have CO := fun W => specL3SpanOk_any W m d
  rw [decide_eq_true h] at CO
  have C := hide (fun W => l3SpanPut_any W m d (by have := h.1; omega) (by have := h.2; omega))
  clear h
  go_enter Tryd.func19, Tryd.ntmps19
  go_wp2_with fail
  refine (CO _).mono ?_
  rintro e w1 ⟨rfl, rfl⟩
  go_wp2_with fail
  refine (unhide C _).mono ?_
  rintro e w2 ⟨rfl, b2⟩
  go_wp2
  go_ret
  exact ⟨rfl, (((Below.refl _ _).alloc (Nat.le_refl _) _).alloc (by simp) _).trans (b2.mono (by simp; omega))⟩

theorem specSpanPut_no (w : World) (m d : Int) (h : ¬ SpanIs m d) :
    Calls Tryd.prog 19 #[.agg #[.int .i64 m, .int .i64 d]] w fun e w' => e = .returned (.string ⟨#[]⟩) ∧ Below w.heap.size w w' := by
  have CO := fun W => specL3SpanOk_any W m d
  rw [decide_eq_false h] at CO
  clear h
  go_enter Tryd.func19, Tryd.ntmps19
  go_wp2_with fail
  refine (CO _).mono ?_
  rintro e w1 ⟨rfl, rfl⟩
  go_wp2
  go_ret
  exact ⟨rfl, ((Below.refl _ _).alloc (Nat.le_refl _) _).alloc (by simp) _⟩

end Go.Proofs.YtnfalniijmccjaaDoor
