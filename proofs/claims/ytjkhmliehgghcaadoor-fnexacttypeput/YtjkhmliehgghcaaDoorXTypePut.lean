/- The law FnExactTypePut: its walk. -/
import Derived.Test.YtjkhmliehgghcaaDoorTypP
namespace Go.Proofs.YtjkhmliehgghcaaDoor
open Go.RowKit

theorem xTypePut_walk (w : World) (k d s : Int) (ht : Tab w) :
    Calls Tryd.prog 8 #[.agg #[.int .i64 k, .int .i64 d, .int .i64 s]] w fun e w' => e = .returned (.bool true) ∧ Below w.heap.size w w' := by
  obtain ⟨T, CS, CI⟩ := typePut_one k d s
  have HS := hide CS
  have HI := hide CI
  clear CS CI
  have C0 := fun W => toType_any W k d s
  have B1 : Below w.heap.size w ((((w.alloc (.cells #[.int .i64 k, .int .i64 d, .int .i64 s] 55)).alloc (.cells #[.int .i64 k, .int .i64 d, .int .i64 s] 55)).alloc (.cells #[.int .i64 k, .int .i64 d, .int .i64 s] 57)).alloc (.cells #[.int .i64 k, .int .i64 d, .int .i64 s] 57)) := ((((Below.refl _ _).alloc (Nat.le_refl _) _).alloc (by simp) _).alloc (by simp; omega) _).alloc (by simp; omega) _
  go_enter Tryd.func8, Tryd.ntmps8
  go_wp2_with fail
  refine (C0 _).mono ?_
  rintro e w1 ⟨rfl, rfl⟩
  go_wp2_with fail
  refine (unhide HS _).mono ?_
  rintro e w2 ⟨rfl, b2⟩
  have B2 := B1.trans (b2.mono B1.size)
  have c0 : w2.cell? ⟨w.heap.size, 0, none⟩ = some (.int .i64 k) := (b2.cell (p := ⟨w.heap.size, 0, none⟩) (by simp; omega)).trans (by go_simp)
  have c1 : w2.cell? ⟨w.heap.size, 1, none⟩ = some (.int .i64 d) := (b2.cell (p := ⟨w.heap.size, 1, none⟩) (by simp; omega)).trans (by go_simp)
  have c2 : w2.cell? ⟨w.heap.size, 2, none⟩ = some (.int .i64 s) := (b2.cell (p := ⟨w.heap.size, 2, none⟩) (by simp; omega)).trans (by go_simp)
  clear B1 b2
  go_wp2_with fail
  refine (C0 _).mono ?_
  rintro e w3 ⟨rfl, rfl⟩
  have B3 := ((B2.alloc B2.size (.cells #[.int .i64 k, .int .i64 d, .int .i64 s] 55)).alloc (by simp; have := B2.size; omega) (.cells #[.int .i64 k, .int .i64 d, .int .i64 s] 57)).alloc (by simp; have := B2.size; omega) (.cells #[.int .i64 k, .int .i64 d, .int .i64 s] 57)
  go_wp2_with fail
  refine (unhide HI _ (ht.later B3)).mono ?_
  rintro e w4 ⟨rfl, b4⟩
  go_wp2
  go_ret
  exact ⟨rfl, B3.trans (b4.mono B3.size)⟩

end Go.Proofs.YtjkhmliehgghcaaDoor
