/- The law FnExactSpanPut: its walk. -/
import Derived.Test.YtjkhmliehgghcaaDoorSpnP
import Derived.Test.YtjkhmliehgghcaaDoorSpanL
namespace Go.Proofs.YtjkhmliehgghcaaDoor
open Go.RowKit

theorem xSpanPut_walk (w : World) (m d : Int) (ht : Tab w) :
    Calls Tryd.prog 7 #[.agg #[.int .i64 m, .int .i64 d]] w fun e w' => e = .returned (.bool true) ∧ Below w.heap.size w w' := by
  obtain ⟨T, CS, CI⟩ : ∃ T : ByteArray, (∀ W : World, Calls Tryd.prog 26 #[.agg #[.int .i64 m, .int .i64 d]] W fun e w' => e = .returned (.string T) ∧ Below W.heap.size W w') ∧ (∀ W : World, Tab W → Calls Tryd.prog 28 #[.agg #[.int .i64 m, .int .i64 d]] W fun e w' => e = .returned (.string T) ∧ Below W.heap.size W w') := by
    by_cases h : SpanIs m d
    · exact ⟨spanT m d, fun W => specSpanPut_yes W m d h, fun W t => implSpanPut_yes W m d h t⟩
    · exact ⟨⟨#[]⟩, fun W => specSpanPut_no W m d h, fun W _ => implSpanPut_no W m d h⟩
  have HS := hide CS
  have HI := hide CI
  clear CS CI
  have C0 := fun W => toSpan_any W m d
  have B1 : Below w.heap.size w ((((w.alloc (.cells #[.int .i64 m, .int .i64 d] 49)).alloc (.cells #[.int .i64 m, .int .i64 d] 49)).alloc (.cells #[.int .i64 m, .int .i64 d] 51)).alloc (.cells #[.int .i64 m, .int .i64 d] 51)) := ((((Below.refl _ _).alloc (Nat.le_refl _) _).alloc (by simp) _).alloc (by simp; omega) _).alloc (by simp; omega) _
  go_enter Tryd.func7, Tryd.ntmps7
  go_wp2_with fail
  refine (C0 _).mono ?_
  rintro e w1 ⟨rfl, rfl⟩
  go_wp2_with fail
  refine (unhide HS _).mono ?_
  rintro e w2 ⟨rfl, b2⟩
  have B2 := B1.trans (b2.mono B1.size)
  have c0 : w2.cell? ⟨w.heap.size, 0, none⟩ = some (.int .i64 m) := (b2.cell (p := ⟨w.heap.size, 0, none⟩) (by simp; omega)).trans (by go_simp)
  have c1 : w2.cell? ⟨w.heap.size, 1, none⟩ = some (.int .i64 d) := (b2.cell (p := ⟨w.heap.size, 1, none⟩) (by simp; omega)).trans (by go_simp)
  clear B1 b2
  go_wp2_with fail
  refine (C0 _).mono ?_
  rintro e w3 ⟨rfl, rfl⟩
  have B3 := ((B2.alloc B2.size (.cells #[.int .i64 m, .int .i64 d] 49)).alloc (by simp; have := B2.size; omega) (.cells #[.int .i64 m, .int .i64 d] 51)).alloc (by simp; have := B2.size; omega) (.cells #[.int .i64 m, .int .i64 d] 51)
  go_wp2_with fail
  refine (unhide HI _ (ht.later B3)).mono ?_
  rintro e w4 ⟨rfl, b4⟩
  go_wp2
  go_ret
  exact ⟨rfl, B3.trans (b4.mono B3.size)⟩

end Go.Proofs.YtjkhmliehgghcaaDoor
