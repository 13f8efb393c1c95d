/- Drawn truths: l14Truths, DrawTruthAnd, DrawTruthNot, DrawTruthOr draw some numbers. -/
import Derived.Test.YtieinmfmkimjjaaRdA
namespace Go.Proofs.Ytieinmfmkimjjaa
open Go.RowKit

theorem l14Truths_any (w : World) (v : Value) (h : Byt w v) : Calls Try.prog 62 #[v] w fun e w' => ∃ a b : Int, e = .returned (.tuple #[.int .i64 a, .int .i64 b]) ∧ Below w.heap.size w w' := by
  have C0 := hide (l1Open_any w v h)
  go_enter Try.func62, Try.ntmps62
  go_wp2_with fail
  refine (unhide C0).mono ?_
  rintro e w1 ⟨rfl, r1, b1, z1⟩
  clear C0
  go_wp2_with fail
  refine (one_lit _ _ _ [0, 1, 2, 0, 1, 2, -1, 3] _ rfl r1 (by omega) (by simp) (by simp)).mono ?_
  rintro e w2 ⟨a, rfl, _, r2, g2⟩
  go_wp2_with fail
  refine (one_lit _ _ _ [0, 1, 2, 0, 1, 2, -1, 3] _ rfl r2 (by omega) (by simp) (by simp)).mono ?_
  rintro e w3 ⟨b, rfl, _, r3, g3⟩
  go_wp2
  go_ret2
  exact ⟨a, b, rfl, grown_below_trans b1 (Nat.le_refl _) (grown_trans g2 g3)⟩

end Go.Proofs.Ytieinmfmkimjjaa
