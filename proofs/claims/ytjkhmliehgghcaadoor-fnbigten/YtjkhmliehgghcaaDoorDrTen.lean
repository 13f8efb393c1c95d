/- DrawBigTen by a contract; how many figures a power of ten has. -/
import Derived.Test.YtjkhmliehgghcaaDoorRdP
import Derived.Test.YtjkhmliehgghcaaDoorByt1
namespace Go.Proofs.YtjkhmliehgghcaaDoor
open Go.RowKit
set_option maxRecDepth 100000

theorem drawTen_any (w : World) (v : Value) (h : Byt w v) : Calls Tryd.prog 9 #[v] w fun e w' => (∃ n : Int, e = .returned (.int .i64 n) ∧ -3 ≤ n ∧ n ≤ 66) ∧ Below w.heap.size w w' := by
  have C := hide (l1Open_any w v h)
  clear h
  go_enter Tryd.func9, Tryd.ntmps9
  go_wp2_with fail
  refine (unhide C).mono ?_
  rintro e w1 ⟨rfl, r1, b1, y1⟩
  clear C
  go_wp2_with fail
  refine (pick_any _ _ _ 70 r1 (by omega) (by omega) (by omega)).mono ?_
  rintro e w2 ⟨x, rfl, hx, -, g2⟩
  have B2 := grown_below_trans b1 (Nat.le_refl _) g2
  clear r1 g2 b1
  go_wp2
  go_ret
  exact ⟨⟨_, rfl, by omega, by omega⟩, B2⟩

end Go.Proofs.YtjkhmliehgghcaaDoor
