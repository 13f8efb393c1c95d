/- What strconv.Atoi makes of a text: numberOf by a contract; the cells of strconv's two errors. -/
import Derived.Test.YtnfalniijmccjaaDoorShelf
import Derived.Test.YtnfalniijmccjaaDoorKit1
import Derived.Lib.AtoiErrMem
namespace Go.Proofs.YtnfalniijmccjaaDoor
open Go.RowKit
set_option maxRecDepth 100000

/-- strconv's two errors lie in their places. -/
structure Er (w : World) : Prop where
  syn : ∃ te pe, w.cell? ⟨1, 0, none⟩ = some (.iface te pe)
  rng : ∃ te pe, w.cell? ⟨2, 0, none⟩ = some (.iface te pe)

theorem Er.later {w w' : World} (h : Er w) (b : Below w.heap.size w w') : Er w' := by
  obtain ⟨⟨a, c, h1⟩, ⟨d, e, h2⟩⟩ := h
  exact ⟨⟨a, c, cell_later b h1⟩, ⟨d, e, cell_later b h2⟩⟩

/-- The number that a text is, or 0. -/
def numB (l : List UInt8) : Int := match Lib.atoiAll l with
  | .ok v => v
  | _ => 0

theorem numberOf_any (w : World) (s : ByteArray) (hs : s.size ≤ 281474976710656) (he : Er w) :
    Calls Tryd.prog 41 #[.string s] w fun e w' => e = .returned (.int .i64 (numB s.data.toList)) ∧ Below w.heap.size w w' := by
  obtain ⟨⟨a, c, h1⟩, ⟨d, e, h2⟩⟩ := he
  cases hA : Lib.atoiAll s.data.toList with
  | ok v =>
    have hv : numB s.data.toList = v := by unfold numB; rw [hA]
    have C := hide (Tryd.strconv_Atoi_ok s (by omega) v hA w)
    rw [hv]
    clear hA hv h1 h2
    go_enter Tryd.func41, Tryd.ntmps41
    go_wp2_with fail
    refine (unhide C).mono ?_
    rintro e w1 ⟨rfl, hw⟩
    have hb : Below w.heap.size w w1 := by
      rcases hw with rfl | ⟨t, rfl⟩
      · exact Below.refl _ _
      · exact Lib.bytesWorld_below _ _ _
    clear hw C
    go_wp2
    go_ret
    exact ⟨rfl, hb⟩
  | «syntax» =>
    have hv : numB s.data.toList = 0 := by unfold numB; rw [hA]
    have C := hide (Tryd.strconv_Atoi_syntax s hs hA _ w h1 (.inr ⟨_, _, rfl⟩))
    rw [hv]
    clear hA hv h1 h2
    go_enter Tryd.func41, Tryd.ntmps41
    go_wp2_with fail
    refine (unhide C).mono ?_
    rintro e w1 ⟨N, rfl, -, -, hb⟩
    clear C
    go_wp2
    go_ret
    exact ⟨rfl, hb⟩
  | range =>
    have hv : numB s.data.toList = 0 := by unfold numB; rw [hA]
    have C := hide (Tryd.strconv_Atoi_range s hs hA _ w h2 (.inr ⟨_, _, rfl⟩))
    rw [hv]
    clear hA hv h1 h2
    go_enter Tryd.func41, Tryd.ntmps41
    go_wp2_with fail
    refine (unhide C).mono ?_
    rintro e w1 ⟨N, rfl, -, -, hb⟩
    clear C
    go_wp2
    go_ret
    exact ⟨rfl, hb⟩

end Go.Proofs.YtnfalniijmccjaaDoor
