/- The law FnExactNameOk: its walk. -/
import Derived.Test.YtbfhnhhieenddaaNmB
namespace Go.Proofs.Ytbfhnhhieenddaa
open Go.RowKit
set_option maxRecDepth 100000

theorem xNameOk_walk (w : World) (s : ByteArray) (m : Int) (hs : s.size ≤ maxLen) (hm : w.cell? ⟨0, 0, none⟩ = some (.int .i64 m)) :
    Calls Try.prog 3 #[.string s] w fun e w' => e = .returned (.bool true) ∧ Below w.heap.size w w' := by
  have CS := hide (fun W => specNameOk_any W s hs)
  have CI := hide (fun W hm => implNameOk_any W s m hs hm)
  unfold maxLen at hs
  by_cases hl : (1048576 : Int) < s.size
  · have t0 : decide ((1048576 : Int) < s.size) = true := by simpa using hl
    go_enter Try.func3, Try.ntmps3
    go_wp2
    go_ret
    exact ⟨rfl, Below.refl _ _⟩
  · have t0 : decide ((1048576 : Int) < s.size) = false := by simpa using hl
    generalize nameB s = Q at *
    have hq : (!(Q == Q)) = false := by cases Q <;> rfl
    go_enter Try.func3, Try.ntmps3
    go_wp2_with fail
    refine (unhide CS _).mono ?_
    rintro e w1 ⟨rfl, b1⟩
    have hm1 := cell_later b1 hm
    go_wp2_with fail
    refine (unhide CI _ hm1).mono ?_
    rintro e w2 ⟨rfl, b2⟩
    go_wp2
    go_ret
    exact ⟨rfl, b1.trans (b2.mono b1.size)⟩

end Go.Proofs.Ytbfhnhhieenddaa
