/- The law FnExactKeyAbove: its walk. -/
import Derived.Test.YtekmbpkbnknbeaaKeyA
namespace Go.Proofs.Ytekmbpkbnknbeaa
open Go.RowKit

theorem xKeyAbove_walk (w : World) (s : ByteArray) (hm : s.size ≤ maxLen) :
    Calls Try.prog 14 #[.string s] w fun e w' => e = .returned (.bool true) ∧ Below w.heap.size w w' := by
  unfold maxLen at hm
  by_cases hs : s.size ≤ 1048576
  · have t0 : decide ((1048576 : Int) < s.size) = false := by simp; omega
    obtain ⟨n, hn⟩ := abN_is s
    have C1 := specKeyAbove_any w s hs n hn
    have C2 := fun W => implKeyAbove_any W s hs n hn
    generalize abv s n = r at *
    clear hn
    go_enter Try.func14, Try.ntmps14
    go_wp2_with fail
    refine C1.mono ?_
    rintro e w1 ⟨rfl, b1⟩
    go_wp2_with fail
    refine (C2 _).mono ?_
    rintro e w2 ⟨rfl, b2⟩
    go_wp2
    go_ret
    exact ⟨rfl, b1.trans (b2.mono b1.size)⟩
  · have t0 : decide ((1048576 : Int) < s.size) = true := by simp; omega
    go_enter Try.func14, Try.ntmps14
    go_wp2
    go_ret
    exact ⟨rfl, Below.refl _ _⟩

end Go.Proofs.Ytekmbpkbnknbeaa
