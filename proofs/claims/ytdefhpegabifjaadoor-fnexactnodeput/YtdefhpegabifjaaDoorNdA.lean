/- The laws' own helpers for nodes: how large one is, a copy of it, whether two are the same. -/
import Derived.Test.YtdefhpegabifjaaDoorNdB
import Derived.Test.YtdefhpegabifjaaDoorDkC0
import Derived.Test.YtdefhpegabifjaaDoorLawI
namespace Go.Proofs.YtdefhpegabifjaaDoor
open Go.RowKit
set_option maxRecDepth 100000
set_option linter.unusedSimpArgs false
set_option linter.unusedVariables false

set_option maxHeartbeats 1000000 in
theorem szNode_any (w : World) (lf : Bool) (vk vv vi : Value) (ks vs : List ByteArray) (is : List Int) (left : Int) (hk : ReadsS w vk ks) (hv : ReadsS w vv vs) (hi : Reads w vi is) (h0 : 0 ≤ left) (h1 : left ≤ 1048576) :
    Calls Tryd.prog 5 #[.agg #[.bool lf, vk, vv, vi], .int .i64 left] w fun e w' => (∃ r : Int, e = .returned (.int .i64 r) ∧ (r < 0 ∨ (0 ≤ r ∧ r ≤ left ∧ ks.length ≤ 1048576 ∧ vs.length ≤ 1048576 ∧ is.length ≤ 1048576))) ∧ Below w.heap.size w w' := by
  have C1 := hide (fun W (b : Below w.heap.size w W) => szStringS_any W vk ks left (hk.later b) h0 h1)
  have C2 := hide (fun W r (b : Below w.heap.size w W) (g0 : 0 ≤ r) (g1 : r ≤ 1048576) => szStringS_any W vv vs r (hv.later b) g0 g1)
  have C3 := hide (fun W r (b : Below w.heap.size w W) (g0 : 0 ≤ r) (g1 : r ≤ 1048576) => szIntS_any W vi is r (hi.later b) g0 g1)
  have K0 := N4.new w (.bool lf) vk vv vi 25
  have B0 : Below w.heap.size w (w.alloc (.cells #[.bool lf, vk, vv, vi] 25)) := (Below.refl _ _).alloc (Nat.le_refl _) _
  clear hk hv hi
  go_enter Tryd.func5, Tryd.ntmps5
  go_wp2_with fail
  refine (unhide C1 _ B0).mono ?_
  rintro e w1 ⟨⟨r1, rfl, hr1⟩, b1⟩
  have K1 := K0.later b1
  have B1 := B0.trans (b1.mono B0.size)
  clear b1 C1 K0 B0
  by_cases g1 : r1 < 0
  · go_wp2
    go_ret
    exact ⟨⟨-1, rfl, .inl (by omega)⟩, B1⟩
  obtain ⟨p0, p1, p2, p3, -, -, -, -, -⟩ := id K1
  go_wp2_with fail
  refine (unhide C2 _ r1 B1 (by omega) (by omega)).mono ?_
  rintro e w2 ⟨⟨r2, rfl, hr2⟩, b2⟩
  have K2 := K1.later b2
  have B2 := B1.trans (b2.mono B1.size)
  clear b2 C2 K1 B1 p0 p1 p2 p3
  by_cases g2 : r2 < 0
  · go_wp2
    go_ret
    exact ⟨⟨-1, rfl, .inl (by omega)⟩, B2⟩
  obtain ⟨p0, p1, p2, p3, -, -, -, -, -⟩ := id K2
  go_wp2_with fail
  refine (unhide C3 _ r2 B2 (by omega) (by omega)).mono ?_
  rintro e w3 ⟨rfl, hw⟩
  subst hw
  by_cases g3 : r2 < is.length
  · rw [if_pos g3]
    go_wp2
    go_ret
    exact ⟨⟨-1, rfl, .inl (by omega)⟩, B2⟩
  · rw [if_neg g3]
    have g4 : ¬ (r2 - is.length < 0) := by omega
    go_wp2
    go_ret
    exact ⟨⟨_, rfl, .inr ⟨by omega, by omega, by omega, by omega, by omega⟩⟩, B2⟩

/-- What a call answers that hands out a copy of a node. -/
def GivesNode (w : World) (lf : Bool) (ks vs : List ByteArray) (is : List Int) (e : Ending) (w' : World) : Prop :=
  ∃ ak ck av cv ai ci, e = .returned (.agg #[.bool lf, .slice ak ks.length ck, .slice av vs.length cv, .slice ai is.length ci]) ∧ ReadsS w' (.slice ak ks.length ck) ks ∧ ReadsS w' (.slice av vs.length cv) vs ∧ Reads w' (.slice ai is.length ci) is ∧ Below w.heap.size w w'

end Go.Proofs.YtdefhpegabifjaaDoor
