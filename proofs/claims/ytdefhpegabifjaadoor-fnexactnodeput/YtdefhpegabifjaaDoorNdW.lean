/- The text of a node: NodePut of the specification, at any node. -/
import Derived.Test.YtdefhpegabifjaaDoorNdV
namespace Go.Proofs.YtdefhpegabifjaaDoor
open Go.RowKit
set_option maxRecDepth 100000
set_option linter.unusedSimpArgs false
set_option linter.unusedVariables false

theorem l9Put_nil (w : World) (lf : Bool) (ak av ai : Option Addr) (ks vs : List ByteArray) (is : List Int) (ck cv ci : Nat) (h : nilB lf ks vs is = true) :
    Calls Tryd.prog 18 #[.agg #[.bool lf, .slice ak ks.length ck, .slice av vs.length cv, .slice ai is.length ci]] w fun e w' => e = .returned (.string ⟨#[]⟩) ∧ Below w.heap.size w w' := by
  have CZ := fun W => l9Zero_any W lf ak av ai ks vs is ck cv ci
  rw [h] at CZ
  have CZ := hide CZ
  have K0 := N4.new w (.bool lf) (.slice ak ks.length ck) (.slice av vs.length cv) (.slice ai is.length ci) 28
  have B0 : Below w.heap.size w (w.alloc (.cells #[.bool lf, .slice ak ks.length ck, .slice av vs.length cv, .slice ai is.length ci] 28)) := (Below.refl _ _).alloc (Nat.le_refl _) _
  clear h
  obtain ⟨p0, p1, p2, p3, -, -, -, -, -⟩ := id K0
  go_enter Tryd.func18, Tryd.ntmps18
  go_wp2_with fail
  refine (unhide CZ _).mono ?_
  rintro e w1 ⟨rfl, b1⟩
  go_wp2
  go_ret
  exact ⟨rfl, B0.trans (b1.mono B0.size)⟩

theorem l9Put_any (w : World) (lf : Bool) (vk vv vi : Value) (ks vs : List ByteArray) (is : List Int) (hk : ReadsS w vk ks) (hv : ReadsS w vv vs) (hi : Reads w vi is) (h : nilB lf ks vs is = true ∨ nodB lf ks vs is = true) :
    Calls Tryd.prog 18 #[.agg #[.bool lf, vk, vv, vi]] w fun e w' => e = .returned (.string (nodePutR lf ks vs is)) ∧ Below w.heap.size w w' := by
  unfold nodePutR
  rcases h with h | h
  · rw [nil_nod h, if_neg (by simp)]
    obtain ⟨ak, bk, ok, ck, rfl, rk⟩ := hk
    obtain ⟨av, bv, ov, cv, rfl, rv⟩ := hv
    obtain ⟨ai, bi, oi, ci, rfl, ri⟩ := hi
    exact l9Put_nil w lf ak av ai ks vs is ck cv ci h
  · rw [h, if_pos rfl]
    cases lf
    · exact l9Put_fork w vk vv vi ks vs is hk hv hi h
    · exact l9Put_leaf w vk vv vi ks vs is hk hv hi h

set_option maxHeartbeats 2000000 in
theorem specNodePut_any (w : World) (lf : Bool) (vk vv vi : Value) (ks vs : List ByteArray) (is : List Int) (hk : ReadsS w vk ks) (hv : ReadsS w vv vs) (hi : Reads w vi is) :
    Calls Tryd.prog 6 #[.agg #[.bool lf, vk, vv, vi]] w fun e w' => e = .returned (.string (nodePutR lf ks vs is)) ∧ Below w.heap.size w w' := by
  have CO := fun W (b : Below w.heap.size w W) => specNodeOk_any W lf vk vv vi ks vs is (hk.later b) (hv.later b) (hi.later b)
  have CP := fun W (b : Below w.heap.size w W) h => l9Put_any W lf vk vv vi ks vs is (hk.later b) (hv.later b) (hi.later b) h
  obtain ⟨ak, bk, ok, ck, rfl, -⟩ := hk
  obtain ⟨av, bv, ov, cv, rfl, -⟩ := hv
  obtain ⟨ai, bi, oi, ci, rfl, -⟩ := hi
  have CZ := fun W => l9Zero_any W lf ak av ai ks vs is ck cv ci
  have E0 : nodB lf ks vs is = false → nodePutR lf ks vs is = ⟨#[]⟩ := fun h => by unfold nodePutR; rw [h, if_neg (by simp)]
  have K0 := N4.new w (.bool lf) (.slice ak ks.length ck) (.slice av vs.length cv) (.slice ai is.length ci) 28
  have B0 : Below w.heap.size w (w.alloc (.cells #[.bool lf, .slice ak ks.length ck, .slice av vs.length cv, .slice ai is.length ci] 28)) := (Below.refl _ _).alloc (Nat.le_refl _) _
  cases hz : nilB lf ks vs is with
  | true =>
    have CP := hide (fun W b => CP W b (.inl hz))
    rw [hz] at CZ
    have CZ := hide CZ
    clear hz CO E0
    generalize nodePutR lf ks vs is = T at *
    obtain ⟨p0, p1, p2, p3, -, -, -, -, -⟩ := id K0
    go_enter Tryd.func6, Tryd.ntmps6
    go_wp2_with fail
    refine (unhide CZ _).mono ?_
    rintro e w1 ⟨rfl, b1⟩
    have B1 := B0.trans (b1.mono B0.size)
    have K1 := K0.later b1
    clear p0 p1 p2 p3 K0 B0 b1
    obtain ⟨p0, p1, p2, p3, -, -, -, -, -⟩ := id K1
    go_wp2_with fail
    refine (unhide CP _ B1).mono ?_
    rintro e w2 ⟨rfl, b2⟩
    go_wp2
    go_ret
    exact ⟨rfl, B1.trans (b2.mono B1.size)⟩
  | false =>
    rw [hz] at CZ
    have CZ := hide CZ
    clear hz
    cases hn : nodB lf ks vs is with
    | false =>
      simp only [hn] at CO
      have CO := hide CO
      have E := hide (E0 hn)
      clear CP E0 hn
      generalize nodePutR lf ks vs is = T at *
      obtain ⟨p0, p1, p2, p3, -, -, -, -, -⟩ := id K0
      go_enter Tryd.func6, Tryd.ntmps6
      go_wp2_with fail
      refine (unhide CZ _).mono ?_
      rintro e w1 ⟨rfl, b1⟩
      have B1 := B0.trans (b1.mono B0.size)
      have K1 := K0.later b1
      clear p0 p1 p2 p3 K0 B0 b1
      obtain ⟨p0, p1, p2, p3, -, -, -, -, -⟩ := id K1
      go_wp2_with fail
      refine (unhide CO _ B1).mono ?_
      rintro e w2 ⟨rfl, b2⟩
      go_wp2
      go_ret
      exact ⟨by rw [unhide E]; rfl, B1.trans (b2.mono B1.size)⟩
    | true =>
      simp only [hn] at CO
      have CO := hide CO
      have CP := hide (fun W b => CP W b (.inr hn))
      clear E0 hn
      generalize nodePutR lf ks vs is = T at *
      obtain ⟨p0, p1, p2, p3, -, -, -, -, -⟩ := id K0
      go_enter Tryd.func6, Tryd.ntmps6
      go_wp2_with fail
      refine (unhide CZ _).mono ?_
      rintro e w1 ⟨rfl, b1⟩
      have B1 := B0.trans (b1.mono B0.size)
      have K1 := K0.later b1
      clear p0 p1 p2 p3 K0 B0 b1
      obtain ⟨p0, p1, p2, p3, -, -, -, -, -⟩ := id K1
      go_wp2_with fail
      refine (unhide CO _ B1).mono ?_
      rintro e w2 ⟨rfl, b2⟩
      have B2 := B1.trans (b2.mono B1.size)
      have K2 := K1.later b2
      clear p0 p1 p2 p3 K1 B1 b2
      obtain ⟨p0, p1, p2, p3, -, -, -, -, -⟩ := id K2
      go_wp2_with fail
      refine (unhide CP _ B2).mono ?_
      rintro e w3 ⟨rfl, b3⟩
      go_wp2
      go_ret
      exact ⟨rfl, B2.trans (b3.mono B2.size)⟩

end Go.Proofs.YtdefhpegabifjaaDoor
