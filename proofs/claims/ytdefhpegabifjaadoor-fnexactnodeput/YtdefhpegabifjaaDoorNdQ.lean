/- Whether a node is ok, of the program; whether it is nothing. -/
import Derived.Test.YtdefhpegabifjaaDoorNdP
namespace Go.Proofs.YtdefhpegabifjaaDoor
open Go.RowKit
set_option maxRecDepth 100000
set_option linter.unusedSimpArgs false
set_option linter.unusedVariables false

/-- A node is ok; is nothing. -/
def nodB (lf : Bool) (ks vs : List ByteArray) (is : List Int) : Bool :=
  keysB ks && (if lf = true then decide (is.length = 0) && decide (vs.length = ks.length) && vs.all valL else decide (vs.length = 0) && decide (1 ≤ ks.length) && decide (is.length = ks.length + 1) && is.all isN)
def nilB (lf : Bool) (ks vs : List ByteArray) (is : List Int) : Bool := !lf && decide (ks.length = 0) && decide (vs.length = 0) && decide (is.length = 0)

theorem nodeOk_tooMany (w : World) (vk vv vi : Value) (ks vs : List ByteArray) (is : List Int) (hk : ReadsS w vk ks) (hv : ReadsS w vv vs) (hi : Reads w vi is) (lf : Bool) (g4 : ¬ ks.length ≤ 4) :
    Calls Tryd.prog 21 #[.agg #[.bool lf, vk, vv, vi]] w fun e w' => e = .returned (.bool (nodB lf ks vs is)) ∧ Below w.heap.size w w' := by
  have C1 := fun W (b : Below w.heap.size w W) => holdK_any W vk ks (hk.later b)
  have C2 := fun W (b : Below w.heap.size w W) => areAsc_any W vk ks (hk.later b)
  have C3 := fun W (b : Below w.heap.size w W) => holdV_any W vv vs (hv.later b)
  have C4 := fun W (b : Below w.heap.size w W) => holdN_any W vi is (hi.later b)
  have h1 : ks.length ≤ maxLen := by obtain ⟨_, _, _, _, _, r⟩ := hk; exact Nat.le_trans r.le r.big
  have h2 : vs.length ≤ maxLen := by obtain ⟨_, _, _, _, _, r⟩ := hv; exact Nat.le_trans r.le r.big
  have h3 : is.length ≤ maxLen := by obtain ⟨_, _, _, _, _, r⟩ := hi; exact Nat.le_trans r.le r.big
  obtain ⟨ak, bk, ok, ck, rfl, -⟩ := hk
  obtain ⟨av, bv, ov, cv, rfl, -⟩ := hv
  obtain ⟨ai, bi, oi, ci, rfl, -⟩ := hi
  unfold maxLen at h1 h2 h3
  have E := hide (show nodB lf ks vs is = false by simp [nodB, keysB]; omega)
  have f4 : decide ((4 : Int) < ks.length) = true := by simp; omega
  have C1 := hide C1
  have C2 := hide C2
  have C3 := hide C3
  have C4 := hide C4
  have K0 := N4.new w (.bool lf) (.slice ak ks.length ck) (.slice av vs.length cv) (.slice ai is.length ci) 28
  have B0 : Below w.heap.size w (w.alloc (.cells #[.bool lf, .slice ak ks.length ck, .slice av vs.length cv, .slice ai is.length ci] 28)) := (Below.refl _ _).alloc (Nat.le_refl _) _
  clear C1 C2 C3 C4 g4
  obtain ⟨p0, p1, p2, p3, -, -, -, -, -⟩ := id K0
  go_enter Tryd.func21, Tryd.ntmps21
  go_wp2
  go_ret
  exact ⟨by rw [unhide E]; rfl, B0⟩

theorem nodeOk_badKey (w : World) (vk vv vi : Value) (ks vs : List ByteArray) (is : List Int) (hk : ReadsS w vk ks) (hv : ReadsS w vv vs) (hi : Reads w vi is) (lf : Bool) (g4 : ks.length ≤ 4) (a1 : ks.all keyL = false) :
    Calls Tryd.prog 21 #[.agg #[.bool lf, vk, vv, vi]] w fun e w' => e = .returned (.bool (nodB lf ks vs is)) ∧ Below w.heap.size w w' := by
  have C1 := fun W (b : Below w.heap.size w W) => holdK_any W vk ks (hk.later b)
  have C2 := fun W (b : Below w.heap.size w W) => areAsc_any W vk ks (hk.later b)
  have C3 := fun W (b : Below w.heap.size w W) => holdV_any W vv vs (hv.later b)
  have C4 := fun W (b : Below w.heap.size w W) => holdN_any W vi is (hi.later b)
  have h1 : ks.length ≤ maxLen := by obtain ⟨_, _, _, _, _, r⟩ := hk; exact Nat.le_trans r.le r.big
  have h2 : vs.length ≤ maxLen := by obtain ⟨_, _, _, _, _, r⟩ := hv; exact Nat.le_trans r.le r.big
  have h3 : is.length ≤ maxLen := by obtain ⟨_, _, _, _, _, r⟩ := hi; exact Nat.le_trans r.le r.big
  obtain ⟨ak, bk, ok, ck, rfl, -⟩ := hk
  obtain ⟨av, bv, ov, cv, rfl, -⟩ := hv
  obtain ⟨ai, bi, oi, ci, rfl, -⟩ := hi
  unfold maxLen at h1 h2 h3
  have E := hide (show nodB lf ks vs is = false by simp [nodB, keysB, g4, a1])
  have f4 : decide ((4 : Int) < ks.length) = false := by simp; omega
  simp only [a1] at C1
  have C1 := hide C1
  have C2 := hide C2
  have C3 := hide C3
  have C4 := hide C4
  have K0 := N4.new w (.bool lf) (.slice ak ks.length ck) (.slice av vs.length cv) (.slice ai is.length ci) 28
  have B0 : Below w.heap.size w (w.alloc (.cells #[.bool lf, .slice ak ks.length ck, .slice av vs.length cv, .slice ai is.length ci] 28)) := (Below.refl _ _).alloc (Nat.le_refl _) _
  clear C2 C3 C4 a1 g4
  obtain ⟨p0, p1, p2, p3, -, -, -, -, -⟩ := id K0
  go_enter Tryd.func21, Tryd.ntmps21
  go_wp2_with fail
  refine (unhide C1 _ B0).mono ?_
  rintro e w1 ⟨rfl, b1⟩
  have K1 := K0.later b1
  have B1 := B0.trans (b1.mono B0.size)
  clear p0 p1 p2 p3 b1 K0 B0
  obtain ⟨p0, p1, p2, p3, -, -, -, -, -⟩ := id K1
  go_wp2
  go_ret
  exact ⟨by rw [unhide E]; rfl, B1⟩

theorem nodeOk_notAsc (w : World) (vk vv vi : Value) (ks vs : List ByteArray) (is : List Int) (hk : ReadsS w vk ks) (hv : ReadsS w vv vs) (hi : Reads w vi is) (lf : Bool) (g4 : ks.length ≤ 4) (a1 : ks.all keyL = true) (a2 : ascB ks = false) :
    Calls Tryd.prog 21 #[.agg #[.bool lf, vk, vv, vi]] w fun e w' => e = .returned (.bool (nodB lf ks vs is)) ∧ Below w.heap.size w w' := by
  have C1 := fun W (b : Below w.heap.size w W) => holdK_any W vk ks (hk.later b)
  have C2 := fun W (b : Below w.heap.size w W) => areAsc_any W vk ks (hk.later b)
  have C3 := fun W (b : Below w.heap.size w W) => holdV_any W vv vs (hv.later b)
  have C4 := fun W (b : Below w.heap.size w W) => holdN_any W vi is (hi.later b)
  have h1 : ks.length ≤ maxLen := by obtain ⟨_, _, _, _, _, r⟩ := hk; exact Nat.le_trans r.le r.big
  have h2 : vs.length ≤ maxLen := by obtain ⟨_, _, _, _, _, r⟩ := hv; exact Nat.le_trans r.le r.big
  have h3 : is.length ≤ maxLen := by obtain ⟨_, _, _, _, _, r⟩ := hi; exact Nat.le_trans r.le r.big
  obtain ⟨ak, bk, ok, ck, rfl, -⟩ := hk
  obtain ⟨av, bv, ov, cv, rfl, -⟩ := hv
  obtain ⟨ai, bi, oi, ci, rfl, -⟩ := hi
  unfold maxLen at h1 h2 h3
  have E := hide (show nodB lf ks vs is = false by simp [nodB, keysB, g4, a1, a2])
  have f4 : decide ((4 : Int) < ks.length) = false := by simp; omega
  simp only [a1] at C1
  simp only [a2] at C2
  have C1 := hide C1
  have C2 := hide C2
  have C3 := hide C3
  have C4 := hide C4
  have K0 := N4.new w (.bool lf) (.slice ak ks.length ck) (.slice av vs.length cv) (.slice ai is.length ci) 28
  have B0 : Below w.heap.size w (w.alloc (.cells #[.bool lf, .slice ak ks.length ck, .slice av vs.length cv, .slice ai is.length ci] 28)) := (Below.refl _ _).alloc (Nat.le_refl _) _
  clear C3 C4 a1 a2 g4
  obtain ⟨p0, p1, p2, p3, -, -, -, -, -⟩ := id K0
  go_enter Tryd.func21, Tryd.ntmps21
  go_wp2_with fail
  refine (unhide C1 _ B0).mono ?_
  rintro e w1 ⟨rfl, b1⟩
  have K1 := K0.later b1
  have B1 := B0.trans (b1.mono B0.size)
  clear p0 p1 p2 p3 b1 K0 B0
  obtain ⟨p0, p1, p2, p3, -, -, -, -, -⟩ := id K1
  go_wp2_with fail
  refine (unhide C2 _ B1).mono ?_
  rintro e w2 ⟨rfl, b2⟩
  have K2 := K1.later b2
  have B2 := B1.trans (b2.mono B1.size)
  clear p0 p1 p2 p3 b2 K1 B1
  obtain ⟨p0, p1, p2, p3, -, -, -, -, -⟩ := id K2
  go_wp2
  go_ret
  exact ⟨by rw [unhide E]; rfl, B2⟩

theorem nodeOk_leafKids (w : World) (vk vv vi : Value) (ks vs : List ByteArray) (is : List Int) (hk : ReadsS w vk ks) (hv : ReadsS w vv vs) (hi : Reads w vi is) (g4 : ks.length ≤ 4) (a1 : ks.all keyL = true) (a2 : ascB ks = true) (q1 : ¬ is.length = 0) :
    Calls Tryd.prog 21 #[.agg #[.bool true, vk, vv, vi]] w fun e w' => e = .returned (.bool (nodB true ks vs is)) ∧ Below w.heap.size w w' := by
  have C1 := fun W (b : Below w.heap.size w W) => holdK_any W vk ks (hk.later b)
  have C2 := fun W (b : Below w.heap.size w W) => areAsc_any W vk ks (hk.later b)
  have C3 := fun W (b : Below w.heap.size w W) => holdV_any W vv vs (hv.later b)
  have C4 := fun W (b : Below w.heap.size w W) => holdN_any W vi is (hi.later b)
  have h1 : ks.length ≤ maxLen := by obtain ⟨_, _, _, _, _, r⟩ := hk; exact Nat.le_trans r.le r.big
  have h2 : vs.length ≤ maxLen := by obtain ⟨_, _, _, _, _, r⟩ := hv; exact Nat.le_trans r.le r.big
  have h3 : is.length ≤ maxLen := by obtain ⟨_, _, _, _, _, r⟩ := hi; exact Nat.le_trans r.le r.big
  obtain ⟨ak, bk, ok, ck, rfl, -⟩ := hk
  obtain ⟨av, bv, ov, cv, rfl, -⟩ := hv
  obtain ⟨ai, bi, oi, ci, rfl, -⟩ := hi
  unfold maxLen at h1 h2 h3
  have E := hide (show nodB true ks vs is = false by simp [nodB, keysB, g4, a1, a2, q1])
  have f4 : decide ((4 : Int) < ks.length) = false := by simp; omega
  simp only [a1] at C1
  simp only [a2] at C2
  have f5 : ((is.length : Int) == 0) = false := by rw [beq_eq_false_iff_ne]; omega
  have C1 := hide C1
  have C2 := hide C2
  have C3 := hide C3
  have C4 := hide C4
  have K0 := N4.new w (.bool true) (.slice ak ks.length ck) (.slice av vs.length cv) (.slice ai is.length ci) 28
  have B0 : Below w.heap.size w (w.alloc (.cells #[.bool true, .slice ak ks.length ck, .slice av vs.length cv, .slice ai is.length ci] 28)) := (Below.refl _ _).alloc (Nat.le_refl _) _
  clear C3 C4 a1 a2 g4 q1
  obtain ⟨p0, p1, p2, p3, -, -, -, -, -⟩ := id K0
  go_enter Tryd.func21, Tryd.ntmps21
  go_wp2_with fail
  refine (unhide C1 _ B0).mono ?_
  rintro e w1 ⟨rfl, b1⟩
  have K1 := K0.later b1
  have B1 := B0.trans (b1.mono B0.size)
  clear p0 p1 p2 p3 b1 K0 B0
  obtain ⟨p0, p1, p2, p3, -, -, -, -, -⟩ := id K1
  go_wp2_with fail
  refine (unhide C2 _ B1).mono ?_
  rintro e w2 ⟨rfl, b2⟩
  have K2 := K1.later b2
  have B2 := B1.trans (b2.mono B1.size)
  clear p0 p1 p2 p3 b2 K1 B1
  obtain ⟨p0, p1, p2, p3, -, -, -, -, -⟩ := id K2
  go_wp2
  go_ret
  exact ⟨by rw [unhide E]; rfl, B2⟩

theorem nodeOk_leafLen (w : World) (vk vv vi : Value) (ks vs : List ByteArray) (is : List Int) (hk : ReadsS w vk ks) (hv : ReadsS w vv vs) (hi : Reads w vi is) (g4 : ks.length ≤ 4) (a1 : ks.all keyL = true) (a2 : ascB ks = true) (q1 : is.length = 0) (q2 : ¬ vs.length = ks.length) :
    Calls Tryd.prog 21 #[.agg #[.bool true, vk, vv, vi]] w fun e w' => e = .returned (.bool (nodB true ks vs is)) ∧ Below w.heap.size w w' := by
  have C1 := fun W (b : Below w.heap.size w W) => holdK_any W vk ks (hk.later b)
  have C2 := fun W (b : Below w.heap.size w W) => areAsc_any W vk ks (hk.later b)
  have C3 := fun W (b : Below w.heap.size w W) => holdV_any W vv vs (hv.later b)
  have C4 := fun W (b : Below w.heap.size w W) => holdN_any W vi is (hi.later b)
  have h1 : ks.length ≤ maxLen := by obtain ⟨_, _, _, _, _, r⟩ := hk; exact Nat.le_trans r.le r.big
  have h2 : vs.length ≤ maxLen := by obtain ⟨_, _, _, _, _, r⟩ := hv; exact Nat.le_trans r.le r.big
  have h3 : is.length ≤ maxLen := by obtain ⟨_, _, _, _, _, r⟩ := hi; exact Nat.le_trans r.le r.big
  obtain ⟨ak, bk, ok, ck, rfl, -⟩ := hk
  obtain ⟨av, bv, ov, cv, rfl, -⟩ := hv
  obtain ⟨ai, bi, oi, ci, rfl, -⟩ := hi
  unfold maxLen at h1 h2 h3
  have E := hide (show nodB true ks vs is = false by simp [nodB, keysB, g4, a1, a2, q1, q2])
  have f4 : decide ((4 : Int) < ks.length) = false := by simp; omega
  simp only [a1] at C1
  simp only [a2] at C2
  have f5 : ((is.length : Int) == 0) = true := by simp [q1]
  have f6 : ((vs.length : Int) == (ks.length : Int)) = false := by rw [beq_eq_false_iff_ne]; omega
  have C1 := hide C1
  have C2 := hide C2
  have C3 := hide C3
  have C4 := hide C4
  have K0 := N4.new w (.bool true) (.slice ak ks.length ck) (.slice av vs.length cv) (.slice ai is.length ci) 28
  have B0 : Below w.heap.size w (w.alloc (.cells #[.bool true, .slice ak ks.length ck, .slice av vs.length cv, .slice ai is.length ci] 28)) := (Below.refl _ _).alloc (Nat.le_refl _) _
  clear C3 C4 a1 a2 g4 q1 q2
  obtain ⟨p0, p1, p2, p3, -, -, -, -, -⟩ := id K0
  go_enter Tryd.func21, Tryd.ntmps21
  go_wp2_with fail
  refine (unhide C1 _ B0).mono ?_
  rintro e w1 ⟨rfl, b1⟩
  have K1 := K0.later b1
  have B1 := B0.trans (b1.mono B0.size)
  clear p0 p1 p2 p3 b1 K0 B0
  obtain ⟨p0, p1, p2, p3, -, -, -, -, -⟩ := id K1
  go_wp2_with fail
  refine (unhide C2 _ B1).mono ?_
  rintro e w2 ⟨rfl, b2⟩
  have K2 := K1.later b2
  have B2 := B1.trans (b2.mono B1.size)
  clear p0 p1 p2 p3 b2 K1 B1
  obtain ⟨p0, p1, p2, p3, -, -, -, -, -⟩ := id K2
  go_wp2
  go_ret
  exact ⟨by rw [unhide E]; rfl, B2⟩

theorem nodeOk_leafTrue (w : World) (vk vv vi : Value) (ks vs : List ByteArray) (is : List Int) (hk : ReadsS w vk ks) (hv : ReadsS w vv vs) (hi : Reads w vi is) (g4 : ks.length ≤ 4) (a1 : ks.all keyL = true) (a2 : ascB ks = true) (q1 : is.length = 0) (q2 : vs.length = ks.length) (q3 : vs.all valL = true) :
    Calls Tryd.prog 21 #[.agg #[.bool true, vk, vv, vi]] w fun e w' => e = .returned (.bool (nodB true ks vs is)) ∧ Below w.heap.size w w' := by
  have C1 := fun W (b : Below w.heap.size w W) => holdK_any W vk ks (hk.later b)
  have C2 := fun W (b : Below w.heap.size w W) => areAsc_any W vk ks (hk.later b)
  have C3 := fun W (b : Below w.heap.size w W) => holdV_any W vv vs (hv.later b)
  have C4 := fun W (b : Below w.heap.size w W) => holdN_any W vi is (hi.later b)
  have h1 : ks.length ≤ maxLen := by obtain ⟨_, _, _, _, _, r⟩ := hk; exact Nat.le_trans r.le r.big
  have h2 : vs.length ≤ maxLen := by obtain ⟨_, _, _, _, _, r⟩ := hv; exact Nat.le_trans r.le r.big
  have h3 : is.length ≤ maxLen := by obtain ⟨_, _, _, _, _, r⟩ := hi; exact Nat.le_trans r.le r.big
  obtain ⟨ak, bk, ok, ck, rfl, -⟩ := hk
  obtain ⟨av, bv, ov, cv, rfl, -⟩ := hv
  obtain ⟨ai, bi, oi, ci, rfl, -⟩ := hi
  unfold maxLen at h1 h2 h3
  have E := hide (show nodB true ks vs is = true by simp [nodB, keysB, g4, a1, a2, q1, q2, q3])
  have f4 : decide ((4 : Int) < ks.length) = false := by simp; omega
  simp only [a1] at C1
  simp only [a2] at C2
  have f5 : ((is.length : Int) == 0) = true := by simp [q1]
  have f6 : ((vs.length : Int) == (ks.length : Int)) = true := by simp [q2]
  simp only [q3] at C3
  have C1 := hide C1
  have C2 := hide C2
  have C3 := hide C3
  have C4 := hide C4
  have K0 := N4.new w (.bool true) (.slice ak ks.length ck) (.slice av vs.length cv) (.slice ai is.length ci) 28
  have B0 : Below w.heap.size w (w.alloc (.cells #[.bool true, .slice ak ks.length ck, .slice av vs.length cv, .slice ai is.length ci] 28)) := (Below.refl _ _).alloc (Nat.le_refl _) _
  clear C4 a1 a2 g4 q1 q2 q3
  obtain ⟨p0, p1, p2, p3, -, -, -, -, -⟩ := id K0
  go_enter Tryd.func21, Tryd.ntmps21
  go_wp2_with fail
  refine (unhide C1 _ B0).mono ?_
  rintro e w1 ⟨rfl, b1⟩
  have K1 := K0.later b1
  have B1 := B0.trans (b1.mono B0.size)
  clear p0 p1 p2 p3 b1 K0 B0
  obtain ⟨p0, p1, p2, p3, -, -, -, -, -⟩ := id K1
  go_wp2_with fail
  refine (unhide C2 _ B1).mono ?_
  rintro e w2 ⟨rfl, b2⟩
  have K2 := K1.later b2
  have B2 := B1.trans (b2.mono B1.size)
  clear p0 p1 p2 p3 b2 K1 B1
  obtain ⟨p0, p1, p2, p3, -, -, -, -, -⟩ := id K2
  go_wp2_with fail
  refine (unhide C3 _ B2).mono ?_
  rintro e w3 ⟨rfl, b3⟩
  have K3 := K2.later b3
  have B3 := B2.trans (b3.mono B2.size)
  clear p0 p1 p2 p3 b3 K2 B2
  obtain ⟨p0, p1, p2, p3, -, -, -, -, -⟩ := id K3
  go_wp2
  go_ret
  exact ⟨by rw [unhide E]; rfl, B3⟩

theorem nodeOk_leafFalse (w : World) (vk vv vi : Value) (ks vs : List ByteArray) (is : List Int) (hk : ReadsS w vk ks) (hv : ReadsS w vv vs) (hi : Reads w vi is) (g4 : ks.length ≤ 4) (a1 : ks.all keyL = true) (a2 : ascB ks = true) (q1 : is.length = 0) (q2 : vs.length = ks.length) (q3 : vs.all valL = false) :
    Calls Tryd.prog 21 #[.agg #[.bool true, vk, vv, vi]] w fun e w' => e = .returned (.bool (nodB true ks vs is)) ∧ Below w.heap.size w w' := by
  have C1 := fun W (b : Below w.heap.size w W) => holdK_any W vk ks (hk.later b)
  have C2 := fun W (b : Below w.heap.size w W) => areAsc_any W vk ks (hk.later b)
  have C3 := fun W (b : Below w.heap.size w W) => holdV_any W vv vs (hv.later b)
  have C4 := fun W (b : Below w.heap.size w W) => holdN_any W vi is (hi.later b)
  have h1 : ks.length ≤ maxLen := by obtain ⟨_, _, _, _, _, r⟩ := hk; exact Nat.le_trans r.le r.big
  have h2 : vs.length ≤ maxLen := by obtain ⟨_, _, _, _, _, r⟩ := hv; exact Nat.le_trans r.le r.big
  have h3 : is.length ≤ maxLen := by obtain ⟨_, _, _, _, _, r⟩ := hi; exact Nat.le_trans r.le r.big
  obtain ⟨ak, bk, ok, ck, rfl, -⟩ := hk
  obtain ⟨av, bv, ov, cv, rfl, -⟩ := hv
  obtain ⟨ai, bi, oi, ci, rfl, -⟩ := hi
  unfold maxLen at h1 h2 h3
  have E := hide (show nodB true ks vs is = false by simp [nodB, keysB, g4, a1, a2, q1, q2, q3])
  have f4 : decide ((4 : Int) < ks.length) = false := by simp; omega
  simp only [a1] at C1
  simp only [a2] at C2
  have f5 : ((is.length : Int) == 0) = true := by simp [q1]
  have f6 : ((vs.length : Int) == (ks.length : Int)) = true := by simp [q2]
  simp only [q3] at C3
  have C1 := hide C1
  have C2 := hide C2
  have C3 := hide C3
  have C4 := hide C4
  have K0 := N4.new w (.bool true) (.slice ak ks.length ck) (.slice av vs.length cv) (.slice ai is.length ci) 28
  have B0 : Below w.heap.size w (w.alloc (.cells #[.bool true, .slice ak ks.length ck, .slice av vs.length cv, .slice ai is.length ci] 28)) := (Below.refl _ _).alloc (Nat.le_refl _) _
  clear C4 a1 a2 g4 q1 q2 q3
  obtain ⟨p0, p1, p2, p3, -, -, -, -, -⟩ := id K0
  go_enter Tryd.func21, Tryd.ntmps21
  go_wp2_with fail
  refine (unhide C1 _ B0).mono ?_
  rintro e w1 ⟨rfl, b1⟩
  have K1 := K0.later b1
  have B1 := B0.trans (b1.mono B0.size)
  clear p0 p1 p2 p3 b1 K0 B0
  obtain ⟨p0, p1, p2, p3, -, -, -, -, -⟩ := id K1
  go_wp2_with fail
  refine (unhide C2 _ B1).mono ?_
  rintro e w2 ⟨rfl, b2⟩
  have K2 := K1.later b2
  have B2 := B1.trans (b2.mono B1.size)
  clear p0 p1 p2 p3 b2 K1 B1
  obtain ⟨p0, p1, p2, p3, -, -, -, -, -⟩ := id K2
  go_wp2_with fail
  refine (unhide C3 _ B2).mono ?_
  rintro e w3 ⟨rfl, b3⟩
  have K3 := K2.later b3
  have B3 := B2.trans (b3.mono B2.size)
  clear p0 p1 p2 p3 b3 K2 B2
  obtain ⟨p0, p1, p2, p3, -, -, -, -, -⟩ := id K3
  go_wp2
  go_ret
  exact ⟨by rw [unhide E]; rfl, B3⟩

theorem nodeOk_forkVals (w : World) (vk vv vi : Value) (ks vs : List ByteArray) (is : List Int) (hk : ReadsS w vk ks) (hv : ReadsS w vv vs) (hi : Reads w vi is) (g4 : ks.length ≤ 4) (a1 : ks.all keyL = true) (a2 : ascB ks = true) (q1 : ¬ vs.length = 0) :
    Calls Tryd.prog 21 #[.agg #[.bool false, vk, vv, vi]] w fun e w' => e = .returned (.bool (nodB false ks vs is)) ∧ Below w.heap.size w w' := by
  have C1 := fun W (b : Below w.heap.size w W) => holdK_any W vk ks (hk.later b)
  have C2 := fun W (b : Below w.heap.size w W) => areAsc_any W vk ks (hk.later b)
  have C3 := fun W (b : Below w.heap.size w W) => holdV_any W vv vs (hv.later b)
  have C4 := fun W (b : Below w.heap.size w W) => holdN_any W vi is (hi.later b)
  have h1 : ks.length ≤ maxLen := by obtain ⟨_, _, _, _, _, r⟩ := hk; exact Nat.le_trans r.le r.big
  have h2 : vs.length ≤ maxLen := by obtain ⟨_, _, _, _, _, r⟩ := hv; exact Nat.le_trans r.le r.big
  have h3 : is.length ≤ maxLen := by obtain ⟨_, _, _, _, _, r⟩ := hi; exact Nat.le_trans r.le r.big
  obtain ⟨ak, bk, ok, ck, rfl, -⟩ := hk
  obtain ⟨av, bv, ov, cv, rfl, -⟩ := hv
  obtain ⟨ai, bi, oi, ci, rfl, -⟩ := hi
  unfold maxLen at h1 h2 h3
  have E := hide (show nodB false ks vs is = false by simp [nodB, keysB, g4, a1, a2, q1])
  have f4 : decide ((4 : Int) < ks.length) = false := by simp; omega
  simp only [a1] at C1
  simp only [a2] at C2
  have f5 : ((vs.length : Int) == 0) = false := by rw [beq_eq_false_iff_ne]; omega
  have C1 := hide C1
  have C2 := hide C2
  have C3 := hide C3
  have C4 := hide C4
  have K0 := N4.new w (.bool false) (.slice ak ks.length ck) (.slice av vs.length cv) (.slice ai is.length ci) 28
  have B0 : Below w.heap.size w (w.alloc (.cells #[.bool false, .slice ak ks.length ck, .slice av vs.length cv, .slice ai is.length ci] 28)) := (Below.refl _ _).alloc (Nat.le_refl _) _
  clear C3 C4 a1 a2 g4 q1
  obtain ⟨p0, p1, p2, p3, -, -, -, -, -⟩ := id K0
  go_enter Tryd.func21, Tryd.ntmps21
  go_wp2_with fail
  refine (unhide C1 _ B0).mono ?_
  rintro e w1 ⟨rfl, b1⟩
  have K1 := K0.later b1
  have B1 := B0.trans (b1.mono B0.size)
  clear p0 p1 p2 p3 b1 K0 B0
  obtain ⟨p0, p1, p2, p3, -, -, -, -, -⟩ := id K1
  go_wp2_with fail
  refine (unhide C2 _ B1).mono ?_
  rintro e w2 ⟨rfl, b2⟩
  have K2 := K1.later b2
  have B2 := B1.trans (b2.mono B1.size)
  clear p0 p1 p2 p3 b2 K1 B1
  obtain ⟨p0, p1, p2, p3, -, -, -, -, -⟩ := id K2
  go_wp2
  go_ret
  exact ⟨by rw [unhide E]; rfl, B2⟩

theorem nodeOk_forkNone (w : World) (vk vv vi : Value) (ks vs : List ByteArray) (is : List Int) (hk : ReadsS w vk ks) (hv : ReadsS w vv vs) (hi : Reads w vi is) (g4 : ks.length ≤ 4) (a1 : ks.all keyL = true) (a2 : ascB ks = true) (q1 : vs.length = 0) (q2 : ¬ 1 ≤ ks.length) :
    Calls Tryd.prog 21 #[.agg #[.bool false, vk, vv, vi]] w fun e w' => e = .returned (.bool (nodB false ks vs is)) ∧ Below w.heap.size w w' := by
  have C1 := fun W (b : Below w.heap.size w W) => holdK_any W vk ks (hk.later b)
  have C2 := fun W (b : Below w.heap.size w W) => areAsc_any W vk ks (hk.later b)
  have C3 := fun W (b : Below w.heap.size w W) => holdV_any W vv vs (hv.later b)
  have C4 := fun W (b : Below w.heap.size w W) => holdN_any W vi is (hi.later b)
  have h1 : ks.length ≤ maxLen := by obtain ⟨_, _, _, _, _, r⟩ := hk; exact Nat.le_trans r.le r.big
  have h2 : vs.length ≤ maxLen := by obtain ⟨_, _, _, _, _, r⟩ := hv; exact Nat.le_trans r.le r.big
  have h3 : is.length ≤ maxLen := by obtain ⟨_, _, _, _, _, r⟩ := hi; exact Nat.le_trans r.le r.big
  obtain ⟨ak, bk, ok, ck, rfl, -⟩ := hk
  obtain ⟨av, bv, ov, cv, rfl, -⟩ := hv
  obtain ⟨ai, bi, oi, ci, rfl, -⟩ := hi
  unfold maxLen at h1 h2 h3
  have E := hide (show nodB false ks vs is = false by simp [nodB, keysB, g4, a1, a2, q1, q2])
  have f4 : decide ((4 : Int) < ks.length) = false := by simp; omega
  simp only [a1] at C1
  simp only [a2] at C2
  have f5 : ((vs.length : Int) == 0) = true := by simp [q1]
  have f6 : decide ((1 : Int) ≤ ks.length) = false := by simp; omega
  have C1 := hide C1
  have C2 := hide C2
  have C3 := hide C3
  have C4 := hide C4
  have K0 := N4.new w (.bool false) (.slice ak ks.length ck) (.slice av vs.length cv) (.slice ai is.length ci) 28
  have B0 : Below w.heap.size w (w.alloc (.cells #[.bool false, .slice ak ks.length ck, .slice av vs.length cv, .slice ai is.length ci] 28)) := (Below.refl _ _).alloc (Nat.le_refl _) _
  clear C3 C4 a1 a2 g4 q1 q2
  obtain ⟨p0, p1, p2, p3, -, -, -, -, -⟩ := id K0
  go_enter Tryd.func21, Tryd.ntmps21
  go_wp2_with fail
  refine (unhide C1 _ B0).mono ?_
  rintro e w1 ⟨rfl, b1⟩
  have K1 := K0.later b1
  have B1 := B0.trans (b1.mono B0.size)
  clear p0 p1 p2 p3 b1 K0 B0
  obtain ⟨p0, p1, p2, p3, -, -, -, -, -⟩ := id K1
  go_wp2_with fail
  refine (unhide C2 _ B1).mono ?_
  rintro e w2 ⟨rfl, b2⟩
  have K2 := K1.later b2
  have B2 := B1.trans (b2.mono B1.size)
  clear p0 p1 p2 p3 b2 K1 B1
  obtain ⟨p0, p1, p2, p3, -, -, -, -, -⟩ := id K2
  go_wp2
  go_ret
  exact ⟨by rw [unhide E]; rfl, B2⟩

theorem nodeOk_forkLen (w : World) (vk vv vi : Value) (ks vs : List ByteArray) (is : List Int) (hk : ReadsS w vk ks) (hv : ReadsS w vv vs) (hi : Reads w vi is) (g4 : ks.length ≤ 4) (a1 : ks.all keyL = true) (a2 : ascB ks = true) (q1 : vs.length = 0) (q2 : 1 ≤ ks.length) (q4 : ¬ is.length = ks.length + 1) :
    Calls Tryd.prog 21 #[.agg #[.bool false, vk, vv, vi]] w fun e w' => e = .returned (.bool (nodB false ks vs is)) ∧ Below w.heap.size w w' := by
  have C1 := fun W (b : Below w.heap.size w W) => holdK_any W vk ks (hk.later b)
  have C2 := fun W (b : Below w.heap.size w W) => areAsc_any W vk ks (hk.later b)
  have C3 := fun W (b : Below w.heap.size w W) => holdV_any W vv vs (hv.later b)
  have C4 := fun W (b : Below w.heap.size w W) => holdN_any W vi is (hi.later b)
  have h1 : ks.length ≤ maxLen := by obtain ⟨_, _, _, _, _, r⟩ := hk; exact Nat.le_trans r.le r.big
  have h2 : vs.length ≤ maxLen := by obtain ⟨_, _, _, _, _, r⟩ := hv; exact Nat.le_trans r.le r.big
  have h3 : is.length ≤ maxLen := by obtain ⟨_, _, _, _, _, r⟩ := hi; exact Nat.le_trans r.le r.big
  obtain ⟨ak, bk, ok, ck, rfl, -⟩ := hk
  obtain ⟨av, bv, ov, cv, rfl, -⟩ := hv
  obtain ⟨ai, bi, oi, ci, rfl, -⟩ := hi
  unfold maxLen at h1 h2 h3
  have E := hide (show nodB false ks vs is = false by simp [nodB, keysB, g4, a1, a2, q1, q2, q4])
  have f4 : decide ((4 : Int) < ks.length) = false := by simp; omega
  simp only [a1] at C1
  simp only [a2] at C2
  have f5 : ((vs.length : Int) == 0) = true := by simp [q1]
  have f6 : decide ((1 : Int) ≤ ks.length) = true := by simp; omega
  have hw : IntKind.i64.wrap ((ks.length : Int) + 1) = (ks.length : Int) + 1 := by rw [IntKind.wrap_i64]; omega
  have f7 : ((is.length : Int) == (ks.length : Int) + 1) = false := by rw [beq_eq_false_iff_ne]; omega
  have C1 := hide C1
  have C2 := hide C2
  have C3 := hide C3
  have C4 := hide C4
  have K0 := N4.new w (.bool false) (.slice ak ks.length ck) (.slice av vs.length cv) (.slice ai is.length ci) 28
  have B0 : Below w.heap.size w (w.alloc (.cells #[.bool false, .slice ak ks.length ck, .slice av vs.length cv, .slice ai is.length ci] 28)) := (Below.refl _ _).alloc (Nat.le_refl _) _
  clear C3 C4 a1 a2 g4 q1 q2 q4
  obtain ⟨p0, p1, p2, p3, -, -, -, -, -⟩ := id K0
  go_enter Tryd.func21, Tryd.ntmps21
  go_wp2_with fail
  refine (unhide C1 _ B0).mono ?_
  rintro e w1 ⟨rfl, b1⟩
  have K1 := K0.later b1
  have B1 := B0.trans (b1.mono B0.size)
  clear p0 p1 p2 p3 b1 K0 B0
  obtain ⟨p0, p1, p2, p3, -, -, -, -, -⟩ := id K1
  go_wp2_with fail
  refine (unhide C2 _ B1).mono ?_
  rintro e w2 ⟨rfl, b2⟩
  have K2 := K1.later b2
  have B2 := B1.trans (b2.mono B1.size)
  clear p0 p1 p2 p3 b2 K1 B1
  obtain ⟨p0, p1, p2, p3, -, -, -, -, -⟩ := id K2
  go_wp2
  go_ret
  exact ⟨by rw [unhide E]; rfl, B2⟩

theorem nodeOk_forkTrue (w : World) (vk vv vi : Value) (ks vs : List ByteArray) (is : List Int) (hk : ReadsS w vk ks) (hv : ReadsS w vv vs) (hi : Reads w vi is) (g4 : ks.length ≤ 4) (a1 : ks.all keyL = true) (a2 : ascB ks = true) (q1 : vs.length = 0) (q2 : 1 ≤ ks.length) (q4 : is.length = ks.length + 1) (q3 : is.all isN = true) :
    Calls Tryd.prog 21 #[.agg #[.bool false, vk, vv, vi]] w fun e w' => e = .returned (.bool (nodB false ks vs is)) ∧ Below w.heap.size w w' := by
  have C1 := fun W (b : Below w.heap.size w W) => holdK_any W vk ks (hk.later b)
  have C2 := fun W (b : Below w.heap.size w W) => areAsc_any W vk ks (hk.later b)
  have C3 := fun W (b : Below w.heap.size w W) => holdV_any W vv vs (hv.later b)
  have C4 := fun W (b : Below w.heap.size w W) => holdN_any W vi is (hi.later b)
  have h1 : ks.length ≤ maxLen := by obtain ⟨_, _, _, _, _, r⟩ := hk; exact Nat.le_trans r.le r.big
  have h2 : vs.length ≤ maxLen := by obtain ⟨_, _, _, _, _, r⟩ := hv; exact Nat.le_trans r.le r.big
  have h3 : is.length ≤ maxLen := by obtain ⟨_, _, _, _, _, r⟩ := hi; exact Nat.le_trans r.le r.big
  obtain ⟨ak, bk, ok, ck, rfl, -⟩ := hk
  obtain ⟨av, bv, ov, cv, rfl, -⟩ := hv
  obtain ⟨ai, bi, oi, ci, rfl, -⟩ := hi
  unfold maxLen at h1 h2 h3
  have E := hide (show nodB false ks vs is = true by simp [nodB, keysB, g4, a1, a2, q1, q2, q4, q3])
  have f4 : decide ((4 : Int) < ks.length) = false := by simp; omega
  simp only [a1] at C1
  simp only [a2] at C2
  have f5 : ((vs.length : Int) == 0) = true := by simp [q1]
  have f6 : decide ((1 : Int) ≤ ks.length) = true := by simp; omega
  have hw : IntKind.i64.wrap ((ks.length : Int) + 1) = (ks.length : Int) + 1 := by rw [IntKind.wrap_i64]; omega
  have f7 : ((is.length : Int) == (ks.length : Int) + 1) = true := by simp; omega
  simp only [q3] at C4
  have C1 := hide C1
  have C2 := hide C2
  have C3 := hide C3
  have C4 := hide C4
  have K0 := N4.new w (.bool false) (.slice ak ks.length ck) (.slice av vs.length cv) (.slice ai is.length ci) 28
  have B0 : Below w.heap.size w (w.alloc (.cells #[.bool false, .slice ak ks.length ck, .slice av vs.length cv, .slice ai is.length ci] 28)) := (Below.refl _ _).alloc (Nat.le_refl _) _
  clear C3 a1 a2 g4 q1 q2 q3 q4
  obtain ⟨p0, p1, p2, p3, -, -, -, -, -⟩ := id K0
  go_enter Tryd.func21, Tryd.ntmps21
  go_wp2_with fail
  refine (unhide C1 _ B0).mono ?_
  rintro e w1 ⟨rfl, b1⟩
  have K1 := K0.later b1
  have B1 := B0.trans (b1.mono B0.size)
  clear p0 p1 p2 p3 b1 K0 B0
  obtain ⟨p0, p1, p2, p3, -, -, -, -, -⟩ := id K1
  go_wp2_with fail
  refine (unhide C2 _ B1).mono ?_
  rintro e w2 ⟨rfl, b2⟩
  have K2 := K1.later b2
  have B2 := B1.trans (b2.mono B1.size)
  clear p0 p1 p2 p3 b2 K1 B1
  obtain ⟨p0, p1, p2, p3, -, -, -, -, -⟩ := id K2
  go_wp2_with fail
  refine (unhide C4 _ B2).mono ?_
  rintro e w3 ⟨rfl, b3⟩
  have K3 := K2.later b3
  have B3 := B2.trans (b3.mono B2.size)
  clear p0 p1 p2 p3 b3 K2 B2
  obtain ⟨p0, p1, p2, p3, -, -, -, -, -⟩ := id K3
  go_wp2
  go_ret
  exact ⟨by rw [unhide E]; rfl, B3⟩

theorem nodeOk_forkFalse (w : World) (vk vv vi : Value) (ks vs : List ByteArray) (is : List Int) (hk : ReadsS w vk ks) (hv : ReadsS w vv vs) (hi : Reads w vi is) (g4 : ks.length ≤ 4) (a1 : ks.all keyL = true) (a2 : ascB ks = true) (q1 : vs.length = 0) (q2 : 1 ≤ ks.length) (q4 : is.length = ks.length + 1) (q3 : is.all isN = false) :
    Calls Tryd.prog 21 #[.agg #[.bool false, vk, vv, vi]] w fun e w' => e = .returned (.bool (nodB false ks vs is)) ∧ Below w.heap.size w w' := by
  have C1 := fun W (b : Below w.heap.size w W) => holdK_any W vk ks (hk.later b)
  have C2 := fun W (b : Below w.heap.size w W) => areAsc_any W vk ks (hk.later b)
  have C3 := fun W (b : Below w.heap.size w W) => holdV_any W vv vs (hv.later b)
  have C4 := fun W (b : Below w.heap.size w W) => holdN_any W vi is (hi.later b)
  have h1 : ks.length ≤ maxLen := by obtain ⟨_, _, _, _, _, r⟩ := hk; exact Nat.le_trans r.le r.big
  have h2 : vs.length ≤ maxLen := by obtain ⟨_, _, _, _, _, r⟩ := hv; exact Nat.le_trans r.le r.big
  have h3 : is.length ≤ maxLen := by obtain ⟨_, _, _, _, _, r⟩ := hi; exact Nat.le_trans r.le r.big
  obtain ⟨ak, bk, ok, ck, rfl, -⟩ := hk
  obtain ⟨av, bv, ov, cv, rfl, -⟩ := hv
  obtain ⟨ai, bi, oi, ci, rfl, -⟩ := hi
  unfold maxLen at h1 h2 h3
  have E := hide (show nodB false ks vs is = false by simp [nodB, keysB, g4, a1, a2, q1, q2, q4, q3])
  have f4 : decide ((4 : Int) < ks.length) = false := by simp; omega
  simp only [a1] at C1
  simp only [a2] at C2
  have f5 : ((vs.length : Int) == 0) = true := by simp [q1]
  have f6 : decide ((1 : Int) ≤ ks.length) = true := by simp; omega
  have hw : IntKind.i64.wrap ((ks.length : Int) + 1) = (ks.length : Int) + 1 := by rw [IntKind.wrap_i64]; omega
  have f7 : ((is.length : Int) == (ks.length : Int) + 1) = true := by simp; omega
  simp only [q3] at C4
  have C1 := hide C1
  have C2 := hide C2
  have C3 := hide C3
  have C4 := hide C4
  have K0 := N4.new w (.bool false) (.slice ak ks.length ck) (.slice av vs.length cv) (.slice ai is.length ci) 28
  have B0 : Below w.heap.size w (w.alloc (.cells #[.bool false, .slice ak ks.length ck, .slice av vs.length cv, .slice ai is.length ci] 28)) := (Below.refl _ _).alloc (Nat.le_refl _) _
  clear C3 a1 a2 g4 q1 q2 q3 q4
  obtain ⟨p0, p1, p2, p3, -, -, -, -, -⟩ := id K0
  go_enter Tryd.func21, Tryd.ntmps21
  go_wp2_with fail
  refine (unhide C1 _ B0).mono ?_
  rintro e w1 ⟨rfl, b1⟩
  have K1 := K0.later b1
  have B1 := B0.trans (b1.mono B0.size)
  clear p0 p1 p2 p3 b1 K0 B0
  obtain ⟨p0, p1, p2, p3, -, -, -, -, -⟩ := id K1
  go_wp2_with fail
  refine (unhide C2 _ B1).mono ?_
  rintro e w2 ⟨rfl, b2⟩
  have K2 := K1.later b2
  have B2 := B1.trans (b2.mono B1.size)
  clear p0 p1 p2 p3 b2 K1 B1
  obtain ⟨p0, p1, p2, p3, -, -, -, -, -⟩ := id K2
  go_wp2_with fail
  refine (unhide C4 _ B2).mono ?_
  rintro e w3 ⟨rfl, b3⟩
  have K3 := K2.later b3
  have B3 := B2.trans (b3.mono B2.size)
  clear p0 p1 p2 p3 b3 K2 B2
  obtain ⟨p0, p1, p2, p3, -, -, -, -, -⟩ := id K3
  go_wp2
  go_ret
  exact ⟨by rw [unhide E]; rfl, B3⟩

theorem implNodeOk_any (w : World) (lf : Bool) (vk vv vi : Value) (ks vs : List ByteArray) (is : List Int) (hk : ReadsS w vk ks) (hv : ReadsS w vv vs) (hi : Reads w vi is) :
    Calls Tryd.prog 21 #[.agg #[.bool lf, vk, vv, vi]] w fun e w' => e = .returned (.bool (nodB lf ks vs is)) ∧ Below w.heap.size w w' := by
  by_cases g4 : ks.length ≤ 4
  case neg => exact nodeOk_tooMany w vk vv vi ks vs is hk hv hi lf g4
  cases a1 : ks.all keyL
  · exact nodeOk_badKey w vk vv vi ks vs is hk hv hi lf g4 a1
  cases a2 : ascB ks
  · exact nodeOk_notAsc w vk vv vi ks vs is hk hv hi lf g4 a1 a2
  cases lf
  · by_cases q1 : vs.length = 0
    case neg => exact nodeOk_forkVals w vk vv vi ks vs is hk hv hi g4 a1 a2 q1
    by_cases q2 : 1 ≤ ks.length
    case neg => exact nodeOk_forkNone w vk vv vi ks vs is hk hv hi g4 a1 a2 q1 q2
    by_cases q4 : is.length = ks.length + 1
    case neg => exact nodeOk_forkLen w vk vv vi ks vs is hk hv hi g4 a1 a2 q1 q2 q4
    cases q3 : is.all isN
    · exact nodeOk_forkFalse w vk vv vi ks vs is hk hv hi g4 a1 a2 q1 q2 q4 q3
    · exact nodeOk_forkTrue w vk vv vi ks vs is hk hv hi g4 a1 a2 q1 q2 q4 q3
  · by_cases q1 : is.length = 0
    case neg => exact nodeOk_leafKids w vk vv vi ks vs is hk hv hi g4 a1 a2 q1
    by_cases q2 : vs.length = ks.length
    case neg => exact nodeOk_leafLen w vk vv vi ks vs is hk hv hi g4 a1 a2 q1 q2
    cases q3 : vs.all valL
    · exact nodeOk_leafFalse w vk vv vi ks vs is hk hv hi g4 a1 a2 q1 q2 q3
    · exact nodeOk_leafTrue w vk vv vi ks vs is hk hv hi g4 a1 a2 q1 q2 q3

end Go.Proofs.YtdefhpegabifjaaDoor
