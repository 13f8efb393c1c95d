/- The law FnExactNodePut: its walk. -/
import Derived.Test.YtdefhpegabifjaaDoorNdW
namespace Go.Proofs.YtdefhpegabifjaaDoor
open Go.RowKit
set_option maxRecDepth 100000
set_option linter.unusedSimpArgs false
set_option linter.unusedVariables false

set_option maxHeartbeats 4000000 in
theorem xNodePut_walk (w : World) (lf : Bool) (vk vv vi : Value) (ks vs : List ByteArray) (is : List Int) (hk : ReadsS w vk ks) (hv : ReadsS w vv vs) (hi : Reads w vi is) (tt : Tab w) :
    Calls Tryd.prog 3 #[.agg #[.bool lf, vk, vv, vi]] w fun e w' => e = .returned (.bool true) ∧ Below w.heap.size w w' := by
  have CZ := hide (fun W (h : Below w.heap.size w W) => szNode_any W lf vk vv vi ks vs is 1048576 (hk.later h) (hv.later h) (hi.later h) (by omega) (by omega))
  have CT := hide (fun W (h : Below w.heap.size w W) => toNode_any W lf vk vv vi ks vs is (hk.later h) (hv.later h) (hi.later h))
  have K0 := N4.new w (.bool lf) vk vv vi 25
  have B0 : Below w.heap.size w (w.alloc (.cells #[.bool lf, vk, vv, vi] 25)) := (Below.refl _ _).alloc (Nat.le_refl _) _
  clear hk hv hi
  obtain ⟨p0, p1, p2, p3, -, -, -, -, -⟩ := id K0
  go_enter Tryd.func3, Tryd.ntmps3
  go_wp2_with fail
  refine (unhide CZ _ B0).mono ?_
  rintro e w1 ⟨⟨r, rfl, hr⟩, b1⟩
  have K1 := K0.later b1
  have B1 := B0.trans (b1.mono B0.size)
  clear p0 p1 p2 p3 K0 B0 b1 CZ
  by_cases hneg : r < 0
  · clear K1
    go_wp2
    go_ret
    exact ⟨rfl, B1⟩
  obtain ⟨-, -, lk, lv, li⟩ : 0 ≤ r ∧ r ≤ 1048576 ∧ ks.length ≤ 1048576 ∧ vs.length ≤ 1048576 ∧ is.length ≤ 1048576 := by omega
  clear hr
  have CT := hide (fun W h => unhide CT W h lk lv li)
  obtain ⟨p0, p1, p2, p3, -, -, -, -, -⟩ := id K1
  go_wp2_with fail
  refine (unhide CT _ B1).mono ?_
  rintro e w2 ⟨ak, ck, av, cv, ai, ci, rfl, rk, rv, ri, b2⟩
  have K2 := K1.later b2
  have B2 := B1.trans (b2.mono B1.size)
  clear p0 p1 p2 p3 K1 B1 b2
  go_wp2_with fail
  refine (specNodePut_any w2 lf _ _ _ ks vs is rk rv ri).mono ?_
  rintro e w3 ⟨rfl, b3⟩
  have K3 := K2.later b3
  have B3 := B2.trans (b3.mono B2.size)
  clear K2 B2 b3 rk rv ri
  obtain ⟨p0, p1, p2, p3, -, -, -, -, -⟩ := id K3
  go_wp2_with fail
  refine (unhide CT _ B3).mono ?_
  rintro e w4 ⟨ak, ck, av, cv, ai, ci, rfl, rk, rv, ri, b4⟩
  have bA := (Below.refl w4.heap.size w4).alloc (Nat.le_refl _) (.cells #[.bool lf, .slice ak ks.length ck, .slice av vs.length cv, .slice ai is.length ci] 28)
  have K4 := (K3.later b4).later bA
  have X4 := N4.new w4 (.bool lf) (.slice ak ks.length ck) (.slice av vs.length cv) (.slice ai is.length ci) 28
  have B4 := (B3.trans (b4.mono B3.size)).trans (bA.mono (B3.trans (b4.mono B3.size)).size)
  have rk := rk.later bA
  have rv := rv.later bA
  have ri := ri.later bA
  clear p0 p1 p2 p3 K3 B3 b4 bA
  obtain ⟨q0, q1, q2, q3, -, -, -, -, -⟩ := id X4
  go_wp2_with fail
  refine (implNodePut_any _ lf _ _ _ ks vs is rk rv ri (tt.later B4)).mono ?_
  rintro e w5 ⟨rfl, b5⟩
  have K5 := K4.later b5
  have X5 := X4.later b5
  have B5 := B4.trans (b5.mono B4.size)
  have RK := hide (rk.later b5)
  have RV := hide (rv.later b5)
  have RI := hide (ri.later b5)
  clear q0 q1 q2 q3 K4 X4 B4 b5 rk rv ri
  generalize nodePutR lf ks vs is = T
  have hT : (T.toList != T.toList) = false := by simp
  have hT2 : (T.toList == T.toList) = true := by simp
  obtain ⟨p0, p1, p2, p3, -, -, -, -, -⟩ := id K5
  obtain ⟨q0, q1, q2, q3, -, -, -, -, -⟩ := id X5
  have Stab := hide (fun (w' : World) (h : Below w5.heap.size w5 w') => (⟨(K5.later h).c0, (K5.later h).c1, (K5.later h).c2, (K5.later h).c3, (X5.later h).c0, (X5.later h).c1, (X5.later h).c2, (X5.later h).c3⟩ : w'.cell? ⟨w.heap.size, 0, none⟩ = some (.bool lf) ∧ w'.cell? ⟨w.heap.size, 1, none⟩ = some vk ∧ w'.cell? ⟨w.heap.size, 2, none⟩ = some vv ∧ w'.cell? ⟨w.heap.size, 3, none⟩ = some vi ∧ w'.cell? ⟨w4.heap.size, 0, none⟩ = some (.bool lf) ∧ w'.cell? ⟨w4.heap.size, 1, none⟩ = some (.slice ak ks.length ck) ∧ w'.cell? ⟨w4.heap.size, 2, none⟩ = some (.slice av vs.length cv) ∧ w'.cell? ⟨w4.heap.size, 3, none⟩ = some (.slice ai is.length ci)))
  go_wp2
  go_region_held3 (fun w' => w'.cell? ⟨w.heap.size, 0, none⟩ = some (.bool lf) ∧ w'.cell? ⟨w.heap.size, 1, none⟩ = some vk ∧ w'.cell? ⟨w.heap.size, 2, none⟩ = some vv ∧ w'.cell? ⟨w.heap.size, 3, none⟩ = some vi ∧ w'.cell? ⟨w4.heap.size, 0, none⟩ = some (.bool lf) ∧ w'.cell? ⟨w4.heap.size, 1, none⟩ = some (.slice ak ks.length ck) ∧ w'.cell? ⟨w4.heap.size, 2, none⟩ = some (.slice av vs.length cv) ∧ w'.cell? ⟨w4.heap.size, 3, none⟩ = some (.slice ai is.length ci))
    (first | exact unhide Stab _ (Below.refl _ _).drew | (refine unhide Stab _ ?_; assumption))
    (first
      | (go_at_call 7; refine (unhide CT _ B5.drew).mono ?_; rintro e w6 ⟨ak6, ck6, av6, cv6, ai6, ci6, rfl, rk6, rv6, ri6, b6⟩; have BX : Below w5.heap.size w5 w6 := (Below.refl _ _).drew.trans b6)
      | (go_at_call 9; refine (eqNode_same _ lf _ _ _ _ _ _ ks vs is ((unhide RK).later BX) ((unhide RV).later BX) ((unhide RI).later BX) rk6 rv6 ri6).mono ?_; rintro e w7 ⟨rfl, b7⟩; have BY : Below w5.heap.size w5 w7 := BX.trans (b7.mono BX.size)))
  go_wp2
  go_ret
  exact ⟨rfl, B5.trans (BY.mono B5.size)⟩

end Go.Proofs.YtdefhpegabifjaaDoor
