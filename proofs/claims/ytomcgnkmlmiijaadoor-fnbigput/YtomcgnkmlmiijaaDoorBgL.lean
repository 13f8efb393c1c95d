/- What numbers answer; l1Big of the specification. -/
import Derived.Test.YtomcgnkmlmiijaaDoorBgO
import Derived.Test.YtomcgnkmlmiijaaDoorGb
import Derived.Test.YtomcgnkmlmiijaaDoorSpA0
import Derived.Test.YtomcgnkmlmiijaaDoorGh
namespace Go.Proofs.YtomcgnkmlmiijaaDoor
open Go.RowKit
set_option maxRecDepth 100000

theorem l1Big_any (w : World) (neg : Bool) (v : Value) (z : Int) (hneg : z ≠ 0 → neg = sg z) (hr : Reads w v (L z.natAbs)) (hz : z.natAbs < 10000 ^ 200) :
    Calls Tryd.prog 35 #[.bool neg, v] w (GivesBig2 w (outR true z)) := by
  have hl := L_len_le hz
  have ht : trim (L z.natAbs) = L z.natAbs := trim_self (L_last _)
  have hcall := fun o => l1Trim_any (w.alloc o) v (L z.natAbs) (hr.alloc o) (by omega)
  rw [ht] at hcall
  have eo1 : 16 < (L z.natAbs).length → outR true z = (false, [], false) := fun h => by unfold outR; rw [if_neg (by omega)]
  have eo2 : ¬ 16 < (L z.natAbs).length → outR true z = (sg z, L z.natAbs, true) := fun h => by unfold outR; rw [if_pos ⟨rfl, by omega⟩]
  have e0 : (L z.natAbs).length = 0 → sg z = false := fun h => by
    have := L_len_zero.1 h
    have e : z = 0 := by omega
    simp [sg, e]
  have e1 : (L z.natAbs).length ≠ 0 → neg = sg z := fun h => hneg (fun k => h (by simp [k, L_zero]))
  clear hneg ht hz
  generalize outR true z = O at *
  generalize L z.natAbs = ll at *
  generalize sg z = sz at *
  have HC := hide hcall
  obtain ⟨ao, b, off, cap, rfl, hr⟩ := hr
  clear hr hcall
  have E1 := hide e1
  have E0 := hide e0
  have EO1 := hide eo1
  have EO2 := hide eo2
  clear e0 e1 eo1 eo2
  go_enter Tryd.func35, Tryd.ntmps35
  go_wp2_with fail
  refine (unhide HC _).mono ?_
  rintro e w1 ⟨ao1, cap1, rfl, o1, b1⟩
  obtain ⟨hc, hf⟩ := bcell b1
  have hsz : w.heap.size < w1.heap.size := by have := b1.size; simp at this; omega
  have fin : Below w.heap.size w w1 := ((Below.refl _ _).alloc (Nat.le_refl _) _).trans (b1.mono (by simp))
  have fin2 : ∀ x y, Below w.heap.size w ((w1.setCell ⟨w.heap.size, 0, none⟩ x).setCell ⟨w.heap.size, 1, none⟩ y) := fun x y => (fin.setCell (Nat.le_refl _) _).setCell (Nat.le_refl _) _
  have fin3 : ∀ x y, Own w.heap.size ((w1.setCell ⟨w.heap.size, 0, none⟩ x).setCell ⟨w.heap.size, 1, none⟩ y) (.slice ao1 ll.length cap1) ll := fun x y => ((o1.setBelow (by simp) x).setBelow (by simp) y).mono (by simp)
  clear o1
  by_cases h16 : 16 < ll.length
  · have Heo := hide (unhide EO1 h16)
    go_wp2
    refine bodyPost_ret (v := .tuple #[.agg #[.bool false, .slice none 0 0], .bool false]) (by simp [results, Tryd.results35, go_sem, hc]) rfl ?_
    rw [unhide Heo]
    exact ⟨none, 0, rfl, Own.nil _ _, fin2 _ _⟩
  · have Heo := hide (unhide EO2 h16)
    by_cases h0 : ll.length = 0
    · have Es := hide (unhide E0 h0)
      have hz1 : ¬ 0 < ll.length := by omega
      clear h0
      cases neg
      all_goals
        go_wp2
        refine bodyPost_ret (v := .tuple #[.agg #[.bool false, .slice ao1 ll.length cap1], .bool true]) (by simp [results, Tryd.results35, go_sem, hc]) rfl ?_
        rw [unhide Heo, unhide Es]
        exact ⟨ao1, cap1, rfl, fin3 _ _, fin2 _ _⟩
    · have Es := hide (unhide E1 h0)
      have hp : 0 < ll.length := by omega
      clear h0
      cases neg
      · go_wp2
        refine bodyPost_ret (v := .tuple #[.agg #[.bool false, .slice ao1 ll.length cap1], .bool true]) (by simp [results, Tryd.results35, go_sem, hc]) rfl ?_
        rw [unhide Heo, ← unhide Es]
        exact ⟨ao1, cap1, rfl, fin3 _ _, fin2 _ _⟩
      · go_wp2
        refine bodyPost_ret (v := .tuple #[.agg #[.bool true, .slice ao1 ll.length cap1], .bool true]) (by simp [results, Tryd.results35, go_sem, hc]) rfl ?_
        rw [unhide Heo, ← unhide Es]
        exact ⟨ao1, cap1, rfl, fin3 _ _, fin2 _ _⟩

end Go.Proofs.YtomcgnkmlmiijaaDoor
