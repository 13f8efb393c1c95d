/- What numbers answer; l1Big of the specification. -/
import Derived.Test.YtocpnihidfbijaaBigB1
import Derived.Test.YtocpnihidfbijaaSpA0
import Derived.Test.YtocpnihidfbijaaOkA0
namespace Go.Proofs.Ytocpnihidfbijaa
open Go.RowKit
set_option maxRecDepth 100000



/-- A number that was made, if it is not too long; nothing, if it is, or if it was not asked of what is ok. -/
def outR (ok : Bool) (z : Int) : Bool × List Int × Bool := if ok = true ∧ (L z.natAbs).length ≤ 16 then (sg z, L z.natAbs, true) else (false, [], false)

/-- What a call answers that hands out a number of its own, and whether. -/
def GivesBig2 (w : World) (o : Bool × List Int × Bool) (e : Ending) (w' : World) : Prop :=
  ∃ ao cap, e = .returned (.tuple #[.agg #[.bool o.1, .slice ao o.2.1.length cap], .bool o.2.2]) ∧ Own w.heap.size w' (.slice ao o.2.1.length cap) o.2.1 ∧ Below w.heap.size w w'

/-- The number that a sign and limbs are. -/
def zv (neg : Bool) (l : List Int) : Int := zof neg (val l).toNat

theorem okB_iff {neg : Bool} {l : List Int} : okB neg l = true ↔ OkBig neg l := by simp [okB]

/-- What is ok has the limbs of its number. -/
theorem ok_limbs {neg : Bool} {l : List Int} (h : okB neg l = true) : l = L (val l).toNat ∧ (val l).toNat < 10000 ^ 16 := by
  obtain ⟨h1, h2, _, h4⟩ := okB_iff.1 h
  have e := L_of h2 h4
  refine ⟨e, lt_of_L_len ?_⟩
  rw [← e]
  exact h1

theorem ok_sign {neg : Bool} {l : List Int} (h : okB neg l = true) : neg = sg (zv neg l) := by
  obtain ⟨e, _⟩ := ok_limbs h
  obtain ⟨h1, h2, h3, h4⟩ := okB_iff.1 h
  unfold sg zv zof
  cases neg
  · simp
    omega
  · have hl : l ≠ [] := fun k => by have := h3 k; cases this
    have hn : (val l).toNat ≠ 0 := fun k => hl (by rw [e, k, L_zero])
    simp
    omega

theorem pow16 {n k : Nat} (h : n < 10000 ^ 16) (hk : 16 ≤ k) : n < 10000 ^ k := Nat.lt_of_lt_of_le h (Nat.pow_le_pow_right (by decide) hk)

theorem l1Big_any (w : World) (neg : Bool) (v : Value) (z : Int) (hneg : z ≠ 0 → neg = sg z) (hr : Reads w v (L z.natAbs)) (hz : z.natAbs < 10000 ^ 200) :
    Calls Try.prog 10 #[.bool neg, v] w (GivesBig2 w (outR true z)) := by
  have hl := L_len_le hz
  have ht : trim (L z.natAbs) = L z.natAbs := trim_self (L_last _)
  have hcall := fun o => l1Trim_any (w.alloc o) v (L z.natAbs) (hr.alloc o) (by omega)
  rw [ht] at hcall
  have eo1 : 16 < (L z.natAbs).length → outR true z = (false, [], false) := fun h => by unfold outR; rw [if_neg (by omega)]
  have eo2 : ¬ 16 < (L z.natAbs).length → outR true z = (sg z, L z.natAbs, true) := fun h => by unfold outR; rw [if_pos ⟨rfl, by omega⟩]
  have e0 : (L z.natAbs).length = 0 → sg z = false := fun h => by
    have := L_len_zero.1 h
    have e : z = 0 := by omega
    simp [sg, e]
  have e1 : (L z.natAbs).length ≠ 0 → neg = sg z := fun h => hneg (fun k => h (by simp [k, L_zero]))
  clear hneg ht hz
  generalize outR true z = O at *
  generalize L z.natAbs = ll at *
  generalize sg z = sz at *
  have HC := hide hcall
  obtain ⟨ao, b, off, cap, rfl, hr⟩ := hr
  clear hr hcall
  have E1 := hide e1
  have E0 := hide e0
  have EO1 := hide eo1
  have EO2 := hide eo2
  clear e0 e1 eo1 eo2
  go_enter Try.func10, Try.ntmps10
  go_wp2_with fail
  refine (unhide HC _).mono ?_
  rintro e w1 ⟨ao1, cap1, rfl, o1, b1⟩
  obtain ⟨hc, hf⟩ := bcell b1
  have hsz : w.heap.size < w1.heap.size := by have := b1.size; simp at this; omega
  have fin : Below w.heap.size w w1 := ((Below.refl _ _).alloc (Nat.le_refl _) _).trans (b1.mono (by simp))
  have fin2 : ∀ x y, Below w.heap.size w ((w1.setCell ⟨w.heap.size, 0, none⟩ x).setCell ⟨w.heap.size, 1, none⟩ y) := fun x y => (fin.setCell (Nat.le_refl _) _).setCell (Nat.le_refl _) _
  have fin3 : ∀ x y, Own w.heap.size ((w1.setCell ⟨w.heap.size, 0, none⟩ x).setCell ⟨w.heap.size, 1, none⟩ y) (.slice ao1 ll.length cap1) ll := fun x y => ((o1.setBelow (by simp) x).setBelow (by simp) y).mono (by simp)
  clear o1
  by_cases h16 : 16 < ll.length
  · have Heo := hide (unhide EO1 h16)
    go_wp2
    refine bodyPost_ret (v := .tuple #[.agg #[.bool false, .slice none 0 0], .bool false]) (by simp [results, Try.results10, go_sem, hc]) rfl ?_
    rw [unhide Heo]
    exact ⟨none, 0, rfl, Own.nil _ _, fin2 _ _⟩
  · have Heo := hide (unhide EO2 h16)
    by_cases h0 : ll.length = 0
    · have Es := hide (unhide E0 h0)
      have hz1 : ¬ 0 < ll.length := by omega
      clear h0
      cases neg
      all_goals
        go_wp2
        refine bodyPost_ret (v := .tuple #[.agg #[.bool false, .slice ao1 ll.length cap1], .bool true]) (by simp [results, Try.results10, go_sem, hc]) rfl ?_
        rw [unhide Heo, unhide Es]
        exact ⟨ao1, cap1, rfl, fin3 _ _, fin2 _ _⟩
    · have Es := hide (unhide E1 h0)
      have hp : 0 < ll.length := by omega
      clear h0
      cases neg
      · go_wp2
        refine bodyPost_ret (v := .tuple #[.agg #[.bool false, .slice ao1 ll.length cap1], .bool true]) (by simp [results, Try.results10, go_sem, hc]) rfl ?_
        rw [unhide Heo, ← unhide Es]
        exact ⟨ao1, cap1, rfl, fin3 _ _, fin2 _ _⟩
      · go_wp2
        refine bodyPost_ret (v := .tuple #[.agg #[.bool true, .slice ao1 ll.length cap1], .bool true]) (by simp [results, Try.results10, go_sem, hc]) rfl ?_
        rw [unhide Heo, ← unhide Es]
        exact ⟨ao1, cap1, rfl, fin3 _ _, fin2 _ _⟩

end Go.Proofs.Ytocpnihidfbijaa
