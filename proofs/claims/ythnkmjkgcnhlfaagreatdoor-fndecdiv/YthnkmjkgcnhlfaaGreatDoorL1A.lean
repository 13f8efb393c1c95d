/- The specification's sum with signs, by a contract. -/
import Derived.Test.YthnkmjkgcnhlfaaGreatDoorH16
import Derived.Test.YthnkmjkgcnhlfaaGreatDoorH19
import Derived.Test.YthnkmjkgcnhlfaaGreatDoorH17
import Derived.Test.YthnkmjkgcnhlfaaGreatDoorH03
import Derived.WalkSpells
namespace Go.Proofs.YthnkmjkgcnhlfaaGreatDoor
open Go.RowKit
set_option maxRecDepth 100000


theorem l1Add_any (w : World) (p q : Bool) (u v : Value) (a b : Nat) (hu : Reads w u (L a)) (hv : Reads w v (L b)) (ha : a < 10000 ^ 199) (hb : b < 10000 ^ 199) (z : Int) (hz : z = zof p a + zof q b) :
    Calls Tryz.prog 89 #[.bool p, u, .bool q, v] w fun e w' => ∃ neg ao cap, e = .returned (.tuple #[.bool neg, .slice ao (L z.natAbs).length cap]) ∧ (z ≠ 0 → neg = sg z) ∧ Own w.heap.size w' (.slice ao (L z.natAbs).length cap) (L z.natAbs) ∧ Below w.heap.size w w' := by
  have ha' : a < 10000 ^ 200 := Nat.lt_of_lt_of_le ha (Nat.pow_le_pow_right (by decide) (by decide))
  have hb' : b < 10000 ^ 200 := Nat.lt_of_lt_of_le hb (Nat.pow_le_pow_right (by decide) (by decide))
  have key : ∀ (neg : Bool) (n : Nat), z = zof neg n → z.natAbs = n ∧ (z ≠ 0 → neg = sg z) := by
    intro neg n h
    subst h
    unfold zof sg
    cases neg <;> simp <;> omega
  by_cases hpq : p = q
  · subst hpq
    have hpp : (p == p) = true := by simp
    obtain ⟨k1, k2⟩ := key p (a + b) (by unfold zof at *; cases p <;> simp at * <;> omega)
    have C := hide (l1AddAbs_any w u v a b hu hv ha' hb')
    rw [k1]
    have K2 := hide k2
    clear key k1 k2 hz ha hb ha' hb' hu hv
    go_enter Tryz.func89, Tryz.ntmps89
    go_wp2_with fail
    refine (unhide C).mono ?_
    rintro e w1 ⟨ao1, cap1, rfl, o1, b1⟩
    go_wp2
    go_ret2
    exact ⟨p, ao1, cap1, rfl, unhide K2, o1, b1⟩
  · have hpp : (p == q) = false := by simp [hpq]
    have CA := hide (l1CmpAbs_any w u v a b hu hv)
    by_cases hab : b ≤ a
    · have hge : (0 : Int) ≤ cmpZ a b := by
        by_cases e : a = b
        · rw [cmpZ_eq (by omega)]; omega
        · rw [cmpZ_gt (by omega)]; omega
      obtain ⟨k1, k2⟩ := key p (a - b) (by unfold zof at *; cases p <;> cases q <;> simp at * <;> omega)
      have C := hide (fun W (h : Below w.heap.size w W) => l1SubAbs_any W u v a b (hu.later h) (hv.later h) ha' hab)
      rw [k1]
      have K2 := hide k2
      clear key k1 k2 hz ha hb ha' hb' hu hv hab hpq
      go_enter Tryz.func89, Tryz.ntmps89
      go_wp2_with fail
      refine (unhide CA).mono ?_
      rintro e w1 ⟨rfl, b1⟩
      go_wp2_with fail
      refine (unhide C w1 b1).mono ?_
      rintro e w2 ⟨ao2, cap2, rfl, o2, b2⟩
      go_wp2
      go_ret2
      exact ⟨p, ao2, cap2, rfl, unhide K2, o2.mono b1.size, b1.trans (b2.mono b1.size)⟩
    · have hge : cmpZ a b < 0 := by rw [cmpZ_lt (by omega)]; omega
      obtain ⟨k1, k2⟩ := key q (b - a) (by unfold zof at *; cases p <;> cases q <;> simp at * <;> omega)
      have C := hide (fun W (h : Below w.heap.size w W) => l1SubAbs_any W v u b a (hv.later h) (hu.later h) hb' (by omega))
      rw [k1]
      have K2 := hide k2
      clear key k1 k2 hz ha hb ha' hb' hu hv hab hpq
      go_enter Tryz.func89, Tryz.ntmps89
      go_wp2_with fail
      refine (unhide CA).mono ?_
      rintro e w1 ⟨rfl, b1⟩
      go_wp2_with fail
      refine (unhide C w1 b1).mono ?_
      rintro e w2 ⟨ao2, cap2, rfl, o2, b2⟩
      go_wp2
      go_ret2
      exact ⟨q, ao2, cap2, rfl, unhide K2, o2.mono b1.size, b1.trans (b2.mono b1.size)⟩

end Go.Proofs.YthnkmjkgcnhlfaaGreatDoor
