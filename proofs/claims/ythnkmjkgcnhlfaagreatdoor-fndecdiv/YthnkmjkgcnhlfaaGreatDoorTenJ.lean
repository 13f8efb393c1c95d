/- BigTen of the program, by a contract. -/
import Derived.Test.YthnkmjkgcnhlfaaGreatDoorH09
import Derived.Test.YthnkmjkgcnhlfaaGreatDoorK06
namespace Go.Proofs.YthnkmjkgcnhlfaaGreatDoor
open Go.RowKit
set_option maxRecDepth 100000

theorem sg_nat10 (n : Nat) : sg (n : Int) = false := by
  unfold sg
  rw [decide_eq_false_iff_not]
  omega

/-- What BigTen answers. -/
def tenR (n : Int) : Bool × List Int × Bool := if 0 ≤ n ∧ n ≤ 63 then (false, L (10 ^ n.toNat), true) else (false, [], false)

theorem ten_outR {n : Nat} (h : n ≤ 63) : outR true ((10 ^ n : Nat) : Int) = (false, L (10 ^ n), true) := by
  unfold outR
  have hlt : 10 ^ n < 10000 ^ 16 := by
    have e : (10000 : Nat) ^ 16 = 10 ^ 64 := by decide
    rw [e]
    exact Nat.pow_lt_pow_right (by decide) (by omega)
  rw [if_pos ⟨rfl, by rw [Int.natAbs_natCast]; exact L_len_le hlt⟩, Int.natAbs_natCast]
  rw [sg_nat10]

theorem pow64 {n : Nat} (h : n ≤ 63) : 10 ^ n < 10000 ^ 200 := by
  have e : (10000 : Nat) ^ 16 = 10 ^ 64 := by decide
  refine pow16 ?_ (by decide)
  rw [e]
  exact Nat.pow_lt_pow_right (by decide) (by omega)

theorem implBigTen_any (w : World) (n : Int) :
    Calls Tryz.prog 31 #[.int .i64 n] w (GivesBig2 w (tenR n)) := by
  have K0 : EBox' w (w.alloc (.cells #[.bool false, .slice none 0 0] 25)) := EBox'.start w
  by_cases h : 0 ≤ n ∧ n ≤ 63
  · obtain ⟨k, rfl⟩ := Int.eq_ofNat_of_zero_le h.1
    have hk : k ≤ 63 := by omega
    have hk0 : decide ((k : Int) < 0) = false := by rw [decide_eq_false_iff_not]; omega
    have et : tenR (k : Int) = (false, L (10 ^ k), true) := by unfold tenR; rw [if_pos h]; simp
    rw [et]
    have C1 := hide (fun W => tenLimbs_any W k (by omega))
    have hl : (L (10 ^ k)).length ≠ 0 := fun e => by have := L_len_zero.1 e; have h1 := Nat.pow_pos (n := k) (show 0 < 10 by decide); omega
    have c2 := fun W ao cap => signed_any W false ao (L (10 ^ k)).length cap
    simp only [if_neg hl] at c2
    have C2 := hide c2
    clear c2
    clear h et hl
    generalize L (10 ^ k) = ll at *
    go_enter Tryz.func31, Tryz.ntmps31
    go_wp2_with fail
    refine (unhide C1 _).mono ?_
    rintro e w2 ⟨ao2, cap2, rfl, o2, b2⟩
    have K2 := K0.later b2
    clear b2 K0
    go_wp2_with fail
    refine (unhide C2 _ ao2 cap2).mono ?_
    rintro e w3 ⟨rfl, b3⟩
    have K3 := K2.later b3
    have o3 := o2.later b3
    obtain ⟨kb, kr0, kr1, kf0, kf1, kl⟩ := id K3
    clear b3 o2
    go_wp2
    refine bodyPost_ret (v := .tuple #[.agg #[.bool false, .slice ao2 ll.length cap2], .bool true]) (by simp [results, Tryz.results31, go_sem, kr0, kr1]) rfl ?_
    exact ⟨ao2, cap2, rfl, ((o3.setBelow (by simp) _).setBelow (by simp) _).mono (by simp), (kb.setCell (by simp) _).setCell (by simp) _⟩
  · have et := hide (by unfold tenR; rw [if_neg h] : tenR n = (false, [], false))
    by_cases hneg : n < 0
    · have hd : decide (n < 0) = true := by simpa using hneg
      clear h
      go_enter Tryz.func31, Tryz.ntmps31
      go_wp2
      refine bodyPost_ret (v := .tuple #[.agg #[.bool false, .slice none 0 0], .bool false]) (by simp [results, Tryz.results31, go_sem]) rfl ?_
      rw [unhide et]
      exact ⟨none, 0, rfl, Own.nil _ _, K0.below⟩
    · have hd : decide (n < 0) = false := by simpa using hneg
      have hb : 64 ≤ n := by omega
      clear h
      go_enter Tryz.func31, Tryz.ntmps31
      go_wp2
      refine bodyPost_ret (v := .tuple #[.agg #[.bool false, .slice none 0 0], .bool false]) (by simp [results, Tryz.results31, go_sem]) rfl ?_
      rw [unhide et]
      exact ⟨none, 0, rfl, Own.nil _ _, K0.below⟩

end Go.Proofs.YthnkmjkgcnhlfaaGreatDoor
