/- A sign and limbs; a number that is not too long. -/
import Derived.Test.YthnkmjkgcnhlfaaGreatDoorH10
import Derived.Deep.RegionWith
namespace Go.Proofs.YthnkmjkgcnhlfaaGreatDoor
open Go.RowKit
set_option maxRecDepth 100000

/-- A number that is not too long, and whether. -/
theorem bounded_any (w : World) (neg : Bool) (ao : Option Addr) (n cap : Nat) :
    Calls Tryz.prog 75 #[.agg #[.bool neg, .slice ao n cap]] w fun e w' => e = .returned (if 16 < n then .tuple #[.agg #[.bool false, .slice none 0 0], .bool false] else .tuple #[.agg #[.bool neg, .slice ao n cap], .bool true]) ∧ Below w.heap.size w w' := by
  by_cases h : 16 < n
  · rw [if_pos h]
    go_enter Tryz.func75, Tryz.ntmps75
    go_wp2
    refine bodyPost_ret (v := .tuple #[.agg #[.bool false, .slice none 0 0], .bool false]) (by simp [results, Tryz.results75, go_sem]) rfl ⟨rfl, ?_⟩
    exact ((Below.refl _ _).alloc (Nat.le_refl _) _).alloc (by simp) _
  · rw [if_neg h]
    go_enter Tryz.func75, Tryz.ntmps75
    go_wp2
    refine bodyPost_ret (v := .tuple #[.agg #[.bool neg, .slice ao n cap], .bool true]) (by simp [results, Tryz.results75, go_sem]) rfl ⟨rfl, ?_⟩
    exact ((Below.refl _ _).alloc (Nat.le_refl _) _).alloc (by simp) _

end Go.Proofs.YthnkmjkgcnhlfaaGreatDoor
