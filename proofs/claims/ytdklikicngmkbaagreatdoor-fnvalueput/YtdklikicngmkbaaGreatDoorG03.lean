/- Marks laid over a decimal, and held. Cells that are written, and those beside. -/
import Derived.Test.YtdklikicngmkbaaGreatDoorG02
import Derived.Test.YtdklikicngmkbaaGreatDoorProg
import Derived.Test.YtdklikicngmkbaaGreatDoorG01
import Derived.WalkKit
import Derived.WalkSmall
import Derived.WalkLawsBesides
import Derived.Below
import Derived.Deep.QuietTactic
import Derived.BigQuiet
namespace Go.Proofs.YtdklikicngmkbaaGreatDoor
open Go.RowKit


theorem markDec_any (w : World) (B : Nat) (p : Bool) (v : Value) (l : List Int) (s k : Int) (ho : Own B w v l) (hl : l.length ≤ 1048576) (h0 : 0 ≤ k) (h1 : k ≤ 2097152) :
    Calls Tryz.prog 55 #[.agg #[.bool p, v, .int .i64 s], .int .i64 k] w fun e w' => e = .returned (.int .i64 (k + l.length)) ∧ Own B w' v (marks k l.length) ∧ w.grownBy w' v.ownBlock := by
  have h := fun o => markBig_any (w.alloc o) B p v l k (ho.later ((Below.refl _ _).alloc (Nat.le_refl _) o)) hl h0 h1
  have H := hide h
  clear h
  go_enter Tryz.func55, Tryz.ntmps55
  go_wp2_with fail
  refine (unhide H _).mono ?_
  rintro e w1 ⟨rfl, hown, hgr⟩
  go_wp2
  go_ret
  exact ⟨rfl, hown, grown_trans (World.grownBy_alloc _ _ _) hgr⟩

theorem heldDec_any (w : World) (p : Bool) (v : Value) (s k : Int) (n : Nat) (hr : Reads w v (marks k n)) (hl : n ≤ 1048576) (h0 : 0 ≤ k) (h1 : k ≤ 2097152) :
    Calls Tryz.prog 56 #[.agg #[.bool p, v, .int .i64 s], .int .i64 k] w fun e w' => e = .returned (.int .i64 (k + n)) ∧ Below w.heap.size w w' := by
  have h := fun o => heldBig_any (w.alloc o) p v k n (hr.alloc o) hl h0 h1
  have H := hide h
  clear h
  have hk : 0 ≤ k + n := by omega
  go_enter Tryz.func56, Tryz.ntmps56
  go_wp2_with fail
  refine (unhide H _).mono ?_
  rintro e w1 ⟨rfl, hb⟩
  go_wp2
  go_ret
  exact ⟨rfl, ((Below.refl _ _).alloc (Nat.le_refl _) _).trans (hb.mono (by simp))⟩

end Go.Proofs.YtdklikicngmkbaaGreatDoor

namespace Go.Proofs.YtdklikicngmkbaaGreatDoor
open Go.RowKit

theorem cell_hit {w : World} {b i : Nat} {u : Value} (h : w.cell? ⟨b, i, none⟩ = some u) (x : Value) : (w.setCell ⟨b, i, none⟩ x).cell? ⟨b, i, none⟩ = some x := by go_simp

theorem cell_pass {w : World} {b i : Nat} {u : Value} (h : w.cell? ⟨b, i, none⟩ = some u) {j : Nat} (hj : i ≠ j) (x : Value) : (w.setCell ⟨b, j, none⟩ x).cell? ⟨b, i, none⟩ = some u := by go_simp

end Go.Proofs.YtdklikicngmkbaaGreatDoor
