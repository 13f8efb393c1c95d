/- turned and signOf of the program, by contracts. -/
import Derived.Test.YtomcgnkmlmiijaaDoorBgT
import Derived.Test.YtomcgnkmlmiijaaDoorGb
import Derived.Deep.RegionWith
namespace Go.Proofs.YtomcgnkmlmiijaaDoor
open Go.RowKit
set_option maxRecDepth 100000

theorem signOf_any (w : World) (v : Value) (z : Int) (hr : Reads w v (L z.natAbs)) :
    Calls Tryd.prog 25 #[.agg #[.bool (sg z), v]] w fun e w' => e = .returned (.int .i64 (if z < 0 then -1 else if 0 < z then 1 else 0)) ∧ Below w.heap.size w w' := by
  obtain ⟨ao, b, off, cap, rfl, hr⟩ := hr
  clear hr
  rcases Int.lt_trichotomy z 0 with h | h | h
  · rw [if_pos h, show sg z = true by simp [sg, h]]
    go_enter Tryd.func25, Tryd.ntmps25
    go_wp2
    go_ret
    exact ⟨rfl, (Below.refl _ _).alloc (Nat.le_refl _) _⟩
  · subst h
    have e0 : (L (0 : Int).natAbs).length = 0 := by simp [L_zero]
    rw [e0, show sg 0 = false by simp [sg]]
    go_enter Tryd.func25, Tryd.ntmps25
    go_wp2
    go_ret
    exact ⟨rfl, (Below.refl _ _).alloc (Nat.le_refl _) _⟩
  · have hl : (L z.natAbs).length ≠ 0 := fun k => by have := L_len_zero.1 k; omega
    have hl' : (((L z.natAbs).length : Int) == 0) = false := by simp; intro e; exact hl (by rw [e]; rfl)
    rw [if_neg (by omega), if_pos h, show sg z = false by simp [sg]; omega]
    clear hl
    go_enter Tryd.func25, Tryd.ntmps25
    go_wp2
    go_ret
    exact ⟨rfl, (Below.refl _ _).alloc (Nat.le_refl _) _⟩

end Go.Proofs.YtomcgnkmlmiijaaDoor
