/- Whether two decimals are the same, whatever comes of it: jtDec by a contract. -/
import Derived.Test.YthnkmjkgcnhlfaaGreatDoorH07
import Derived.Test.YthnkmjkgcnhlfaaGreatDoorH08
namespace Go.Proofs.YthnkmjkgcnhlfaaGreatDoor
open Go.RowKit
set_option maxRecDepth 100000

theorem jtBig_any (w : World) (p q : Bool) (u v : Value) (l m : List Int) (hu : Reads w u l) (hv : Reads w v m) :
    Calls Tryz.prog 52 #[.agg #[.bool p, u], .agg #[.bool q, v]] w fun e w' => (∃ b, e = .returned (.bool b)) ∧ Below w.heap.size w w' := by
  have B0 : Below w.heap.size w ((w.alloc (.cells #[.bool p, u] 25)).alloc (.cells #[.bool q, v] 25)) := ((Below.refl _ _).alloc (Nat.le_refl _) _).alloc (by simp) _
  have C := hide (jtInts_any _ u v l m (hu.later B0) (hv.later B0))
  obtain ⟨ao, b, off, cap, rfl, hu⟩ := hu
  obtain ⟨ao', b', off', cap', rfl, hv⟩ := hv
  clear hu hv
  cases hpq : p == q
  · go_enter Tryz.func52, Tryz.ntmps52
    go_wp2
    go_ret
    exact ⟨⟨_, rfl⟩, B0⟩
  · go_enter Tryz.func52, Tryz.ntmps52
    go_wp2_with fail
    refine (unhide C).mono ?_
    rintro e w1 ⟨rfl, b1⟩
    have B1 := B0.trans (b1.mono B0.size)
    clear b1 C B0
    go_wp2
    go_ret
    exact ⟨⟨_, rfl⟩, B1⟩

theorem jtDec_any (w : World) (p q : Bool) (u v : Value) (l m : List Int) (s t : Int) (hu : Reads w u l) (hv : Reads w v m) :
    Calls Tryz.prog 17 #[.agg #[.bool p, u, .int .i64 s], .agg #[.bool q, v, .int .i64 t]] w fun e w' => (∃ b, e = .returned (.bool b)) ∧ Below w.heap.size w w' := by
  have h := fun o o' => jtBig_any ((w.alloc o).alloc o') p q u v l m ((hu.alloc _).alloc _) ((hv.alloc _).alloc _)
  have H := hide h
  obtain ⟨ao, b, off, cap, rfl, hu⟩ := hu
  obtain ⟨ao', b', off', cap', rfl, hv⟩ := hv
  clear h hu hv
  cases hst : s == t
  · go_enter Tryz.func17, Tryz.ntmps17
    go_wp2
    go_ret
    exact ⟨⟨_, rfl⟩, ((Below.refl _ _).alloc (Nat.le_refl _) _).alloc (by simp) _⟩
  · go_enter Tryz.func17, Tryz.ntmps17
    go_wp2_with fail
    refine (unhide H _ _).mono ?_
    rintro e w1 ⟨⟨b, rfl⟩, hb⟩
    go_wp2
    go_ret
    exact ⟨⟨_, rfl⟩, (((Below.refl _ _).alloc (Nat.le_refl _) _).alloc (by simp) _).trans (hb.mono (by simp; omega))⟩

end Go.Proofs.YthnkmjkgcnhlfaaGreatDoor
