/- A decimal with its sign turned: jtTurn of the laws, by a contract. -/
import Derived.Test.YthnkmjkgcnhlfaaGreatDoorH08
namespace Go.Proofs.YthnkmjkgcnhlfaaGreatDoor
open Go.RowKit
set_option maxRecDepth 100000

theorem jtTurn_any (w : World) (q : Bool) (v : Value) (l : List Int) (t : Int) (hv : Reads w v l) :
    Calls Tryz.prog 23 #[.agg #[.bool q, v, .int .i64 t]] w fun e w' => e = .returned (.agg #[.bool (!q && decide (0 < l.length)), v, .int .i64 t]) ∧ Below w.heap.size w w' := by
  obtain ⟨ao, b1, off, cap, rfl, hr0⟩ := id hv
  have h1 := hr0.le
  have h2 := hr0.big
  unfold maxLen at h2
  clear hr0 hv
  obtain ⟨r, hr⟩ : ∃ r, decide (0 < l.length) = r := ⟨_, rfl⟩
  have e1 : decide ((0 : Int) < l.length) = r := by rw [← hr]; exact decide_eq_decide.2 (by omega)
  rw [hr]
  generalize l.length = n at *
  cases q
  · go_enter Tryz.func23, Tryz.ntmps23
    go_wp2
    refine bodyPost_ret (v := .agg #[.bool r, .slice ao n cap, .int .i64 t]) (by simp [results, Tryz.results23, go_sem]) rfl ⟨by simp, ?_⟩
    exact ((Below.refl _ _).alloc (Nat.le_refl _) _).alloc (by simp) _
  · go_enter Tryz.func23, Tryz.ntmps23
    go_wp2
    refine bodyPost_ret (v := .agg #[.bool false, .slice ao n cap, .int .i64 t]) (by simp [results, Tryz.results23, go_sem]) rfl ⟨by simp, ?_⟩
    exact ((Below.refl _ _).alloc (Nat.le_refl _) _).alloc (by simp) _

end Go.Proofs.YthnkmjkgcnhlfaaGreatDoor
