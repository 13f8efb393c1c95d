/- Two numbers held against each other: l1Cmp of the specification, by a contract. -/
import Derived.Test.YtjefmjnmcphmeaaDoorCmp
import Derived.Test.YtjefmjnmcphmeaaDoorBigB0
namespace Go.Proofs.YtjefmjnmcphmeaaDoor
open Go.RowKit
set_option maxRecDepth 100000


/-- Two numbers in their boxes. -/
structure Bx2 (w0 w' : World) (p : Bool) (u : Value) (q : Bool) (v : Value) : Prop where
  below : Below w0.heap.size w0 w'
  a0 : w'.cell? ⟨w0.heap.size, 0, none⟩ = some (.bool p)
  a1 : w'.cell? ⟨w0.heap.size, 1, none⟩ = some u
  b0 : w'.cell? ⟨w0.heap.size + 1, 0, none⟩ = some (.bool q)
  b1 : w'.cell? ⟨w0.heap.size + 1, 1, none⟩ = some v

theorem Bx2.later {w0 w w' : World} {p q : Bool} {u v : Value} (h : Bx2 w0 w p u q v) (k : Below w.heap.size w w') : Bx2 w0 w' p u q v :=
  ⟨h.below.trans (k.mono h.below.size), cell_later k h.a0, cell_later k h.a1, cell_later k h.b0, cell_later k h.b1⟩

theorem Bx2.start (w : World) (p q : Bool) (u v : Value) : Bx2 w ((w.alloc (.cells #[.bool p, u] 29)).alloc (.cells #[.bool q, v] 29)) p u q v :=
  ⟨((Below.refl _ _).alloc (Nat.le_refl _) _).alloc (by simp) _, by go_simp, by go_simp, by go_simp, by go_simp⟩

theorem l1Cmp_any (w : World) (p q : Bool) (u v : Value) (a b : Nat) (hu : Reads w u (L a)) (hv : Reads w v (L b)) (hp : p = sg (zof p a)) (hq : q = sg (zof q b)) :
    Calls Tryd.prog 43 #[.agg #[.bool p, u], .agg #[.bool q, v]] w fun e w' => e = .returned (.int .i64 (cmpZ (zof p a) (zof q b))) ∧ Below w.heap.size w w' := by
  have CA := hide (fun W (h : Below w.heap.size w W) => l1CmpAbs_any W u v a b (hu.later h) (hv.later h))
  have CB := hide (fun W (h : Below w.heap.size w W) => l1CmpAbs_any W v u b a (hv.later h) (hu.later h))
  have K0 := Bx2.start w p q u v
  have e1 : p = true → q = false → cmpZ (zof p a) (zof q b) = -1 := by
    rintro rfl rfl; apply cmpZ_lt; unfold sg zof at *; simp at *; omega
  have e2 : p = false → q = true → cmpZ (zof p a) (zof q b) = 1 := by
    rintro rfl rfl; apply cmpZ_gt; unfold sg zof at *; simp at *; omega
  have e3 : p = true → q = true → cmpZ (zof p a) (zof q b) = cmpZ b a := by
    rintro rfl rfl; unfold zof cmpZ; simp
  have e4 : p = false → q = false → cmpZ (zof p a) (zof q b) = cmpZ a b := by
    rintro rfl rfl; unfold zof cmpZ; simp
  clear hp hq hu hv
  generalize cmpZ (zof p a) (zof q b) = Z at *
  cases p <;> cases q
  · have E := hide (e4 rfl rfl)
    clear e1 e2 e3 e4
    go_enter Tryd.func43, Tryd.ntmps43
    go_wp2_with fail
    refine (unhide CA _ K0.below).mono ?_
    rintro e w1 ⟨rfl, b1⟩
    go_wp2
    go_ret
    exact ⟨by rw [unhide E]; rfl, (K0.later b1).below⟩
  · have E := hide (e2 rfl rfl)
    clear e1 e2 e3 e4
    go_enter Tryd.func43, Tryd.ntmps43
    go_wp2
    go_ret
    exact ⟨by rw [unhide E]; rfl, K0.below⟩
  · have E := hide (e1 rfl rfl)
    clear e1 e2 e3 e4
    go_enter Tryd.func43, Tryd.ntmps43
    go_wp2
    go_ret
    exact ⟨by rw [unhide E]; rfl, K0.below⟩
  · have E := hide (e3 rfl rfl)
    clear e1 e2 e3 e4
    go_enter Tryd.func43, Tryd.ntmps43
    go_wp2_with fail
    refine (unhide CB _ K0.below).mono ?_
    rintro e w1 ⟨rfl, b1⟩
    go_wp2
    go_ret
    exact ⟨by rw [unhide E]; rfl, (K0.later b1).below⟩

end Go.Proofs.YtjefmjnmcphmeaaDoor
