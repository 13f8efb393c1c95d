/- The law FnExactDayUntil: its walk. -/
import Derived.Test.YtekmbpkbnknbeaaUntilX
namespace Go.Proofs.Ytekmbpkbnknbeaa
open Go.RowKit

theorem eqSpan_any (w : World) (m d : Int) : Calls Try.prog 30 #[.agg #[.int .i64 m, .int .i64 d], .agg #[.int .i64 m, .int .i64 d]] w fun e w' => e = .returned (.bool true) ∧ Below w.heap.size w w' := by
  have h1 : (m != m) = false := by simp
  have h2 : (d != d) = false := by simp
  go_enter Try.func30, Try.ntmps30
  go_wp2_with fail
  (try (go_quiet (fail)))
  go_wp2_with fail
  (try (go_quiet (fail)))
  go_wp2
  go_ret
  refine ⟨rfl, ?_⟩
  repeat (first | exact Below.refl _ _ | refine below_drewN ?_ _ | refine Below.drew ?_ | refine Below.alloc ?_ (by first | exact Nat.le_refl _ | (simp only [World.size_alloc]; omega)) _)

theorem xDayUntil_walk (w : World) (a b : Int) :
    Calls Try.prog 9 #[.int .i64 a, .int .i64 b] w fun e w' => e = .returned (.bool true) ∧ Below w.heap.size w w' := by
  have C1 := specDayUntil_any w a b
  have C2 := fun W => implDayUntil_any W a b
  generalize untM a b = m at *
  generalize untD a b = d at *
  generalize decide (UntIs a b) = o at *
  have ho : (!(o == o)) = false := by simp
  go_enter Try.func9, Try.ntmps9
  go_wp2_with fail
  refine C1.mono ?_
  rintro e w1 ⟨rfl, b1⟩
  go_wp2_with fail
  refine (C2 _).mono ?_
  rintro e w2 ⟨rfl, b2⟩
  have P0 : w2.cell? ⟨w1.heap.size, 0, none⟩ = some (.int .i64 m) := by rw [b2.cell (by simp)]; simp
  have P1 : w2.cell? ⟨w1.heap.size, 1, none⟩ = some (.int .i64 d) := by rw [b2.cell (by simp)]; simp
  have hz : w1.heap.size < w2.heap.size := by have := b2.size; simp at this; omega
  go_wp2_with fail
  refine (eqSpan_any _ m d).mono ?_
  rintro e w3 ⟨rfl, b3⟩
  go_wp2
  go_ret
  have y1 := b1.size
  refine ⟨rfl, ((((b1.alloc (by omega) _).trans (b2.mono (by simp only [World.size_alloc]; omega))).alloc (by omega) _).trans (b3.mono (by simp only [World.size_alloc]; omega)))⟩

end Go.Proofs.Ytekmbpkbnknbeaa
