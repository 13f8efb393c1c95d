/- The law FnExactSpanGet: its walk. -/
import Derived.Test.YtnfalniijmccjaaDoorSgD
namespace Go.Proofs.YtnfalniijmccjaaDoor
open Go.RowKit
set_option maxRecDepth 100000

theorem specSpanGet_any (w : World) (s : ByteArray) (hs : s.size ≤ maxLen) : Calls Tryd.prog 23 #[.string s] w (GivesSpan w s) := by
  have K0 := SpB.start w
  have C := hide (fun W => l3SpanGet_any W s hs)
  go_enter Tryd.func23, Tryd.ntmps23
  go_wp2_with fail
  refine (unhide C _).mono ?_
  rintro e w1 ⟨m, d, ok, rfl, b1, h⟩
  obtain ⟨kb, kc0, kc1, kf0, kf1, kl⟩ := K0.later b1
  have H := hide h
  clear h C K0 b1
  go_wp2
  refine bodyPost_ret (v := .tuple #[.agg #[.int .i64 m, .int .i64 d], .bool ok]) (by simp [results, Tryd.results23, go_sem, kc0, kc1]) rfl ?_
  exact ⟨m, d, ok, rfl, by first | exact kb | exact (kb.setCell (Nat.le_refl _) _).setCell (Nat.le_refl _) _, unhide H⟩

theorem eqSpan_any (w : World) (m d : Int) : Calls Tryd.prog 32 #[.agg #[.int .i64 m, .int .i64 d], .agg #[.int .i64 m, .int .i64 d]] w fun e w' => e = .returned (.bool true) ∧ Below w.heap.size w w' := by
  have h1 : (m != m) = false := by simp
  have h2 : (d != d) = false := by simp
  go_enter Tryd.func32, Tryd.ntmps32
  go_wp2_with fail
  (try (go_quiet (fail)))
  go_wp2_with fail
  (try (go_quiet (fail)))
  go_wp2
  go_ret
  refine ⟨rfl, ?_⟩
  repeat (first | exact Below.refl _ _ | refine below_drewN ?_ _ | refine Below.drew ?_ | refine Below.alloc ?_ (by first | exact Nat.le_refl _ | (simp only [World.size_alloc]; omega)) _)

/-- Both answer the same. -/
theorem span_one {s : ByteArray} {m d m' d' : Int} {ok ok' : Bool} (h : (ok = true ∧ SpT s m d) ∨ (ok = false ∧ m = 0 ∧ d = 0 ∧ ∀ a b, ¬ SpT s a b)) (k : (ok' = true ∧ SpT s m' d') ∨ (ok' = false ∧ m' = 0 ∧ d' = 0 ∧ ∀ a b, ¬ SpT s a b)) : m' = m ∧ d' = d ∧ ok' = ok := by
  rcases h with ⟨h1, h2⟩ | ⟨h1, h2, h3, h4⟩
  · rcases k with ⟨k1, k2⟩ | ⟨k1, k2, k3, k4⟩
    · obtain ⟨a, b⟩ := span_same h2 k2
      exact ⟨a.symm, b.symm, by rw [h1, k1]⟩
    · exact absurd h2 (k4 _ _)
  · rcases k with ⟨k1, k2⟩ | ⟨k1, k2, k3, k4⟩
    · exact absurd k2 (h4 _ _)
    · exact ⟨by rw [h2, k2], by rw [h3, k3], by rw [h1, k1]⟩

theorem xSpanGet_walk (w : World) (s : ByteArray) (hs : s.size ≤ maxLen) (tt : Tab w) (he : Er w) :
    Calls Tryd.prog 8 #[.string s] w fun e w' => e = .returned (.bool true) ∧ Below w.heap.size w w' := by
  have CS := hide (fun W => specSpanGet_any W s hs)
  unfold maxLen at hs
  by_cases hl : (1048576 : Int) < s.size
  · have t0 : decide ((1048576 : Int) < s.size) = true := by simpa using hl
    go_enter Tryd.func8, Tryd.ntmps8
    go_wp2
    go_ret
    exact ⟨rfl, Below.refl _ _⟩
  have t0 : decide ((1048576 : Int) < s.size) = false := by simpa using hl
  have CI := hide (fun W (b : Below w.heap.size w W) => implSpanGet_any W s (by omega) (tt.later b) (he.later b))
  go_enter Tryd.func8, Tryd.ntmps8
  go_wp2_with fail
  refine (unhide CS _).mono ?_
  rintro e w1 ⟨m, d, ok, rfl, b1, h1⟩
  have B1 := b1.alloc b1.size (.cells #[.int .i64 m, .int .i64 d] 31)
  have c0 : (w1.alloc (.cells #[.int .i64 m, .int .i64 d] 31)).cell? ⟨w1.heap.size, 0, none⟩ = some (.int .i64 m) := by go_simp
  have c1 : (w1.alloc (.cells #[.int .i64 m, .int .i64 d] 31)).cell? ⟨w1.heap.size, 1, none⟩ = some (.int .i64 d) := by go_simp
  have H1 := hide h1
  clear h1 b1
  go_wp2_with fail
  refine (unhide CI _ B1).mono ?_
  rintro e w2 ⟨m2, d2, ok2, rfl, b2, h2⟩
  obtain ⟨rfl, rfl, rfl⟩ := span_one (unhide H1) h2
  have B2 := B1.trans (b2.mono B1.size)
  have d0 := cell_later b2 c0
  have d1 := cell_later b2 c1
  have zA : w1.heap.size < w2.heap.size := by have := b2.size; rw [World.size_alloc] at this; omega
  have hoo : (ok2 != ok2) = false := by simp
  clear H1 h2 b2 B1 c0 c1 CS CI
  go_wp2_with fail
  refine (eqSpan_any _ m2 d2).mono ?_
  rintro e w3 ⟨rfl, b3⟩
  go_wp2
  go_ret
  exact ⟨rfl, (B2.alloc B2.size _).trans (b3.mono (by simp; have := B2.size; omega))⟩

end Go.Proofs.YtnfalniijmccjaaDoor
