/- The law FnExactTypeGet: its walk. -/
import Derived.Test.YtnfalniijmccjaaDoorTgI
namespace Go.Proofs.YtnfalniijmccjaaDoor
open Go.RowKit
set_option maxRecDepth 100000

theorem specTypeGet_any (w : World) (s : ByteArray) (hs : s.size ≤ maxLen) : Calls Tryd.prog 31 #[.string s] w (GivesType w s) := by
  have K0 := TyB.start w
  have C := hide (fun W => l4TypeGet_any W s hs)
  go_enter Tryd.func31, Tryd.ntmps31
  go_wp2_with fail
  refine (unhide C _).mono ?_
  rintro e w1 ⟨k, d, c, ok, rfl, b1, h⟩
  obtain ⟨kb, kc0, kc1, kc2, kf0, kf1, kf2, kl⟩ := K0.later b1
  have H := hide h
  clear h C K0 b1
  go_wp2
  refine bodyPost_ret (v := .tuple #[.agg #[.int .i64 k, .int .i64 d, .int .i64 c], .bool ok]) (by simp [results, Tryd.results31, go_sem, kc0, kc1, kc2]) rfl ?_
  exact ⟨k, d, c, ok, rfl, by first | exact kb | exact ((kb.setCell (Nat.le_refl _) _).setCell (Nat.le_refl _) _).setCell (Nat.le_refl _) _, unhide H⟩

theorem eqType_any (w : World) (k m d : Int) : Calls Tryd.prog 33 #[.agg #[.int .i64 k, .int .i64 m, .int .i64 d], .agg #[.int .i64 k, .int .i64 m, .int .i64 d]] w fun e w' => e = .returned (.bool true) ∧ Below w.heap.size w w' := by
  have h0 : (k != k) = false := by simp
  have h1 : (m != m) = false := by simp
  have h2 : (d != d) = false := by simp
  go_enter Tryd.func33, Tryd.ntmps33
  go_wp2_with fail
  (try (go_quiet (fail)))
  go_wp2_with fail
  (try (go_quiet (fail)))
  go_wp2_with fail
  (try (go_quiet (fail)))
  go_wp2
  go_ret
  refine ⟨rfl, ?_⟩
  repeat (first | exact Below.refl _ _ | refine below_drewN ?_ _ | refine Below.drew ?_ | refine Below.alloc ?_ (by first | exact Nat.le_refl _ | (simp only [World.size_alloc]; omega)) _)

/-- A text is no two types'. -/
theorem typT_same {s : ByteArray} {k d c k' d' c' : Int} (h : TypT s k d c) (q : TypT s k' d' c') : k' = k ∧ d' = d ∧ c' = c := by
  obtain ⟨a, ha⟩ := cat_is 40 s
  obtain ⟨b, hb⟩ := cat_is 44 (cutP (partC s a))
  obtain ⟨h1, h2, h3⟩ := impl_type ha hb h
  obtain ⟨q1, q2, q3⟩ := impl_type ha hb q
  exact ⟨q1.trans h1.symm, q2.trans h2.symm, q3.trans h3.symm⟩

/-- Both answer the same. -/
theorem type_one {s : ByteArray} {k d c k' d' c' : Int} {ok ok' : Bool} (h : (ok = true ∧ TypT s k d c) ∨ (ok = false ∧ k = 0 ∧ d = 0 ∧ c = 0 ∧ ∀ a b e, ¬ TypT s a b e)) (q : (ok' = true ∧ TypT s k' d' c') ∨ (ok' = false ∧ k' = 0 ∧ d' = 0 ∧ c' = 0 ∧ ∀ a b e, ¬ TypT s a b e)) : k' = k ∧ d' = d ∧ c' = c ∧ ok' = ok := by
  rcases h with ⟨h1, h2⟩ | ⟨h1, h2, h3, h4, h5⟩
  · rcases q with ⟨k1, k2⟩ | ⟨k1, k2, k3, k4, k5⟩
    · obtain ⟨a, b, e⟩ := typT_same h2 k2
      exact ⟨a, b, e, by rw [h1, k1]⟩
    · exact absurd h2 (k5 _ _ _)
  · rcases q with ⟨k1, k2⟩ | ⟨k1, k2, k3, k4, k5⟩
    · exact absurd k2 (h5 _ _ _)
    · exact ⟨by rw [h2, k2], by rw [h3, k3], by rw [h4, k4], by rw [h1, k1]⟩

theorem xTypeGet_walk (w : World) (s : ByteArray) (hs : s.size ≤ maxLen) (tt : Tab w) (he : Er w) :
    Calls Tryd.prog 9 #[.string s] w fun e w' => e = .returned (.bool true) ∧ Below w.heap.size w w' := by
  have CS := hide (fun W => specTypeGet_any W s hs)
  unfold maxLen at hs
  by_cases hl : (1048576 : Int) < s.size
  · have t0 : decide ((1048576 : Int) < s.size) = true := by simpa using hl
    go_enter Tryd.func9, Tryd.ntmps9
    go_wp2
    go_ret
    exact ⟨rfl, Below.refl _ _⟩
  have t0 : decide ((1048576 : Int) < s.size) = false := by simpa using hl
  have CI := hide (fun W (b : Below w.heap.size w W) => implTypeGet_any W s (by omega) (tt.later b) (he.later b))
  go_enter Tryd.func9, Tryd.ntmps9
  go_wp2_with fail
  refine (unhide CS _).mono ?_
  rintro e w1 ⟨k, m, d, ok, rfl, b1, h1⟩
  have B1 := b1.alloc b1.size (.cells #[.int .i64 k, .int .i64 m, .int .i64 d] 38)
  have c0 : (w1.alloc (.cells #[.int .i64 k, .int .i64 m, .int .i64 d] 38)).cell? ⟨w1.heap.size, 0, none⟩ = some (.int .i64 k) := by go_simp
  have c1 : (w1.alloc (.cells #[.int .i64 k, .int .i64 m, .int .i64 d] 38)).cell? ⟨w1.heap.size, 1, none⟩ = some (.int .i64 m) := by go_simp
  have c2 : (w1.alloc (.cells #[.int .i64 k, .int .i64 m, .int .i64 d] 38)).cell? ⟨w1.heap.size, 2, none⟩ = some (.int .i64 d) := by go_simp
  have H1 := hide h1
  clear h1 b1
  go_wp2_with fail
  refine (unhide CI _ B1).mono ?_
  rintro e w2 ⟨k2, m2, d2, ok2, rfl, b2, h2⟩
  obtain ⟨rfl, rfl, rfl, rfl⟩ := type_one (unhide H1) h2
  have B2 := B1.trans (b2.mono B1.size)
  have d0 := cell_later b2 c0
  have d1 := cell_later b2 c1
  have d2' := cell_later b2 c2
  have zA : w1.heap.size < w2.heap.size := by have := b2.size; rw [World.size_alloc] at this; omega
  have hoo : (ok2 != ok2) = false := by simp
  clear H1 h2 b2 B1 c0 c1 c2 CS CI
  go_wp2_with fail
  refine (eqType_any _ k2 m2 d2).mono ?_
  rintro e w3 ⟨rfl, b3⟩
  go_wp2
  go_ret
  exact ⟨rfl, (B2.alloc B2.size _).trans (b3.mono (by simp; have := B2.size; omega))⟩

end Go.Proofs.YtnfalniijmccjaaDoor
