/- A span that is one is drawn: l14Span by a contract; a span, and the text of one: DrawSpanPut, DrawSpanGet. -/
import Derived.Test.YtnfalniijmccjaaDoorDrSpan0
import Derived.Test.YtnfalniijmccjaaDoorDrGet0
import Derived.Test.YtnfalniijmccjaaDoorSpnP
namespace Go.Proofs.YtnfalniijmccjaaDoor
open Go.RowKit
set_option maxRecDepth 100000

def DrawsSpanI (w : World) (R p k : Nat) (e : Ending) (w' : World) : Prop := ∃ (m d : Int) (q : Nat), SpanIs m d ∧ e = .returned (.agg #[.int .i64 m, .int .i64 d]) ∧ RD w' R q ∧ q ≤ p + k ∧ w.grownBy w' (some R)

theorem spanT_small {m d : Int} (h : SpanIs m d) : (spanT m d).size ≤ 500 := by
  obtain ⟨⟨h1, h2⟩, h3, h4⟩ := h
  have s1 := itxt_size (n := m) (by omega) (by omega)
  have s2 := itxt_size (n := d) (by omega) (by omega)
  unfold spanT
  rw [ByteArray.size_append, ByteArray.size_append, ByteArray.size_append]
  have : (⟨#[109]⟩ : ByteArray).size = 1 := rfl
  have : (⟨#[100]⟩ : ByteArray).size = 1 := rfl
  omega

theorem l14Span_is (w : World) (R p : Nat) (hr : RD w R p) (hp : p ≤ 90000) : Calls Tryd.prog 53 #[.pointer (some ⟨R, 0, none⟩)] w (DrawsSpanI w R p 3) := by
  have hR := hr.lt
  have hne : some w.heap.size ≠ some R := by simp; omega
  have C := hide (pick_any (w.alloc (.cells #[.int .i64 0, .int .i64 0] 31)) R p 5 (hr.alloc _) (by omega) (by omega) (by omega))
  have K0 : w.grownBy (w.alloc (.cells #[.int .i64 0, .int .i64 0] 31)) (some R) := grown_alloc _ _ _
  have S0 := SBx.start w 0 0
  go_enter Tryd.func53, Tryd.ntmps53
  go_wp2_with fail
  refine (unhide C).mono ?_
  rintro e w1 ⟨x, rfl, hx, r1, g1⟩
  clear C
  have S1 := S0.later g1 hne
  have K1 := hide (grown_trans K0 g1)
  clear S0 K0 g1
  have hx' : x = 0 ∨ x = 1 ∨ x = 2 ∨ 3 ≤ x := by omega
  rcases hx' with rfl | rfl | rfl | hx4
  · clear hx
    go_wp2_with fail
    refine (one_lit _ R _ [0, 120000, -120000, 119987, -119988] _ rfl r1 (by omega) (by simp) (by simp)).mono ?_
    rintro e w2 ⟨x2, rfl, hx2, r2, g2⟩
    have S2 := S1.later g2 hne
    have K2 := hide (grown_trans (unhide K1) g2)
    have q2 : -120000 ≤ x2 ∧ x2 ≤ 120000 := by simp only [List.mem_cons, List.not_mem_nil, or_false] at hx2; omega
    clear hx2 S1 K1 g2
    go_wp2_with fail
    refine (one_lit _ R _ [0, 4000000, -4000000] _ rfl r2 (by omega) (by simp) (by simp)).mono ?_
    rintro e w3 ⟨x3, rfl, hx3, r3, g3⟩
    have S3 := S2.later g3 hne
    have K3 := hide (grown_trans (unhide K2) g3)
    have q3 : -4000000 ≤ x3 ∧ x3 ≤ 4000000 := by simp only [List.mem_cons, List.not_mem_nil, or_false] at hx3; omega
    clear hx3 S2 K2 g3
    obtain ⟨c0, c1, f0, f1, lt⟩ := S3
    go_wp2
    refine bodyPost_ret (v := .agg #[.int .i64 (x2), .int .i64 (x3)]) (by simp [results, Tryd.results53, go_sem, c0, c1]) rfl ⟨_, _, _, (by unfold SpanIs; omega), rfl, (r3.set (by exact hR) _).set (by exact hR) _, by omega, grown_set (grown_set (unhide K3) (Nat.le_refl _) _) (Nat.le_refl _) _⟩
  · clear hx
    go_wp2_with fail
    refine (pick_any _ R _ 30 r1 (by omega) (by omega) (by omega)).mono ?_
    rintro e w2 ⟨x2, rfl, hx2, r2, g2⟩
    have S2 := S1.later g2 hne
    have K2 := hide (grown_trans (unhide K1) g2)
    clear S1 K1 g2
    obtain ⟨c0, c1, f0, f1, lt⟩ := S2
    go_wp2
    refine bodyPost_ret (v := .agg #[.int .i64 ((x2 : Int) - 15), .int .i64 (0)]) (by simp [results, Tryd.results53, go_sem, c0, c1]) rfl ⟨_, _, _, (by unfold SpanIs; omega), rfl, (r2.set (by exact hR) _).set (by exact hR) _, by omega, grown_set (grown_set (unhide K2) (Nat.le_refl _) _) (Nat.le_refl _) _⟩
  · clear hx
    go_wp2_with fail
    refine (pick_any _ R _ 80 r1 (by omega) (by omega) (by omega)).mono ?_
    rintro e w2 ⟨x2, rfl, hx2, r2, g2⟩
    have S2 := S1.later g2 hne
    have K2 := hide (grown_trans (unhide K1) g2)
    clear S1 K1 g2
    obtain ⟨c0, c1, f0, f1, lt⟩ := S2
    go_wp2
    refine bodyPost_ret (v := .agg #[.int .i64 (0), .int .i64 ((x2 : Int) - 40)]) (by simp [results, Tryd.results53, go_sem, c0, c1]) rfl ⟨_, _, _, (by unfold SpanIs; omega), rfl, (r2.set (by exact hR) _).set (by exact hR) _, by omega, grown_set (grown_set (unhide K2) (Nat.le_refl _) _) (Nat.le_refl _) _⟩
  · have t0 : ((x : Int) == 0) = false := by simp; omega
    have t1 : ((x : Int) == 1) = false := by simp; omega
    have t2 : ((x : Int) == 2) = false := by simp; omega
    clear hx hx4
    go_wp2_with fail
    refine (pick_any _ R _ 60 r1 (by omega) (by omega) (by omega)).mono ?_
    rintro e w2 ⟨x2, rfl, hx2, r2, g2⟩
    have S2 := S1.later g2 hne
    have K2 := hide (grown_trans (unhide K1) g2)
    clear S1 K1 g2
    go_wp2_with fail
    refine (pick_any _ R _ 60 r2 (by omega) (by omega) (by omega)).mono ?_
    rintro e w3 ⟨x3, rfl, hx3, r3, g3⟩
    have S3 := S2.later g3 hne
    have K3 := hide (grown_trans (unhide K2) g3)
    clear S2 K2 g3
    obtain ⟨c0, c1, f0, f1, lt⟩ := S3
    go_wp2
    refine bodyPost_ret (v := .agg #[.int .i64 ((x2 : Int) - 30), .int .i64 ((x3 : Int) - 30)]) (by simp [results, Tryd.results53, go_sem, c0, c1]) rfl ⟨_, _, _, (by unfold SpanIs; omega), rfl, (r3.set (by exact hR) _).set (by exact hR) _, by omega, grown_set (grown_set (unhide K3) (Nat.le_refl _) _) (Nat.le_refl _) _⟩

theorem drawSpanGet_any (w : World) (v : Value) (h : Byt w v) :
    Calls Tryd.prog 22 #[v] w fun e w' => ∃ t : ByteArray, e = .returned (.string t) ∧ t.size ≤ 2000 ∧ Below w.heap.size w w' := by
  have C0 := hide (l1Open_any w v h)
  go_enter Tryd.func22, Tryd.ntmps22
  go_wp2_with fail
  refine (unhide C0).mono ?_
  rintro e w1 ⟨rfl, r1, b1, z1⟩
  clear C0
  go_wp2_with fail
  refine (pick_any w1 _ 0 8 r1 (by omega) (by omega) (by omega)).mono ?_
  rintro e w2 ⟨x, rfl, hx, r2, g2⟩
  clear r1
  by_cases hx0 : x = 0
  · subst hx0
    go_wp2_with fail
    refine (of_lit _ _ _ [⟨#[]⟩, ⟨#[109]⟩, ⟨#[48, 109, 48, 100]⟩, ⟨#[45, 48, 109, 48, 100]⟩, ⟨#[51, 109]⟩, ⟨#[52, 100]⟩, ⟨#[49, 50, 48, 48, 48, 49, 109, 48, 100]⟩, ⟨#[49, 109, 50, 109, 51, 100]⟩] _ rfl r2 (by omega) (by simp) (by simp)).mono ?_
    rintro e w5 ⟨y, rfl, hy, r5, g5⟩
    have ky : y.size ≤ 65 := by
      simp only [List.mem_cons, List.not_mem_nil, or_false] at hy
      rcases hy with rfl | rfl | rfl | rfl | rfl | rfl | rfl | rfl <;> decide
    clear hy
    go_wp2
    go_ret
    exact ⟨y, rfl, by omega, grown_below_trans b1 (Nat.le_refl _) (grown_trans g2 g5)⟩
  · have hx1 : ((x : Int) == 0) = false := by rw [beq_eq_false_iff_ne]; omega
    go_wp2_with fail
    refine (l14Span_is w2 _ 1 r2 (by omega)).mono ?_
    rintro e w3 ⟨m, d, q, hz, rfl, r3, hq, g3⟩
    have HT := hide (spanT_small hz)
    have C3 := hide (l3SpanPut_any w3 m d (by unfold SpanIs at hz; omega) (by unfold SpanIs at hz; omega))
    generalize spanT m d = T at *
    clear r2 hz
    go_wp2_with fail
    refine (unhide C3).mono ?_
    rintro e w4 ⟨rfl, b4⟩
    have r4 := r3.later b4
    have g4 := grown_trans (grown_trans g2 g3) (grown_below (r := some w.heap.size) b4)
    clear C3 b4 r3 g2 g3
    go_wp2_with fail
    refine (l14Bent_any w4 _ q T r4 (by omega) (unhide HT)).mono ?_
    rintro e w5 ⟨t, rfl, ht, g5⟩
    go_wp2
    go_ret
    exact ⟨t, rfl, ht, grown_below_trans b1 (Nat.le_refl _) (grown_trans g4 g5)⟩

set_option maxHeartbeats 1000000 in
theorem drawSpanPut_any (w : World) (v : Value) (h : Byt w v) :
    Calls Tryd.prog 16 #[v] w fun e w' => ∃ m d : Int, e = .returned (.agg #[.int .i64 m, .int .i64 d]) ∧ Below w.heap.size w w' := by
  have B0 : Below w.heap.size w (w.alloc (.cells #[.int .i64 0, .int .i64 0] 31)) := (Below.refl _ _).alloc (Nat.le_refl _) _
  have C0 := hide (fun W (b : Below w.heap.size w W) => l1Open_any W v (h.later b))
  have S0 := SBx.start w 0 0
  go_enter Tryd.func16, Tryd.ntmps16
  go_wp2_with fail
  refine (unhide C0 _ B0).mono ?_
  rintro e w1 ⟨rfl, r1, b1, z1⟩
  have B1 := B0.trans (b1.mono B0.size)
  have S1 : SBx w1 w.heap.size 0 0 := ⟨cell_later b1 S0.c0, cell_later b1 S0.c1, (b1.frozen (p := ⟨w.heap.size, 0, none⟩) S0.lt).trans S0.f0, (b1.frozen (p := ⟨w.heap.size, 1, none⟩) S0.lt).trans S0.f1, Nat.lt_of_lt_of_le S0.lt b1.size⟩
  clear C0 S0 B0 b1
  simp only [World.size_alloc] at r1 z1
  go_wp2_with fail
  refine (l14AnySpan_any w1 _ 0 r1 (by omega)).mono ?_
  rintro e w2 ⟨m, d, q, rfl, r2, hq, g2⟩
  obtain ⟨c0, c1, f0, f1, lt⟩ := S1.later g2 (by simp)
  have B2 := grown_below_trans B1 (by omega) g2
  clear S1 B1 g2 r2
  go_wp2
  refine bodyPost_ret (v := .agg #[.int .i64 m, .int .i64 d]) (by simp [results, Tryd.results16, go_sem, c0, c1]) rfl ?_
  exact ⟨m, d, rfl, by first | exact B2 | exact (B2.setCell (Nat.le_refl _) _).setCell (Nat.le_refl _) _⟩

end Go.Proofs.YtnfalniijmccjaaDoor
