/- A drawn text that may be a number: DrawBigGet by a contract. -/
import Derived.Test.YtocpnihidfbijaaDoorDrGet
namespace Go.Proofs.YtocpnihidfbijaaDoor
open Go.RowKit
set_option maxRecDepth 100000

theorem many_size {t s : ByteArray} {n : Nat} (h : t.data.toList = (List.replicate n s.data.toList).flatten) (hs : s.size = 1) : t.size = n := by
  have e : s.data.toList.length = 1 := by rw [← hs]; simp
  have := congrArg List.length h
  rw [List.length_flatten] at this
  simp [e] at this
  exact this

theorem drawBigGet_any (w : World) (v : Value) (h : Byt w v) :
    Calls Tryd.prog 13 #[v] w fun e w' => ∃ t : ByteArray, e = .returned (.string t) ∧ t.size ≤ 2000 ∧ Below w.heap.size w w' := by
  have C0 := hide (l1Open_any w v h)
  go_enter Tryd.func13, Tryd.ntmps13
  go_wp2_with fail
  refine (unhide C0).mono ?_
  rintro e w1 ⟨rfl, r1, b1, z1⟩
  clear C0
  go_wp2_with fail
  refine (pick_any w1 _ 0 12 r1 (by omega) (by omega) (by omega)).mono ?_
  rintro e w2 ⟨x, rfl, hx, r2, g2⟩
  clear r1
  by_cases hx0 : x = 0
  · subst hx0
    go_wp2_with fail
    refine (l1Many_any w2 ⟨#[57]⟩ 64 (by omega) rfl).mono ?_
    rintro e w3 ⟨t1, rfl, ht1, rfl⟩
    have z1 := many_size ht1 rfl
    clear ht1
    go_wp2_with fail
    refine (l1Many_any _ ⟨#[57]⟩ 65 (by omega) rfl).mono ?_
    rintro e w4 ⟨t2, rfl, ht2, rfl⟩
    have z2 := many_size ht2 rfl
    clear ht2
    have Z1 := hide z1
    have Z2 := hide z2
    clear z1 z2
    go_wp2_with fail
    refine (of_lit _ _ _ [⟨#[]⟩, ⟨#[45]⟩, ⟨#[45, 48]⟩, ⟨#[48, 48]⟩, ⟨#[48, 49]⟩, t1, t2] _ rfl r2 (by omega) (by simp) (by simp)).mono ?_
    rintro e w5 ⟨y, rfl, hy, r5, g5⟩
    have ky : y.size ≤ 65 := by
      have a1 := unhide Z1
      have a2 := unhide Z2
      simp only [List.mem_cons, List.not_mem_nil, or_false] at hy
      rcases hy with rfl | rfl | rfl | rfl | rfl | rfl | rfl
      · decide
      · decide
      · decide
      · decide
      · decide
      · omega
      · omega
    clear hy
    go_wp2
    go_ret
    exact ⟨y, rfl, by omega, grown_below_trans b1 (Nat.le_refl _) (grown_trans g2 g5)⟩
  · have hx1 : ((x : Int) == 0) = false := by rw [beq_eq_false_iff_ne]; omega
    go_wp2_with fail
    refine (l14Big_any w2 _ 1 64 r2 (by omega) (by omega) (by omega)).mono ?_
    rintro e w3 ⟨z, a3, c3, q, rfl, hz, o3, r3, hq, g3⟩
    have hT : (bigT (sg z) (L z.natAbs)).size ≤ 500 := by
      unfold bigT
      rw [bytes_size, List.length_append]
      have h1 := txtL_len (L_lim z.natAbs)
      have h2 : (sgT (sg z)).length ≤ 1 := by unfold sgT; split <;> simp
      omega
    have HT := hide hT
    have C3 := hide (l1Put_any w3 (sg z) _ (L z.natAbs) o3.reads (L_lim _) hz)
    generalize bigT (sg z) (L z.natAbs) = T at *
    clear hT r2
    go_wp2_with fail
    refine (unhide C3).mono ?_
    rintro e w4 ⟨rfl, b4⟩
    have r4 := r3.later b4
    have g4 := grown_trans (grown_trans g2 g3) (grown_below (r := some w.heap.size) b4)
    clear C3 b4 r3 o3 g2 g3
    go_wp2_with fail
    refine (l14Bent_any w4 _ q T r4 (by omega) (unhide HT)).mono ?_
    rintro e w5 ⟨t, rfl, ht, g5⟩
    go_wp2
    go_ret
    exact ⟨t, rfl, ht, grown_below_trans b1 (Nat.le_refl _) (grown_trans g4 g5)⟩

end Go.Proofs.YtocpnihidfbijaaDoor
