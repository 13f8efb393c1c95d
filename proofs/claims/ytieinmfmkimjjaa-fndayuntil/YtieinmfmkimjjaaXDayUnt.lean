/- The law FnDayUntil: its walk. -/
import Derived.Test.YtieinmfmkimjjaaUntilX
import Derived.Test.YtieinmfmkimjjaaDayQ
import Derived.Test.YtieinmfmkimjjaaDrDayB
import Derived.Test.YtieinmfmkimjjaaByt1
namespace Go.Proofs.Ytieinmfmkimjjaa
open Go.RowKit

theorem unt_sum {a b : Int} (h : UntIs a b) : sumR a (untM a b) (untD a b) = b := by
  obtain ⟨t1, t2, t3, t4⟩ := toN_is h.1 h.2.1 h.2.2
  have hA := moN_lt h.1.1 h.1.2
  have hB := moN_lt h.2.1.1 h.2.1.2
  have hd := dyN_bounds h.1.1 h.1.2
  have hl := lastM_bounds (moN a)
  have hb := dayIn_bounds (k := toN a b) (d := dyN a) (by omega) hd.1 (by omega)
  have hbd : IsDay b := h.2.1
  have k1 := hbd.1
  have k2 := hbd.2
  rw [show untM a b = (toN a b : Int) - moN a from if_pos h, show untD a b = b - dayIn (toN a b) (dyN a) from if_pos h]
  unfold sumR
  rw [if_pos (show IsDay a ∧ SpanIs _ _ from ⟨h.1, ⟨by omega, by omega⟩, by omega, by omega⟩)]
  unfold addR
  rw [show (moN a : Int) + ((toN a b : Int) - moN a) = toN a b by omega, if_pos (show MoIs (toN a b : Int) from ⟨by omega, by omega⟩), Int.toNat_natCast,
    show dayIn (toN a b) (dyN a) + (b - dayIn (toN a b) (dyN a)) = b by omega, if_pos hbd]

theorem unt_more {a b : Int} (h : UntIs a b) : sumR a (untM a b + 1) 0 = 0 ∨ b < sumR a (untM a b + 1) 0 := by
  obtain ⟨t1, t2, t3, t4⟩ := toN_is h.1 h.2.1 h.2.2
  have hA := moN_lt h.1.1 h.1.2
  have hB := moN_lt h.2.1.1 h.2.1.2
  rw [show untM a b = (toN a b : Int) - moN a from if_pos h]
  unfold sumR
  rw [if_pos (show IsDay a ∧ SpanIs _ _ from ⟨h.1, ⟨by omega, by omega⟩, by omega, by omega⟩)]
  unfold addR
  rw [show (moN a : Int) + ((toN a b : Int) - moN a + 1) = (toN a b + 1 : Nat) by omega, Int.toNat_natCast]
  by_cases hm : MoIs ((toN a b + 1 : Nat) : Int)
  · rw [if_pos hm]
    by_cases hi : IsDay (dayIn (toN a b + 1) (dyN a) + 0)
    · rw [if_pos hi]; right; omega
    · rw [if_neg hi]; left; rfl
  · rw [if_neg hm]; left; rfl

theorem unt_bounds {a b : Int} (h : UntIs a b) : (0 ≤ untM a b ∧ untM a b ≤ 119988) ∧ 0 ≤ untD a b ∧ untD a b < 31 := by
  obtain ⟨t1, t2, t3, t4⟩ := toN_is h.1 h.2.1 h.2.2
  have hB := moN_lt h.2.1.1 h.2.1.2
  have hd := dyN_bounds h.1.1 h.1.2
  rw [show untM a b = (toN a b : Int) - moN a from if_pos h, show untD a b = b - dayIn (toN a b) (dyN a) from if_pos h]
  refine ⟨⟨by omega, by omega⟩, by omega, ?_⟩
  have s := ahead_succ (toN a b)
  have l1 := lastM_bounds (toN a b)
  have l2 := lastM_bounds (toN a b + 1)
  have l3 := lastM_bounds (moN a)
  unfold dayIn at *
  omega

theorem xDayUnt_walk (w : World) (v : Value) (h : Byt w v) :
    Calls Try.prog 8 #[v] w fun e w' => e = .returned (.bool true) ∧ Below w.heap.size w w' := by
  have C0 := hide (drawDayUntil_any w v h)
  obtain ⟨ao, n, cap, rfl, hn⟩ := byt_len h
  clear h
  by_cases hl : (1048576 : Int) < n
  · have t0 : decide ((1048576 : Int) < n) = true := by simpa using hl
    go_enter Try.func8, Try.ntmps8
    go_wp2
    go_ret
    exact ⟨rfl, Below.refl _ _⟩
  · have t0 : decide ((1048576 : Int) < n) = false := by simpa using hl
    go_enter Try.func8, Try.ntmps8
    go_wp2_with fail
    refine (unhide C0).mono ?_
    rintro e w1 ⟨a, b, rfl, b1⟩
    clear C0
    have U1 := fun W => implDayUntil_any W a b
    have U2 := fun W => specDayUntil_any W a b
    by_cases hu : UntIs a b
    · rw [decide_eq_true hu] at U1 U2
      have A1 := fun W => implDayAdd_any W a (untM a b) (untD a b)
      have A2 := fun W => implDayAdd_any W a (untM a b + 1) 0
      rw [unt_sum hu, decide_eq_true (show 0 < b by have := hu.2.1.1; omega)] at A1
      have hmo := unt_more hu
      obtain ⟨⟨hm1, hm2⟩, hd1, hd2⟩ := unt_bounds hu
      clear hu
      generalize sumR a (untM a b + 1) 0 = y at *
      generalize untM a b = m at *
      generalize untD a b = d at *
      have qb : (b == b) = true := by simp
      go_wp2_with fail
      refine (U1 _).mono ?_
      rintro e w2 ⟨rfl, b2⟩
      go_wp2_with fail
      refine (U2 _).mono ?_
      rintro e w3 ⟨rfl, b3⟩
      have P0 : w3.cell? ⟨w2.heap.size, 0, none⟩ = some (.int .i64 m) := by rw [b3.cell (by simp)]; simp
      have P1 : w3.cell? ⟨w2.heap.size, 1, none⟩ = some (.int .i64 d) := by rw [b3.cell (by simp)]; simp
      have z3 : w2.heap.size < w3.heap.size := by have := b3.size; simp at this; omega
      have B3 : Below w.heap.size w (w3.alloc (.cells #[.int .i64 m, .int .i64 d] 36)) := by
        have y1 := b1.size
        have y2 := b2.size
        have y3 := b3.size
        simp at y3
        exact (((b1.trans (b2.mono y1)).alloc (by omega) _).trans (b3.mono (by simp only [World.size_alloc]; omega))).alloc (by omega) _
      clear b1 b2 b3
      have HB3 := hide B3
      clear B3
      go_wp2_with fail
      refine (A1 _).mono ?_
      rintro e w4 ⟨rfl, b4⟩
      have P0' : w4.cell? ⟨w2.heap.size, 0, none⟩ = some (.int .i64 m) := by rw [b4.cell (by simp; omega), World.cell?_alloc_lt (h := by exact z3)]; exact P0
      have P1' : w4.cell? ⟨w2.heap.size, 1, none⟩ = some (.int .i64 d) := by rw [b4.cell (by simp; omega), World.cell?_alloc_lt (h := by exact z3)]; exact P1
      have B4 : Below w.heap.size w w4 := (unhide HB3).trans (b4.mono (unhide HB3).size)
      have HB4 := hide B4
      have z4 : w2.heap.size < w4.heap.size := by have := b4.size; simp at this; omega
      clear P0 P1 B4 b4 HB3
      go_wp2_with fail
      refine (A2 _).mono ?_
      rintro e w5 ⟨rfl, b5⟩
      have P0 : w5.cell? ⟨w2.heap.size, 0, none⟩ = some (.int .i64 m) := cell_later b5 P0'
      have P1 : w5.cell? ⟨w2.heap.size, 1, none⟩ = some (.int .i64 d) := cell_later b5 P1'
      have B5 := hide ((unhide HB4).trans (b5.mono (unhide HB4).size))
      clear P0' P1' b5 HB4
      rcases hmo with rfl | hy
      · go_wp2
        go_ret
        exact ⟨rfl, unhide B5⟩
      · have ty : decide (b < y) = true := by simpa using hy
        by_cases hp : 0 < y
        · rw [decide_eq_true hp]
          go_wp2
          go_ret
          exact ⟨rfl, unhide B5⟩
        · rw [decide_eq_false hp]
          go_wp2
          go_ret
          exact ⟨rfl, unhide B5⟩
    · rw [decide_eq_false hu] at U1 U2
      clear hu
      generalize untM a b = m at *
      generalize untD a b = d at *
      go_wp2_with fail
      refine (U1 _).mono ?_
      rintro e w2 ⟨rfl, b2⟩
      go_wp2_with fail
      refine (U2 _).mono ?_
      rintro e w3 ⟨rfl, b3⟩
      have P0 : w3.cell? ⟨w2.heap.size, 0, none⟩ = some (.int .i64 m) := by rw [b3.cell (by simp)]; simp
      have P1 : w3.cell? ⟨w2.heap.size, 1, none⟩ = some (.int .i64 d) := by rw [b3.cell (by simp)]; simp
      have z3 : w2.heap.size < w3.heap.size := by have := b3.size; simp at this; omega
      have B3 : Below w.heap.size w (w3.alloc (.cells #[.int .i64 m, .int .i64 d] 36)) := by
        have y1 := b1.size
        have y2 := b2.size
        have y3 := b3.size
        simp at y3
        exact (((b1.trans (b2.mono y1)).alloc (by omega) _).trans (b3.mono (by simp only [World.size_alloc]; omega))).alloc (by omega) _
      clear b1 b2 b3
      have HB3 := hide B3
      clear B3
      go_wp2
      go_ret
      exact ⟨rfl, unhide HB3⟩

end Go.Proofs.Ytieinmfmkimjjaa
