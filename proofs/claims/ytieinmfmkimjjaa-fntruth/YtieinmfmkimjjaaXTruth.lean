/- The laws FnTruth and FnTruthThree: their walks. -/
import Derived.Test.YtieinmfmkimjjaaDrTru
import Derived.Test.YtieinmfmkimjjaaTru
import Derived.Test.YtieinmfmkimjjaaByt1
namespace Go.Proofs.Ytieinmfmkimjjaa
open Go.RowKit

theorem drawTruthAnd_any (w : World) (v : Value) (h : Byt w v) : Calls Try.prog 29 #[v] w fun e w' => ∃ a b : Int, e = .returned (.tuple #[.int .i64 a, .int .i64 b]) ∧ Below w.heap.size w w' := by
  have C := hide (l14Truths_any w v h)
  go_enter Try.func29, Try.ntmps29
  go_wp2_with fail
  refine (unhide C).mono ?_
  rintro e w1 ⟨a, b, rfl, b1⟩
  go_wp2
  go_ret2
  exact ⟨a, b, rfl, b1⟩
theorem drawTruthOr_any (w : World) (v : Value) (h : Byt w v) : Calls Try.prog 35 #[v] w fun e w' => ∃ a b : Int, e = .returned (.tuple #[.int .i64 a, .int .i64 b]) ∧ Below w.heap.size w w' := by
  have C := hide (l14Truths_any w v h)
  go_enter Try.func35, Try.ntmps35
  go_wp2_with fail
  refine (unhide C).mono ?_
  rintro e w1 ⟨a, b, rfl, b1⟩
  go_wp2
  go_ret2
  exact ⟨a, b, rfl, b1⟩
theorem drawTruthNot_any (w : World) (v : Value) (h : Byt w v) : Calls Try.prog 36 #[v] w fun e w' => ∃ a : Int, e = .returned (.int .i64 a) ∧ Below w.heap.size w w' := by
  have C := hide (l14Truths_any w v h)
  go_enter Try.func36, Try.ntmps36
  go_wp2_with fail
  refine (unhide C).mono ?_
  rintro e w1 ⟨a, b, rfl, b1⟩
  go_wp2
  go_ret
  exact ⟨a, rfl, b1⟩

/-- It is a truth. -/
def TruIs (a : Int) : Prop := 0 ≤ a ∧ a ≤ 2
theorem truIs_cases {a : Int} (h : TruIs a) : a = 0 ∨ a = 1 ∨ a = 2 := by have h1 := h.1; have h2 := h.2; omega

theorem tru_facts {a b : Int} (ha : TruIs a) (hb : TruIs b) : tNot (tAnd a b) = tOr (tNot a) (tNot b) ∧ tNot (tOr a b) = tAnd (tNot a) (tNot b) ∧ tAnd b a = tAnd a b ∧ tOr b a = tOr a b ∧ tNot (tNot a) = a ∧ (tAnd a b < 0) = False := by
  rcases truIs_cases ha with rfl | rfl | rfl <;> rcases truIs_cases hb with rfl | rfl | rfl <;> decide

theorem tru_out {a b : Int} (h : ¬ (TruIs a ∧ TruIs b)) : tAnd a b = -1 ∧ tOr a b = -1 := by
  have : a < 0 ∨ 2 < a ∨ b < 0 ∨ 2 < b := by
    apply Classical.byContradiction; intro k
    exact h ⟨⟨by omega, by omega⟩, ⟨by omega, by omega⟩⟩
  exact ⟨tAnd_out this, tOr_out this⟩

theorem xTruth_walk (w : World) (v : Value) (h : Byt w v) :
    Calls Try.prog 9 #[v] w fun e w' => e = .returned (.bool true) ∧ Below w.heap.size w w' := by
  have C0 := hide (drawTruthAnd_any w v h)
  obtain ⟨ao, n, cap, rfl, hn⟩ := byt_len h
  clear h
  by_cases hl : (1048576 : Int) < n
  · have t0 : decide ((1048576 : Int) < n) = true := by simpa using hl
    go_enter Try.func9, Try.ntmps9
    go_wp2
    go_ret
    exact ⟨rfl, Below.refl _ _⟩
  · have t0 : decide ((1048576 : Int) < n) = false := by simpa using hl
    go_enter Try.func9, Try.ntmps9
    go_wp2_with fail
    refine (unhide C0).mono ?_
    rintro e w1 ⟨a, b, rfl, b1⟩
    clear C0
    have B1 := hide b1
    clear b1
    have A1 := implTruthAnd_any w1 a b
    have O1 := implTruthOr_any w1 a b
    have A2 := specTruthAnd_any w1 a b
    have O2 := specTruthOr_any w1 a b
    by_cases hab : TruIs a ∧ TruIs b
    · obtain ⟨f1, f2, f3, f4, f5, f6⟩ := tru_facts hab.1 hab.2
      have N1 := implTruthNot_any w1 a
      have N2 := implTruthNot_any w1 b
      have N3 := implTruthNot_any w1 (tAnd a b)
      have N4 := implTruthNot_any w1 (tOr a b)
      have N5 := implTruthNot_any w1 (tNot a)
      have P1 := implTruthOr_any w1 (tNot a) (tNot b)
      have P2 := implTruthAnd_any w1 (tNot a) (tNot b)
      have P3 := implTruthAnd_any w1 b a
      have P4 := implTruthOr_any w1 b a
      rw [f1] at N3
      rw [f2] at N4
      rw [f5] at N5
      rw [f3] at P3
      rw [f4] at P4
      have tx : decide (tAnd a b < 0) = false := by simp [f6]
      clear f1 f2 f3 f4 f5 f6 hab
      generalize tOr (tNot a) (tNot b) = r1 at *
      generalize tAnd (tNot a) (tNot b) = r2 at *
      generalize tAnd a b = x at *
      generalize tOr a b = y at *
      generalize tNot a = na at *
      generalize tNot b = nb at *
      have e1 : (x != x) = false := by simp
      have e2 : (y != y) = false := by simp
      have e3 : (r1 == r1) = true := by simp
      have e4 : (r2 == r2) = true := by simp
      have e5 : (x == x) = true := by simp
      have e6 : (y == y) = true := by simp
      have e7 : (a == a) = true := by simp
      go_wp2_with fail
      refine A1.mono ?_
      rintro e w2 ⟨rfl, rfl⟩
      go_wp2_with fail
      refine O1.mono ?_
      rintro e w2 ⟨rfl, rfl⟩
      go_wp2_with fail
      refine A2.mono ?_
      rintro e w2 ⟨rfl, rfl⟩
      go_wp2_with fail
      refine O2.mono ?_
      rintro e w2 ⟨rfl, rfl⟩
      go_wp2_with fail
      refine N1.mono ?_
      rintro e w2 ⟨rfl, rfl⟩
      go_wp2_with fail
      refine N2.mono ?_
      rintro e w2 ⟨rfl, rfl⟩
      go_wp2_with fail
      refine N3.mono ?_
      rintro e w2 ⟨rfl, rfl⟩
      go_wp2_with fail
      refine P1.mono ?_
      rintro e w2 ⟨rfl, rfl⟩
      go_wp2_with fail
      refine N4.mono ?_
      rintro e w2 ⟨rfl, rfl⟩
      go_wp2_with fail
      refine P2.mono ?_
      rintro e w2 ⟨rfl, rfl⟩
      go_wp2_with fail
      refine P3.mono ?_
      rintro e w2 ⟨rfl, rfl⟩
      go_wp2_with fail
      refine P4.mono ?_
      rintro e w2 ⟨rfl, rfl⟩
      go_wp2_with fail
      refine N5.mono ?_
      rintro e w2 ⟨rfl, rfl⟩
      go_wp2
      go_ret
      exact ⟨rfl, unhide B1⟩
    · obtain ⟨f1, f2⟩ := tru_out hab
      rw [f1] at A1 A2
      rw [f2] at O1 O2
      clear f1 f2 hab
      go_wp2_with fail
      refine A1.mono ?_
      rintro e w2 ⟨rfl, rfl⟩
      go_wp2_with fail
      refine O1.mono ?_
      rintro e w2 ⟨rfl, rfl⟩
      go_wp2_with fail
      refine A2.mono ?_
      rintro e w2 ⟨rfl, rfl⟩
      go_wp2_with fail
      refine O2.mono ?_
      rintro e w2 ⟨rfl, rfl⟩
      go_wp2
      go_ret
      exact ⟨rfl, unhide B1⟩

theorem tru_three {a b c : Int} (ha : TruIs a) (hb : TruIs b) (hc : TruIs c) : tAnd (tOr a b) c = tOr (tAnd a c) (tAnd b c) ∧ tOr (tOr a b) c = tOr a (tOr b c) ∧ tAnd a (tAnd b c) = tAnd (tAnd a b) c := by
  rcases truIs_cases ha with rfl | rfl | rfl <;> rcases truIs_cases hb with rfl | rfl | rfl <;> rcases truIs_cases hc with rfl | rfl | rfl <;> decide
theorem tOr_in {a b : Int} (ha : TruIs a) (hb : TruIs b) : ¬ tOr a b < 0 := by
  rcases truIs_cases ha with rfl | rfl | rfl <;> rcases truIs_cases hb with rfl | rfl | rfl <;> decide
theorem tNot_in {a : Int} (ha : TruIs a) : ¬ tNot a < 0 := by rcases truIs_cases ha with rfl | rfl | rfl <;> decide
theorem tNot_no {a : Int} (h : ¬ TruIs a) : tNot a = -1 := tNot_out (by apply Classical.byContradiction; intro k; exact h ⟨by omega, by omega⟩)

theorem xTruthThree_walk (w : World) (v v' : Value) (h : Byt w v) (h' : Byt w v') :
    Calls Try.prog 10 #[v, v'] w fun e w' => e = .returned (.bool true) ∧ Below w.heap.size w w' := by
  have C0 := hide (drawTruthOr_any w v h)
  obtain ⟨ao, n, cap, rfl, hn⟩ := byt_len h
  obtain ⟨ao', n', cap', rfl, hn'⟩ := byt_len h'
  clear h
  by_cases hl : (1048576 : Int) < n
  · have t0 : decide ((1048576 : Int) < n) = true := by simpa using hl
    clear h'
    go_enter Try.func10, Try.ntmps10
    go_wp2
    go_ret
    exact ⟨rfl, Below.refl _ _⟩
  have t0 : decide ((1048576 : Int) < n) = false := by simpa using hl
  by_cases hl' : (1048576 : Int) < n'
  · have t1 : decide ((1048576 : Int) < n') = true := by simpa using hl'
    clear h'
    go_enter Try.func10, Try.ntmps10
    go_wp2
    go_ret
    exact ⟨rfl, Below.refl _ _⟩
  have t1 : decide ((1048576 : Int) < n') = false := by simpa using hl'
  go_enter Try.func10, Try.ntmps10
  go_wp2_with fail
  refine (unhide C0).mono ?_
  rintro e w1 ⟨a, b, rfl, b1⟩
  clear C0
  have C1 := hide (drawTruthNot_any w1 _ (h'.later b1))
  clear h'
  go_wp2_with fail
  refine (unhide C1).mono ?_
  rintro e w2 ⟨c, rfl, b2⟩
  have B2 := hide (b1.trans (b2.mono b1.size))
  clear C1 b1 b2
  have X1 := implTruthOr_any w2 a b
  have X2 := specTruthOr_any w2 a b
  have N1 := implTruthNot_any w2 c
  have N2 := specTruthNot_any w2 c
  by_cases hab : TruIs a ∧ TruIs b
  · have tx : decide (tOr a b < 0) = false := by simpa using tOr_in hab.1 hab.2
    by_cases hc : TruIs c
    · have tc : decide (tNot c < 0) = false := by simpa using tNot_in hc
      obtain ⟨f1, f2, f3⟩ := tru_three hab.1 hab.2 hc
      have P1 := implTruthAnd_any w2 (tOr a b) c
      have P2 := implTruthAnd_any w2 a c
      have P3 := implTruthAnd_any w2 b c
      have P4 := implTruthOr_any w2 (tAnd a c) (tAnd b c)
      have P5 := implTruthOr_any w2 (tOr a b) c
      have P6 := implTruthOr_any w2 b c
      have P7 := implTruthOr_any w2 a (tOr b c)
      have P8 := implTruthAnd_any w2 a (tAnd b c)
      have P9 := implTruthAnd_any w2 a b
      have P10 := implTruthAnd_any w2 (tAnd a b) c
      rw [f1] at P1
      rw [f2] at P5
      rw [f3] at P8
      clear f1 f2 f3 hab hc
      generalize tOr (tAnd a c) (tAnd b c) = r1 at *
      generalize tOr a (tOr b c) = r2 at *
      generalize tAnd (tAnd a b) c = r3 at *
      generalize tOr a b = x at *
      generalize tAnd a c = y1 at *
      generalize tAnd b c = y2 at *
      generalize tOr b c = y3 at *
      generalize tAnd a b = y4 at *
      generalize tNot c = nc at *
      have e1 : (x != x) = false := by simp
      have e2 : (nc != nc) = false := by simp
      have e3 : (r1 == r1) = true := by simp
      have e4 : (r2 == r2) = true := by simp
      have e5 : (r3 == r3) = true := by simp
      go_wp2_with fail
      refine (X1).mono ?_
      rintro e w3 ⟨rfl, rfl⟩
      go_wp2_with fail
      refine (X2).mono ?_
      rintro e w3 ⟨rfl, rfl⟩
      go_wp2_with fail
      refine (N1).mono ?_
      rintro e w3 ⟨rfl, rfl⟩
      go_wp2_with fail
      refine (N2).mono ?_
      rintro e w3 ⟨rfl, rfl⟩
      go_wp2_with fail
      refine (N1).mono ?_
      rintro e w3 ⟨rfl, rfl⟩
      go_wp2_with fail
      refine (P1).mono ?_
      rintro e w3 ⟨rfl, rfl⟩
      go_wp2_with fail
      refine (P2).mono ?_
      rintro e w3 ⟨rfl, rfl⟩
      go_wp2_with fail
      refine (P3).mono ?_
      rintro e w3 ⟨rfl, rfl⟩
      go_wp2_with fail
      refine (P4).mono ?_
      rintro e w3 ⟨rfl, rfl⟩
      go_wp2_with fail
      refine (P5).mono ?_
      rintro e w3 ⟨rfl, rfl⟩
      go_wp2_with fail
      refine (P6).mono ?_
      rintro e w3 ⟨rfl, rfl⟩
      go_wp2_with fail
      refine (P7).mono ?_
      rintro e w3 ⟨rfl, rfl⟩
      go_wp2_with fail
      refine (P3).mono ?_
      rintro e w3 ⟨rfl, rfl⟩
      go_wp2_with fail
      refine (P8).mono ?_
      rintro e w3 ⟨rfl, rfl⟩
      go_wp2_with fail
      refine (P9).mono ?_
      rintro e w3 ⟨rfl, rfl⟩
      go_wp2_with fail
      refine (P10).mono ?_
      rintro e w3 ⟨rfl, rfl⟩
      go_wp2
      go_ret
      exact ⟨rfl, unhide B2⟩
    · have f := tNot_no hc
      rw [f] at N1 N2
      clear f hab hc
      generalize tOr a b = x at *
      have e1 : (x != x) = false := by simp
      have e5 : (x == x) = true := by simp
      go_wp2_with fail
      refine (X1).mono ?_
      rintro e w3 ⟨rfl, rfl⟩
      go_wp2_with fail
      refine (X2).mono ?_
      rintro e w3 ⟨rfl, rfl⟩
      go_wp2_with fail
      refine (N1).mono ?_
      rintro e w3 ⟨rfl, rfl⟩
      go_wp2_with fail
      refine (N2).mono ?_
      rintro e w3 ⟨rfl, rfl⟩
      go_wp2_with fail
      refine (N1).mono ?_
      rintro e w3 ⟨rfl, rfl⟩
      go_wp2_with fail
      refine (X2).mono ?_
      rintro e w3 ⟨rfl, rfl⟩
      go_wp2_with fail
      refine (N1).mono ?_
      rintro e w3 ⟨rfl, rfl⟩
      go_wp2_with fail
      refine (N2).mono ?_
      rintro e w3 ⟨rfl, rfl⟩
      go_wp2
      go_ret
      exact ⟨rfl, unhide B2⟩
  · have f := (tru_out hab).2
    rw [f] at X1 X2
    clear f hab
    generalize tNot c = nc at *
    have e1 : (nc != nc) = false := by simp
    have e5 : (nc == nc) = true := by simp
    go_wp2_with fail
    refine (X1).mono ?_
    rintro e w3 ⟨rfl, rfl⟩
    go_wp2_with fail
    refine (X2).mono ?_
    rintro e w3 ⟨rfl, rfl⟩
    go_wp2_with fail
    refine (N1).mono ?_
    rintro e w3 ⟨rfl, rfl⟩
    go_wp2_with fail
    refine (N2).mono ?_
    rintro e w3 ⟨rfl, rfl⟩
    go_wp2_with fail
    refine (X2).mono ?_
    rintro e w3 ⟨rfl, rfl⟩
    go_wp2_with fail
    refine (N1).mono ?_
    rintro e w3 ⟨rfl, rfl⟩
    go_wp2_with fail
    refine (N2).mono ?_
    rintro e w3 ⟨rfl, rfl⟩
    go_wp2
    go_ret
    exact ⟨rfl, unhide B2⟩

end Go.Proofs.Ytieinmfmkimjjaa
