/- Drawn types: l14Type, l14AnyType, DrawTypePut, DrawTypeGet. -/
import Derived.Test.YtnfalniijmccjaaDoorDrDay
import Derived.Test.YtnfalniijmccjaaDoorDrGet0
import Derived.Test.YtnfalniijmccjaaDoorOfLit
import Derived.Test.YtnfalniijmccjaaDoorTgM
namespace Go.Proofs.YtnfalniijmccjaaDoor
open Go.RowKit
set_option maxRecDepth 100000
set_option linter.unusedSimpArgs false

/-- What a call answers that draws a type that is ok from the reader at R. -/
def DrawsTypeI (w : World) (R p k : Nat) (e : Ending) (w' : World) : Prop := ∃ (a b c : Int) (q : Nat), TypeIs a b c ∧ e = .returned (.agg #[.int .i64 a, .int .i64 b, .int .i64 c]) ∧ RD w' R q ∧ q ≤ p + k ∧ w.grownBy w' (some R)
/-- What a call answers that draws a type from the reader at R. -/
def DrawsType (w : World) (R p k : Nat) (e : Ending) (w' : World) : Prop := ∃ (a b c : Int) (q : Nat), e = .returned (.agg #[.int .i64 a, .int .i64 b, .int .i64 c]) ∧ RD w' R q ∧ q ≤ p + k ∧ w.grownBy w' (some R)

/-- A box of a type, at block B, that the call laid. -/
structure TBx (W : World) (B : Nat) (a b c : Int) : Prop where
  c0 : W.cell? ⟨B, 0, none⟩ = some (.int .i64 a)
  c1 : W.cell? ⟨B, 1, none⟩ = some (.int .i64 b)
  c2 : W.cell? ⟨B, 2, none⟩ = some (.int .i64 c)
  f0 : W.frozen? ⟨B, 0, none⟩ = false
  f1 : W.frozen? ⟨B, 1, none⟩ = false
  f2 : W.frozen? ⟨B, 2, none⟩ = false
  lt : B < W.heap.size
theorem TBx.start (w : World) (a b c : Int) : TBx (w.alloc (.cells #[.int .i64 a, .int .i64 b, .int .i64 c] 38)) w.heap.size a b c :=
  ⟨by simp [go_sem], by simp [go_sem], by simp [go_sem], by simp, by simp, by simp, by simp⟩
theorem TBx.later {W W' : World} {B : Nat} {a b c : Int} {r : Option Nat} (h : TBx W B a b c) (g : W.grownBy W' r) (hne : some B ≠ r) : TBx W' B a b c := by
  have hb := g.block B h.lt hne
  exact ⟨(World.cell?_of_block (w := W) (a := ⟨B, 0, none⟩) hb).trans h.c0, (World.cell?_of_block (w := W) (a := ⟨B, 1, none⟩) hb).trans h.c1, (World.cell?_of_block (w := W) (a := ⟨B, 2, none⟩) hb).trans h.c2,
    (World.frozen?_of_block (w := W) (a := ⟨B, 0, none⟩) hb).trans h.f0, (World.frozen?_of_block (w := W) (a := ⟨B, 1, none⟩) hb).trans h.f1, (World.frozen?_of_block (w := W) (a := ⟨B, 2, none⟩) hb).trans h.f2, Nat.lt_of_lt_of_le h.lt g.size⟩
theorem TBx.alloc {W : World} {B : Nat} {a b c : Int} (h : TBx W B a b c) (o : Obj) : TBx (W.alloc o) B a b c := h.later (grown_alloc W o none) (by simp)
theorem TBx.other {W : World} {B : Nat} {x y z : Int} (h : TBx W B x y z) {a : Addr} (ha : B ≠ a.block) (u : Value) : TBx (W.setCell a u) B x y z := by
  have hb : (W.setCell a u).heap[B]? = W.heap[B]? := Below.heap_setCell W a u B ha
  exact ⟨(World.cell?_of_block (w := W) (a := ⟨B, 0, none⟩) hb).trans h.c0, (World.cell?_of_block (w := W) (a := ⟨B, 1, none⟩) hb).trans h.c1, (World.cell?_of_block (w := W) (a := ⟨B, 2, none⟩) hb).trans h.c2,
    (World.frozen?_of_block (w := W) (a := ⟨B, 0, none⟩) hb).trans h.f0, (World.frozen?_of_block (w := W) (a := ⟨B, 1, none⟩) hb).trans h.f1, (World.frozen?_of_block (w := W) (a := ⟨B, 2, none⟩) hb).trans h.f2, by simpa using h.lt⟩

set_option maxHeartbeats 2000000 in
theorem l14Type_is (w : World) (R p : Nat) (hr : RD w R p) (hp : p ≤ 90000) : Calls Tryd.prog 61 #[.pointer (some ⟨R, 0, none⟩)] w (DrawsTypeI w R p 3) := by
  have hR := hr.lt
  have hne : some w.heap.size ≠ some R := by simp; omega
  have K0 : w.grownBy (w.alloc (.cells #[.int .i64 0, .int .i64 0, .int .i64 0] 38)) (some R) := grown_alloc _ _ _
  have S0 := TBx.start w 0 0 0
  have C := fun cs h => one_lit (w.alloc (.cells #[.int .i64 0, .int .i64 0, .int .i64 0] 38)) R p [1, 2, 2, 2, 3, 4, 5] cs h (hr.alloc _) (by omega) (by simp) (by simp)
  simp only [World.size_alloc] at C
  have C := hide C
  go_enter Tryd.func61, Tryd.ntmps61
  go_wp2_with fail
  refine (unhide C _ rfl).mono ?_
  rintro e w1 ⟨x, rfl, hx, r1, g1⟩
  clear C
  have S1 := S0.later g1 hne
  have K1 := hide (grown_trans K0 g1)
  clear S0 K0 g1
  have hx1 : x = 2 ∨ (x ≠ 2 ∧ 1 ≤ x ∧ x ≤ 5) := by
    simp only [List.mem_cons, List.not_mem_nil, or_false] at hx
    omega
  rcases hx1 with rfl | ⟨hx2, hx3, hx4⟩
  · clear hx
    go_wp2_with fail
    refine (one_lit _ R _ [1, 2, 3, 6, 10, 30, 12] _ rfl r1 (by omega) (by simp) (by simp)).mono ?_
    rintro e w2 ⟨n, rfl, hn, r2, g2⟩
    have hn1 : 1 ≤ n ∧ n ≤ 30 := by
      simp only [List.mem_cons, List.not_mem_nil, or_false] at hn
      omega
    have S2 := S1.later g2 hne
    have K2 := hide (grown_trans (unhide K1) g2)
    clear hn S1 K1 g2
    go_wp2_with fail
    refine (one_lit _ R _ [0, 0, 1, 2, 6, 12] _ rfl r2 (by omega) (by simp) (by simp)).mono ?_
    rintro e w3 ⟨s, rfl, hs, r3, g3⟩
    have hs1 : 0 ≤ s ∧ s ≤ 12 := by
      simp only [List.mem_cons, List.not_mem_nil, or_false] at hs
      omega
    have S3 := S2.later g3 hne
    have K3 := hide (grown_trans (unhide K2) g3)
    clear hs S2 K2 g3
    obtain ⟨c0, c1, c2, f0, f1, f2, lt⟩ := S3
    by_cases hsn : n < s
    · have t0 : decide (n < s) = true := by simpa using hsn
      have HT := hide (show TypeIs 2 n n from by unfold TypeIs; rw [if_pos rfl]; omega)
      clear hsn hs1 hn1
      go_wp2
      refine bodyPost_ret (v := .agg #[.int .i64 2, .int .i64 n, .int .i64 n]) (by simp [results, Tryd.results61, go_sem, c0, c1, c2]) rfl ?_
      exact ⟨_, _, _, _, unhide HT, rfl, ((r3.set (by exact hR) _).set (by exact hR) _).set (by exact hR) _, by omega, grown_set (grown_set (grown_set (unhide K3) (Nat.le_refl _) _) (Nat.le_refl _) _) (Nat.le_refl _) _⟩
    · have t0 : decide (n < s) = false := by simpa using hsn
      have HT := hide (show TypeIs 2 n s from by unfold TypeIs; rw [if_pos rfl]; omega)
      clear hsn hs1 hn1
      go_wp2
      refine bodyPost_ret (v := .agg #[.int .i64 2, .int .i64 n, .int .i64 s]) (by simp [results, Tryd.results61, go_sem, c0, c1, c2]) rfl ?_
      exact ⟨_, _, _, _, unhide HT, rfl, ((r3.set (by exact hR) _).set (by exact hR) _).set (by exact hR) _, by omega, grown_set (grown_set (grown_set (unhide K3) (Nat.le_refl _) _) (Nat.le_refl _) _) (Nat.le_refl _) _⟩
  · have t0 : (x == 2) = false := by simpa using hx2
    have HT := hide (show TypeIs x 0 0 from by unfold TypeIs; rw [if_neg hx2]; omega)
    clear hx hx2 hx3 hx4
    obtain ⟨c0, c1, c2, f0, f1, f2, lt⟩ := S1
    go_wp2
    refine bodyPost_ret (v := .agg #[.int .i64 x, .int .i64 0, .int .i64 0]) (by simp [results, Tryd.results61, go_sem, c0, c1, c2]) rfl ?_
    exact ⟨_, _, _, _, unhide HT, rfl, ((r1.set (by exact hR) _).set (by exact hR) _).set (by exact hR) _, by omega, grown_set (grown_set (grown_set (unhide K1) (Nat.le_refl _) _) (Nat.le_refl _) _) (Nat.le_refl _) _⟩

set_option maxHeartbeats 4000000 in
theorem l14AnyType_any (w : World) (R p : Nat) (hr : RD w R p) (hp : p ≤ 80000) : Calls Tryd.prog 55 #[.pointer (some ⟨R, 0, none⟩)] w (DrawsType w R p 5) := by
  have hR := hr.lt
  have hne : some w.heap.size ≠ some R := by simp; omega
  have C := hide (l14Type_is (w.alloc (.cells #[.int .i64 0, .int .i64 0, .int .i64 0] 38)) R p (hr.alloc _) (by omega))
  have K0 : w.grownBy (w.alloc (.cells #[.int .i64 0, .int .i64 0, .int .i64 0] 38)) (some R) := grown_alloc _ _ _
  have S0 := TBx.start w 0 0 0
  go_enter Tryd.func55, Tryd.ntmps55
  go_wp2_with fail
  refine (unhide C).mono ?_
  rintro e w1 ⟨a, b, c, q, hi, rfl, r1, hq, g1⟩
  clear C hi
  have S1 := (S0.later g1 hne).alloc (.cells #[.int .i64 a, .int .i64 b, .int .i64 c] 38)
  have y1 := (S0.later g1 hne).lt
  have T1 := TBx.start w1 a b c
  have K1 := hide (grown_trans (grown_trans K0 g1) (grown_alloc w1 (.cells #[.int .i64 a, .int .i64 b, .int .i64 c] 38) _))
  have R1 := r1.alloc (.cells #[.int .i64 a, .int .i64 b, .int .i64 c] 38)
  have hnf : some w1.heap.size ≠ some R := by simp; omega
  clear S0 K0 g1 r1
  go_wp2_with fail
  refine (pick_any _ R _ 20 R1 (by omega) (by omega) (by omega)).mono ?_
  rintro e w2 ⟨x, rfl, hx, r2, g2⟩
  have S2 := S1.later g2 hne
  have T2 := T1.later g2 hnf
  have K2 := hide (grown_trans (unhide K1) g2)
  clear S1 T1 K1 R1 g2
  have hx' : x = 0 ∨ x = 1 ∨ x = 2 ∨ 3 ≤ x := by omega
  rcases hx' with rfl | rfl | rfl | hx4
  · clear hx
    have SS := hide S2
    clear S2
    go_wp2_with fail
    refine (one_lit _ R _ [0, -1, 6] _ rfl r2 (by omega) (by simp) (by simp)).mono ?_
    rintro e w3 ⟨y, rfl, hy, r3, g3⟩
    have S3 := (unhide SS).later g3 hne
    have T3 := T2.later g3 hnf
    have K3 := hide (grown_set (grown_trans (unhide K2) g3) (a := ⟨w1.heap.size, 0, none⟩) (by simp only; omega) (.int .i64 y))
    have R3 := r3.set (a := ⟨w1.heap.size, 0, none⟩) (by simp only; omega) (.int .i64 y)
    have S4 := S3.other (a := ⟨w1.heap.size, 0, none⟩) (by simp only; omega) (.int .i64 y)
    clear SS hy K2 r2 g3 r3 S3 T2
    obtain ⟨c0, c1, c2, f0, f1, f2, lt⟩ := T3
    obtain ⟨p0, p1, p2, q0, q1, q2, lp⟩ := S4
    go_wp2
    refine bodyPost_ret (v := .agg #[.int .i64 y, .int .i64 b, .int .i64 c]) (by simp [results, Tryd.results55, go_sem, p0, p1, p2]) rfl ⟨_, _, _, _, rfl, ((R3.set (by exact hR) _).set (by exact hR) _).set (by exact hR) _, by omega, grown_set (grown_set (grown_set (unhide K3) (Nat.le_refl _) _) (Nat.le_refl _) _) (Nat.le_refl _) _⟩
  · clear hx
    have SS := hide S2
    clear S2
    go_wp2_with fail
    refine (one_lit _ R _ [-1, 0, 31] _ rfl r2 (by omega) (by simp) (by simp)).mono ?_
    rintro e w3 ⟨y, rfl, hy, r3, g3⟩
    have S3 := (unhide SS).later g3 hne
    have T3 := T2.later g3 hnf
    have K3 := hide (grown_set (grown_trans (unhide K2) g3) (a := ⟨w1.heap.size, 1, none⟩) (by simp only; omega) (.int .i64 y))
    have R3 := r3.set (a := ⟨w1.heap.size, 1, none⟩) (by simp only; omega) (.int .i64 y)
    have S4 := S3.other (a := ⟨w1.heap.size, 1, none⟩) (by simp only; omega) (.int .i64 y)
    clear SS hy K2 r2 g3 r3 S3 T2
    obtain ⟨c0, c1, c2, f0, f1, f2, lt⟩ := T3
    obtain ⟨p0, p1, p2, q0, q1, q2, lp⟩ := S4
    go_wp2
    refine bodyPost_ret (v := .agg #[.int .i64 a, .int .i64 y, .int .i64 c]) (by simp [results, Tryd.results55, go_sem, p0, p1, p2]) rfl ⟨_, _, _, _, rfl, ((R3.set (by exact hR) _).set (by exact hR) _).set (by exact hR) _, by omega, grown_set (grown_set (grown_set (unhide K3) (Nat.le_refl _) _) (Nat.le_refl _) _) (Nat.le_refl _) _⟩
  · clear hx
    have SS := hide S2
    clear S2
    go_wp2_with fail
    refine (one_lit _ R _ [-1, 13, 31] _ rfl r2 (by omega) (by simp) (by simp)).mono ?_
    rintro e w3 ⟨y, rfl, hy, r3, g3⟩
    have S3 := (unhide SS).later g3 hne
    have T3 := T2.later g3 hnf
    have K3 := hide (grown_set (grown_trans (unhide K2) g3) (a := ⟨w1.heap.size, 2, none⟩) (by simp only; omega) (.int .i64 y))
    have R3 := r3.set (a := ⟨w1.heap.size, 2, none⟩) (by simp only; omega) (.int .i64 y)
    have S4 := S3.other (a := ⟨w1.heap.size, 2, none⟩) (by simp only; omega) (.int .i64 y)
    clear SS hy K2 r2 g3 r3 S3 T2
    obtain ⟨c0, c1, c2, f0, f1, f2, lt⟩ := T3
    obtain ⟨p0, p1, p2, q0, q1, q2, lp⟩ := S4
    go_wp2
    refine bodyPost_ret (v := .agg #[.int .i64 a, .int .i64 b, .int .i64 y]) (by simp [results, Tryd.results55, go_sem, p0, p1, p2]) rfl ⟨_, _, _, _, rfl, ((R3.set (by exact hR) _).set (by exact hR) _).set (by exact hR) _, by omega, grown_set (grown_set (grown_set (unhide K3) (Nat.le_refl _) _) (Nat.le_refl _) _) (Nat.le_refl _) _⟩
  · have t0 : ((x : Int) == 0) = false := by simp; omega
    have t1 : ((x : Int) == 1) = false := by simp; omega
    have t2 : ((x : Int) == 2) = false := by simp; omega
    clear hx hx4
    obtain ⟨p0, p1, p2, q0, q1, q2, lp⟩ := S2
    obtain ⟨c0, c1, c2, f0, f1, f2, lt⟩ := T2
    go_wp2
    refine bodyPost_ret (v := .agg #[.int .i64 a, .int .i64 b, .int .i64 c]) (by simp [results, Tryd.results55, go_sem, p0, p1, p2]) rfl ⟨_, _, _, _, rfl, ((r2.set (by exact hR) _).set (by exact hR) _).set (by exact hR) _, by omega, grown_set (grown_set (grown_set (unhide K2) (Nat.le_refl _) _) (Nat.le_refl _) _) (Nat.le_refl _) _⟩

theorem typeT_small {k d c : Int} (h : TypeIs k d c) : (typeT k d c).size ≤ 500 := by
  rcases type_kinds h with ⟨rfl, h1, h2, h3⟩ | ⟨rfl, rfl, rfl⟩ | ⟨rfl, rfl, rfl⟩ | ⟨rfl, rfl, rfl⟩ | ⟨rfl, rfl, rfl⟩
  · have s1 := itxt_size (n := d) (by omega) (by omega)
    have s2 := itxt_size (n := c) (by omega) (by omega)
    show (numT d c).size ≤ 500
    unfold numT
    rw [ByteArray.size_append, ByteArray.size_append, ByteArray.size_append, ByteArray.size_append]
    have : (⟨#[110, 117, 109, 40]⟩ : ByteArray).size = 4 := rfl
    have : (⟨#[44]⟩ : ByteArray).size = 1 := rfl
    have : (⟨#[41]⟩ : ByteArray).size = 1 := rfl
    omega
  all_goals decide

theorem l4TypePut_any (w : World) (k d c : Int) (h : TypeIs k d c) : Calls Tryd.prog 59 #[.agg #[.int .i64 k, .int .i64 d, .int .i64 c]] w fun e w' => e = .returned (.string (typeT k d c)) ∧ Below w.heap.size w w' := by
  rcases type_kinds h with ⟨rfl, h1, h2, h3⟩ | ⟨rfl, rfl, rfl⟩ | ⟨rfl, rfl, rfl⟩ | ⟨rfl, rfl, rfl⟩ | ⟨rfl, rfl, rfl⟩
  · exact l4TypePut_2 w d c (by omega) (by omega)
  all_goals
    go_enter Tryd.func59, Tryd.ntmps59
    go_wp2
    go_ret
    exact ⟨rfl, (Below.refl _ _).alloc (Nat.le_refl _) _⟩

theorem drawTypeGet_any (w : World) (v : Value) (h : Byt w v) :
    Calls Tryd.prog 30 #[v] w fun e w' => ∃ t : ByteArray, e = .returned (.string t) ∧ t.size ≤ 2000 ∧ Below w.heap.size w w' := by
  have C0 := hide (l1Open_any w v h)
  go_enter Tryd.func30, Tryd.ntmps30
  go_wp2_with fail
  refine (unhide C0).mono ?_
  rintro e w1 ⟨rfl, r1, b1, z1⟩
  clear C0
  go_wp2_with fail
  refine (pick_any w1 _ 0 8 r1 (by omega) (by omega) (by omega)).mono ?_
  rintro e w2 ⟨x, rfl, hx, r2, g2⟩
  clear r1
  by_cases hx0 : x = 0
  · subst hx0
    go_wp2_with fail
    refine (of_lit _ _ _ [⟨#[]⟩, ⟨#[110, 117, 109]⟩, ⟨#[110, 117, 109, 40, 41]⟩, ⟨#[110, 117, 109, 40]⟩, ⟨#[110, 117, 109, 40, 49, 41]⟩, ⟨#[110, 117, 109, 40, 48, 44, 48, 41]⟩, ⟨#[110, 117, 109, 40, 50, 44, 51, 41]⟩, ⟨#[110, 117, 109, 40, 51, 49, 44, 48, 41]⟩, ⟨#[110, 117, 108, 108]⟩] _ rfl r2 (by omega) (by simp) (by simp)).mono ?_
    rintro e w5 ⟨y, rfl, hy, r5, g5⟩
    have ky : y.size ≤ 65 := by
      simp only [List.mem_cons, List.not_mem_nil, or_false] at hy
      rcases hy with rfl | rfl | rfl | rfl | rfl | rfl | rfl | rfl | rfl <;> decide
    clear hy
    go_wp2
    go_ret
    exact ⟨y, rfl, by omega, grown_below_trans b1 (Nat.le_refl _) (grown_trans g2 g5)⟩
  · have hx1 : ((x : Int) == 0) = false := by rw [beq_eq_false_iff_ne]; omega
    go_wp2_with fail
    refine (l14Type_is w2 _ 1 r2 (by omega)).mono ?_
    rintro e w3 ⟨a, b, c, q, hz, rfl, r3, hq, g3⟩
    have HT := hide (typeT_small hz)
    have C3 := hide (l4TypePut_any w3 a b c hz)
    generalize typeT a b c = T at *
    clear r2 hz
    go_wp2_with fail
    refine (unhide C3).mono ?_
    rintro e w4 ⟨rfl, b4⟩
    have r4 := r3.later b4
    have g4 := grown_trans (grown_trans g2 g3) (grown_below (r := some w.heap.size) b4)
    clear C3 b4 r3 g2 g3
    go_wp2_with fail
    refine (l14Bent_any w4 _ q T r4 (by omega) (unhide HT)).mono ?_
    rintro e w5 ⟨t, rfl, ht, g5⟩
    go_wp2
    go_ret
    exact ⟨t, rfl, ht, grown_below_trans b1 (Nat.le_refl _) (grown_trans g4 g5)⟩

set_option maxHeartbeats 1000000 in
theorem drawTypePut_any (w : World) (v : Value) (h : Byt w v) :
    Calls Tryd.prog 24 #[v] w fun e w' => ∃ k d c : Int, e = .returned (.agg #[.int .i64 k, .int .i64 d, .int .i64 c]) ∧ Below w.heap.size w w' := by
  have B0 : Below w.heap.size w (w.alloc (.cells #[.int .i64 0, .int .i64 0, .int .i64 0] 38)) := (Below.refl _ _).alloc (Nat.le_refl _) _
  have C0 := hide (fun W (b : Below w.heap.size w W) => l1Open_any W v (h.later b))
  have S0 := TBx.start w 0 0 0
  go_enter Tryd.func24, Tryd.ntmps24
  go_wp2_with fail
  refine (unhide C0 _ B0).mono ?_
  rintro e w1 ⟨rfl, r1, b1, z1⟩
  have B1 := B0.trans (b1.mono B0.size)
  have S1 := S0.later (grown_below (r := none) b1) (by simp)
  clear C0 S0 B0 b1
  simp only [World.size_alloc] at r1 z1
  go_wp2_with fail
  refine (l14AnyType_any w1 _ 0 r1 (by omega)).mono ?_
  rintro e w2 ⟨k, d, c, q, rfl, r2, hq, g2⟩
  obtain ⟨c0, c1, c2, f0, f1, f2, lt⟩ := S1.later g2 (by simp)
  have B2 := grown_below_trans B1 (by omega) g2
  clear S1 B1 g2 r2
  go_wp2
  refine bodyPost_ret (v := .agg #[.int .i64 k, .int .i64 d, .int .i64 c]) (by simp [results, Tryd.results24, go_sem, c0, c1, c2]) rfl ?_
  exact ⟨k, d, c, rfl, by first | exact B2 | exact ((B2.setCell (Nat.le_refl _) _).setCell (Nat.le_refl _) _).setCell (Nat.le_refl _) _⟩

end Go.Proofs.YtnfalniijmccjaaDoor
