/- A drawn text that may be a number: l14Bent, DrawBigGet by contracts. The texts of drawn values: l4Put of one, DrawValueGet by contracts. -/
import Derived.Test.YtdklikicngmkbaaGreatDoorH00
import Derived.Deep.RegionHeld
import Derived.Test.YtdklikicngmkbaaGreatDoorDrVa
import Derived.Test.YtdklikicngmkbaaGreatDoorG15
namespace Go.Proofs.YtdklikicngmkbaaGreatDoor
open Go.RowKit
set_option maxRecDepth 100000

/-- Nothing is asked of a world. -/
def Stands (w : World) : Prop := w.heap.size ≤ w.heap.size + 1
theorem stands (w : World) : Stands w := Nat.le_succ _

theorem ext_size {s : ByteArray} {a b : Nat} (h : b ≤ s.size) : (s.extract a b).size = b - a := by rw [ByteArray.size_extract]; omega

set_option maxHeartbeats 4000000 in
theorem l14Bent_any (w : World) (R p : Nat) (s : ByteArray) (hr : RD w R p) (hp : p ≤ 99000) (hs : s.size ≤ 500) :
    Calls Tryz.prog 40 #[.pointer (some ⟨R, 0, none⟩), .string s] w fun e w' => ∃ t : ByteArray, e = .returned (.string t) ∧ t.size ≤ 2000 ∧ w.grownBy w' (some R) := by
  have C1 := hide (fun W (h : RD W R p) => pick_any W R p (s.size + 1) h (by omega) (by omega) (by omega))
  have HR := hide hr
  clear hr
  go_enter Tryz.func40, Tryz.ntmps40
  go_wp2_with fail
  refine (unhide C1 _ (unhide HR)).mono ?_
  rintro e w1 ⟨k, rfl, hk, r1, g1⟩
  clear C1
  go_wp2_with fail
  refine (pick_any w1 R (p + 1) 6 r1 (by omega) (by omega) (by omega)).mono ?_
  rintro e w2 ⟨x, rfl, hx, r2, g2⟩
  have g2' := grown_trans g1 g2
  clear r1 g1 g2 HR
  have hx6 : x = 0 ∨ x = 1 ∨ x = 2 ∨ x = 3 ∨ x = 4 ∨ x = 5 := by omega
  clear hx
  rcases hx6 with rfl | rfl | rfl | rfl | rfl | rfl
  · by_cases hks : k < s.size
    · go_wp2
      have hk1 : (k : Int) + 1 ≤ (s.size : Int) := by omega
      have hk2 : (0 : Int) ≤ (k : Int) + 1 := by omega
      have hk3 : IntKind.i64.wrap ((k : Int) + 1) ≤ (s.size : Int) := by rw [IntKind.wrap_i64]; omega
      have hk4 : (0 : Int) ≤ IntKind.i64.wrap ((k : Int) + 1) := by rw [IntKind.wrap_i64]; omega
      have ha : (s.extract 0 k).size ≤ 500 := by rw [ext_size (by omega)]; omega
      have hb : (s.extract (k + 1) s.size).size ≤ 500 := by rw [ext_size (by omega)]; omega
      have CO := hide (of_lit w2.drew R (p + 1 + 1) [⟨#[48]⟩, ⟨#[57]⟩, ⟨#[45]⟩, ⟨#[46]⟩, ⟨#[32]⟩, ⟨#[120]⟩, ⟨#[44]⟩, ⟨#[58]⟩, ⟨#[39]⟩, ⟨#[33]⟩, ⟨#[59]⟩] _ rfl (r2.later (Below.refl _ _).drew) (by omega) (by simp) (by simp))
      go_region_held (fun w' => Stands w') (exact stands _) (first | (go_at_call 39; refine (unhide CO).mono ?_; rintro e w3 ⟨y, rfl, hy, r3, g3⟩; have ky : y.size ≤ 1 := (by simp only [List.mem_cons, List.not_mem_nil, or_false] at hy; rcases hy with rfl | rfl | rfl | rfl | rfl | rfl | rfl | rfl | rfl | rfl | rfl <;> decide); have kc : ((s.extract 0 k) ++ y).size ≤ 501 := (by rw [ByteArray.size_append]; omega); have kd : (((s.extract 0 k) ++ y) ++ s.extract (k + 1) s.size).size ≤ 1001 := (by rw [ByteArray.size_append]; omega); clear hy))
      all_goals
        have g4 := grown_trans (grown_trans g2' (grown_below (r := some R) (Below.refl w2.heap.size w2).drew)) g3
        go_wp2
        go_ret
        exact ⟨_, rfl, by omega, g4⟩
    · go_wp2
      go_ret
      exact ⟨s, rfl, by omega, g2'⟩
  · go_wp2
    go_ret
    exact ⟨_, rfl, by rw [ext_size (by omega)]; omega, g2'⟩
  · go_wp2_with fail
    refine (of_lit w2 R (p + 1 + 1) [⟨#[120]⟩, ⟨#[48]⟩, ⟨#[32]⟩, ⟨#[39]⟩, ⟨#[59]⟩, ⟨#[10]⟩] _ rfl r2 (by omega) (by simp) (by simp)).mono ?_
    rintro e w3 ⟨y, rfl, hy, r3, g3⟩
    have ky : y.size ≤ 1 := (by simp only [List.mem_cons, List.not_mem_nil, or_false] at hy; rcases hy with rfl | rfl | rfl | rfl | rfl | rfl <;> decide)
    clear hy
    go_wp2
    go_ret
    exact ⟨s ++ y, rfl, by rw [ByteArray.size_append]; omega, grown_trans g2' g3⟩
  · go_wp2
    have hk1 : (k : Int) ≤ (s.size : Int) := by omega
    have hk2 : (0 : Int) ≤ (k : Int) := by omega
    have ha : (s.extract 0 k).size ≤ 500 := by rw [ext_size (by omega)]; omega
    have hb : (s.extract k s.size).size ≤ 500 := by rw [ext_size (by omega)]; omega
    have CO := hide (of_lit w2.drew R (p + 1 + 1) [⟨#[48]⟩, ⟨#[45]⟩, ⟨#[46]⟩, ⟨#[32]⟩, ⟨#[40]⟩, ⟨#[49]⟩] _ rfl (r2.later (Below.refl _ _).drew) (by omega) (by simp) (by simp))
    go_region_held (fun w' => Stands w') (exact stands _) (first | (go_at_call 39; refine (unhide CO).mono ?_; rintro e w3 ⟨y, rfl, hy, r3, g3⟩; have ky : y.size ≤ 1 := (by simp only [List.mem_cons, List.not_mem_nil, or_false] at hy; rcases hy with rfl | rfl | rfl | rfl | rfl | rfl <;> decide); have kc : ((s.extract 0 k) ++ y).size ≤ 501 := (by rw [ByteArray.size_append]; omega); have kd : (((s.extract 0 k) ++ y) ++ s.extract k s.size).size ≤ 1001 := (by rw [ByteArray.size_append]; omega); clear hy))
    all_goals
      have g4 := grown_trans (grown_trans g2' (grown_below (r := some R) (Below.refl w2.heap.size w2).drew)) g3
      go_wp2
      go_ret
      exact ⟨_, rfl, by omega, g4⟩
  · go_wp2
    go_ret
    exact ⟨s, rfl, by omega, g2'⟩
  · go_wp2
    go_ret
    exact ⟨s, rfl, by omega, g2'⟩

end Go.Proofs.YtdklikicngmkbaaGreatDoor

namespace Go.Proofs.YtdklikicngmkbaaGreatDoor
open Go.RowKit
set_option maxRecDepth 100000
set_option linter.unusedSimpArgs false
set_option linter.unusedVariables false

theorem decT_little {p : Bool} {l : List Int} {s : Nat} (h : (txtL l).length ≤ 80) (hs : s ≤ 12) : (decT p l s).size ≤ 400 := by
  have h1 := figT_size2 h hs
  unfold decT
  rw [ByteArray.size_append, bytes_size]
  have h2 : (sgT p).length ≤ 1 := by unfold sgT; split <;> simp
  have h3 : (dotT (figT l s) s).size ≤ 200 := by
    unfold dotT
    split
    · omega
    · rw [ByteArray.size_append, ByteArray.size_append, ByteArray.size_extract, ByteArray.size_extract]
      have : (⟨#[46]⟩ : ByteArray).size = 1 := rfl
      omega
  omega
theorem spanT_60 {m d : Int} (h : SpanIs m d) : (spanT m d).size ≤ 60 := by
  obtain ⟨⟨h1, h2⟩, h3, h4⟩ := h
  have s1 := itxt_size (n := m) (by omega) (by omega)
  have s2 := itxt_size (n := d) (by omega) (by omega)
  unfold spanT
  rw [ByteArray.size_append, ByteArray.size_append, ByteArray.size_append]
  have : (⟨#[109]⟩ : ByteArray).size = 1 := rfl
  have : (⟨#[100]⟩ : ByteArray).size = 1 := rfl
  omega
theorem quoteT_60 {t : ByteArray} (h : t.size ≤ 12) : (quoteT t).size ≤ 60 := by
  have hl := repB_len 39 [39, 39] t.data.toList
  have hs : t.data.toList.length = t.size := by simp
  have e : (quoteT t).size = (quoL t.data.toList ++ [39]).length := q_size _
  rw [e]
  simp only [quoL, List.length_cons, List.length_append, List.length_nil] at hl ⊢
  omega

theorem l4Says_2w (w : World) (y n : Bool) (ao : Option Addr) (l : List Int) (cap : Nat) (s : Nat) (d mo da : Int) (t : ByteArray) (hr : Reads w (.slice ao l.length cap) l) (hl : Lim l) (h16 : l.length ≤ 16) (hk : (txtL l).length ≤ 80) (hs : s ≤ 12) : Calls Tryz.prog 71 #[.agg #[.int .i64 2, .bool y, .bool n, .slice ao l.length cap, .int .i64 s, .int .i64 d, .int .i64 mo, .int .i64 da, .string t]] w fun e w' => e = .returned (.string (decT n l s)) ∧ Below w.heap.size w w' := by
  have B0 : Below w.heap.size w (w.alloc (.cells #[.int .i64 2, .bool y, .bool n, .slice ao l.length cap, .int .i64 s, .int .i64 d, .int .i64 mo, .int .i64 da, .string t] 31)) := (Below.refl _ _).alloc (Nat.le_refl _) _
  have C := hide (fun W (b : Below w.heap.size w W) => l2Put_any W n (.slice ao l.length cap) l s (hr.later b) hl h16 hk hs)
  clear hl h16 hk hs hr
  go_enter Tryz.func71, Tryz.ntmps71
  go_wp2_with fail
  refine (unhide C _ B0).mono ?_
  rintro e w1 ⟨rfl, b1⟩
  go_wp2
  go_ret
  exact ⟨rfl, B0.trans (b1.mono B0.size)⟩

set_option maxHeartbeats 1000000 in
theorem l4Put_2w (w : World) (y n : Bool) (ao : Option Addr) (l : List Int) (cap : Nat) (s : Nat) (d mo da : Int) (t : ByteArray) (hr : Reads w (.slice ao l.length cap) l) (hl : Lim l) (h16 : l.length ≤ 16) (hk : (txtL l).length ≤ 80) (hs : s ≤ 12) : Calls Tryz.prog 34 #[.agg #[.int .i64 2, .bool y, .bool n, .slice ao l.length cap, .int .i64 s, .int .i64 d, .int .i64 mo, .int .i64 da, .string t]] w fun e w' => e = .returned (.string (decT n l s)) ∧ Below w.heap.size w w' := by
  have B0 : Below w.heap.size w (w.alloc (.cells #[.int .i64 2, .bool y, .bool n, .slice ao l.length cap, .int .i64 s, .int .i64 d, .int .i64 mo, .int .i64 da, .string t] 31)) := (Below.refl _ _).alloc (Nat.le_refl _) _
  have C := hide (fun W (b : Below w.heap.size w W) => l4Says_2w W y n ao l cap s d mo da t (hr.later b) hl h16 hk hs)
  clear hl h16 hk hs hr
  go_enter Tryz.func34, Tryz.ntmps34
  go_wp2_with fail
  refine (unhide C _ B0).mono ?_
  rintro e w1 ⟨rfl, b1⟩
  go_wp2
  go_ret
  exact ⟨rfl, B0.trans (b1.mono B0.size)⟩

/-- The text of a drawn value is short. -/
theorem l4PutD_any (w : World) (V : Vl) (ao : Option Addr) (cap : Nat) (hr : Reads w (.slice ao V.l.length cap) V.l) (vd : VD V) : Calls Tryz.prog 34 #[.agg #[.int .i64 V.k, .bool V.y, .bool V.n, .slice ao V.l.length cap, .int .i64 V.sc, .int .i64 V.d, .int .i64 V.mo, .int .i64 V.da, .string V.t]] w fun e w' => (∃ T : ByteArray, e = .returned (.string T) ∧ T.size ≤ 500) ∧ Below w.heap.size w w' := by
  rcases vd with rfl | ⟨y, rfl⟩ | ⟨z, sc, rfl, h, hs⟩ | ⟨d, rfl, hd⟩ | ⟨mo, da, rfl, hd⟩ | ⟨t, rfl, h⟩
  · exact (l4Put_0 w false false ao [] cap 0 0 0 0 ⟨#[]⟩).mono fun e w' ⟨he, b⟩ => ⟨⟨_, he, by decide⟩, b⟩
  · exact (l4Put_1 w y false ao [] cap 0 0 0 0 ⟨#[]⟩).mono fun e w' ⟨he, b⟩ => ⟨⟨_, he, by cases y <;> decide⟩, b⟩
  · have ht80 : (txtL (L z.natAbs)).length ≤ 80 := by have := txtL_long (L_lim z.natAbs); omega
    exact (l4Put_2w w false (sg z) ao (L z.natAbs) cap sc 0 0 0 ⟨#[]⟩ hr (L_lim _) h ht80 hs).mono fun e w' ⟨he, b⟩ => ⟨⟨_, he, by have := decT_little (p := sg z) ht80 hs; omega⟩, b⟩
  · exact (l4Put_3 w false false ao [] cap 0 d 0 0 ⟨#[]⟩ hd.1 hd.2).mono fun e w' ⟨he, b⟩ => ⟨⟨_, he, by rw [ByteArray.size_append, dayT_size hd]; decide⟩, b⟩
  · exact (l4Put_4 w false false ao [] cap 0 0 mo da ⟨#[]⟩ hd).mono fun e w' ⟨he, b⟩ => ⟨⟨_, he, by rw [ByteArray.size_append]; have := spanT_60 hd; have : (⟨#[35]⟩ : ByteArray).size = 1 := rfl; omega⟩, b⟩
  · exact (l4Put_5 w false false ao [] cap 0 0 0 0 t (by omega)).mono fun e w' ⟨he, b⟩ => ⟨⟨_, he, by have := quoteT_60 h; omega⟩, b⟩

theorem drawValueGet_any (w : World) (v : Value) (h : Byt w v) :
    Calls Tryz.prog 16 #[v] w fun e w' => ∃ t : ByteArray, e = .returned (.string t) ∧ t.size ≤ 2000 ∧ Below w.heap.size w w' := by
  have C0 := hide (l1Open_any w v h)
  go_enter Tryz.func16, Tryz.ntmps16
  go_wp2_with fail
  refine (unhide C0).mono ?_
  rintro e w1 ⟨rfl, r1, b1, z1⟩
  clear C0
  go_wp2_with fail
  refine (pick_any w1 _ 0 8 r1 (by omega) (by omega) (by omega)).mono ?_
  rintro e w2 ⟨x, rfl, hx, r2, g2⟩
  clear r1
  by_cases hx0 : x = 0
  · subst hx0
    go_wp2_with fail
    refine (of_lit _ _ _ [⟨#[]⟩, ⟨#[39]⟩, ⟨#[39, 39]⟩, ⟨#[39, 39, 39]⟩, ⟨#[39, 39, 39, 39]⟩, ⟨#[110, 117, 108]⟩, ⟨#[116, 114, 117]⟩, ⟨#[64]⟩, ⟨#[35]⟩, ⟨#[64, 50, 48, 50, 51, 45, 48, 50, 45, 50, 57]⟩, ⟨#[39, 116, 104, 105, 114, 116, 101, 101, 110, 32, 98, 121, 116, 101, 39]⟩] _ rfl r2 (by omega) (by simp) (by simp)).mono ?_
    rintro e w5 ⟨y, rfl, hy, r5, g5⟩
    have ky : y.size ≤ 65 := by
      simp only [List.mem_cons, List.not_mem_nil, or_false] at hy
      rcases hy with rfl | rfl | rfl | rfl | rfl | rfl | rfl | rfl | rfl | rfl | rfl <;> decide
    clear hy
    go_wp2
    go_ret
    exact ⟨y, rfl, by omega, grown_below_trans b1 (Nat.le_refl _) (grown_trans g2 g5)⟩
  · have hx1 : ((x : Int) == 0) = false := by rw [beq_eq_false_iff_ne]; omega
    go_wp2_with fail
    refine (l14Value_any w2 _ 1 r2 (by omega)).mono ?_
    rintro e w3 ⟨V, ao, cap, q, rfl, o3, vd, r3, hq, g3⟩
    have C3 := hide (l4PutD_any w3 V ao cap o3.reads vd)
    clear r2 vd o3
    obtain ⟨k, y, n, l, sc, d, mo, da, t⟩ := V
    go_wp2_with fail
    refine (unhide C3).mono ?_
    rintro e w4 ⟨⟨T, rfl, hT⟩, b4⟩
    have r4 := r3.later b4
    have g4 := grown_trans (grown_trans g2 g3) (grown_below (r := some w.heap.size) b4)
    clear C3 b4 r3 g2 g3
    go_wp2_with fail
    refine (l14Bent_any w4 _ q T r4 (by omega) hT).mono ?_
    rintro e w5 ⟨t, rfl, ht, g5⟩
    go_wp2
    go_ret
    exact ⟨t, rfl, ht, grown_below_trans b1 (Nat.le_refl _) (grown_trans g4 g5)⟩

end Go.Proofs.YtdklikicngmkbaaGreatDoor
