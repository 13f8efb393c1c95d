/- A drawn text that may be a number: l14Bent, DrawBigGet by contracts. -/
import Derived.Test.YtnfalniijmccjaaDoorOfLit
import Derived.Test.YtnfalniijmccjaaDoorRdA
import Derived.Deep.RegionHeld
namespace Go.Proofs.YtnfalniijmccjaaDoor
open Go.RowKit
set_option maxRecDepth 100000

/-- Nothing is asked of a world. -/
def Stands (w : World) : Prop := w.heap.size ≤ w.heap.size + 1
theorem stands (w : World) : Stands w := Nat.le_succ _

theorem ext_size {s : ByteArray} {a b : Nat} (h : b ≤ s.size) : (s.extract a b).size = b - a := by rw [ByteArray.size_extract]; omega

set_option maxHeartbeats 4000000 in
theorem l14Bent_any (w : World) (R p : Nat) (s : ByteArray) (hr : RD w R p) (hp : p ≤ 99000) (hs : s.size ≤ 500) :
    Calls Tryd.prog 44 #[.pointer (some ⟨R, 0, none⟩), .string s] w fun e w' => ∃ t : ByteArray, e = .returned (.string t) ∧ t.size ≤ 2000 ∧ w.grownBy w' (some R) := by
  have C1 := hide (fun W (h : RD W R p) => pick_any W R p (s.size + 1) h (by omega) (by omega) (by omega))
  have HR := hide hr
  clear hr
  go_enter Tryd.func44, Tryd.ntmps44
  go_wp2_with fail
  refine (unhide C1 _ (unhide HR)).mono ?_
  rintro e w1 ⟨k, rfl, hk, r1, g1⟩
  clear C1
  go_wp2_with fail
  refine (pick_any w1 R (p + 1) 6 r1 (by omega) (by omega) (by omega)).mono ?_
  rintro e w2 ⟨x, rfl, hx, r2, g2⟩
  have g2' := grown_trans g1 g2
  clear r1 g1 g2 HR
  have hx6 : x = 0 ∨ x = 1 ∨ x = 2 ∨ x = 3 ∨ x = 4 ∨ x = 5 := by omega
  clear hx
  rcases hx6 with rfl | rfl | rfl | rfl | rfl | rfl
  · by_cases hks : k < s.size
    · go_wp2
      have hk1 : (k : Int) + 1 ≤ (s.size : Int) := by omega
      have hk2 : (0 : Int) ≤ (k : Int) + 1 := by omega
      have hk3 : IntKind.i64.wrap ((k : Int) + 1) ≤ (s.size : Int) := by rw [IntKind.wrap_i64]; omega
      have hk4 : (0 : Int) ≤ IntKind.i64.wrap ((k : Int) + 1) := by rw [IntKind.wrap_i64]; omega
      have ha : (s.extract 0 k).size ≤ 500 := by rw [ext_size (by omega)]; omega
      have hb : (s.extract (k + 1) s.size).size ≤ 500 := by rw [ext_size (by omega)]; omega
      have CO := hide (of_lit w2.drew R (p + 1 + 1) [⟨#[48]⟩, ⟨#[57]⟩, ⟨#[45]⟩, ⟨#[46]⟩, ⟨#[32]⟩, ⟨#[120]⟩, ⟨#[44]⟩, ⟨#[58]⟩, ⟨#[39]⟩, ⟨#[33]⟩, ⟨#[59]⟩] _ rfl (r2.later (Below.refl _ _).drew) (by omega) (by simp) (by simp))
      go_region_held (fun w' => Stands w') (exact stands _) (first | (go_at_call 43; refine (unhide CO).mono ?_; rintro e w3 ⟨y, rfl, hy, r3, g3⟩; have ky : y.size ≤ 1 := (by simp only [List.mem_cons, List.not_mem_nil, or_false] at hy; rcases hy with rfl | rfl | rfl | rfl | rfl | rfl | rfl | rfl | rfl | rfl | rfl <;> decide); have kc : ((s.extract 0 k) ++ y).size ≤ 501 := (by rw [ByteArray.size_append]; omega); have kd : (((s.extract 0 k) ++ y) ++ s.extract (k + 1) s.size).size ≤ 1001 := (by rw [ByteArray.size_append]; omega); clear hy))
      all_goals
        have g4 := grown_trans (grown_trans g2' (grown_below (r := some R) (Below.refl w2.heap.size w2).drew)) g3
        go_wp2
        go_ret
        exact ⟨_, rfl, by omega, g4⟩
    · go_wp2
      go_ret
      exact ⟨s, rfl, by omega, g2'⟩
  · go_wp2
    go_ret
    exact ⟨_, rfl, by rw [ext_size (by omega)]; omega, g2'⟩
  · go_wp2_with fail
    refine (of_lit w2 R (p + 1 + 1) [⟨#[120]⟩, ⟨#[48]⟩, ⟨#[32]⟩, ⟨#[39]⟩, ⟨#[59]⟩, ⟨#[10]⟩] _ rfl r2 (by omega) (by simp) (by simp)).mono ?_
    rintro e w3 ⟨y, rfl, hy, r3, g3⟩
    have ky : y.size ≤ 1 := (by simp only [List.mem_cons, List.not_mem_nil, or_false] at hy; rcases hy with rfl | rfl | rfl | rfl | rfl | rfl <;> decide)
    clear hy
    go_wp2
    go_ret
    exact ⟨s ++ y, rfl, by rw [ByteArray.size_append]; omega, grown_trans g2' g3⟩
  · go_wp2
    have hk1 : (k : Int) ≤ (s.size : Int) := by omega
    have hk2 : (0 : Int) ≤ (k : Int) := by omega
    have ha : (s.extract 0 k).size ≤ 500 := by rw [ext_size (by omega)]; omega
    have hb : (s.extract k s.size).size ≤ 500 := by rw [ext_size (by omega)]; omega
    have CO := hide (of_lit w2.drew R (p + 1 + 1) [⟨#[48]⟩, ⟨#[45]⟩, ⟨#[46]⟩, ⟨#[32]⟩, ⟨#[40]⟩, ⟨#[49]⟩] _ rfl (r2.later (Below.refl _ _).drew) (by omega) (by simp) (by simp))
    go_region_held (fun w' => Stands w') (exact stands _) (first | (go_at_call 43; refine (unhide CO).mono ?_; rintro e w3 ⟨y, rfl, hy, r3, g3⟩; have ky : y.size ≤ 1 := (by simp only [List.mem_cons, List.not_mem_nil, or_false] at hy; rcases hy with rfl | rfl | rfl | rfl | rfl | rfl <;> decide); have kc : ((s.extract 0 k) ++ y).size ≤ 501 := (by rw [ByteArray.size_append]; omega); have kd : (((s.extract 0 k) ++ y) ++ s.extract k s.size).size ≤ 1001 := (by rw [ByteArray.size_append]; omega); clear hy))
    all_goals
      have g4 := grown_trans (grown_trans g2' (grown_below (r := some R) (Below.refl w2.heap.size w2).drew)) g3
      go_wp2
      go_ret
      exact ⟨_, rfl, by omega, g4⟩
  · go_wp2
    go_ret
    exact ⟨s, rfl, by omega, g2'⟩
  · go_wp2
    go_ret
    exact ⟨s, rfl, by omega, g2'⟩

end Go.Proofs.YtnfalniijmccjaaDoor
