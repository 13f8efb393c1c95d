/- One of a list of texts that is written out, drawn. A drawn text that may be a number: l14Bent, DrawBigGet by contracts. -/
import Derived.Test.YthcmkeegfhgliaaDoorRdP
import Derived.Test.YthcmkeegfhgliaaDoorDraw0
import Derived.Deep.RegionHeld
namespace Go.Proofs.YthcmkeegfhgliaaDoor
open Go.RowKit


/-- The cells of a list of texts. -/
def strsOf (l : List ByteArray) : Array Value := (l.map Value.string).toArray

/-- One of a list of texts that is written out, drawn. -/
theorem of_lit (W : World) (R p : Nat) (l : List ByteArray) (cs : Array Value) (h : cs = strsOf l) (hr : RD W R p) (hp : p ≤ 100000) (h1 : 1 ≤ l.length) (h2 : l.length ≤ 1000) :
    Calls Tryd.prog 28 #[.pointer (some ⟨R, 0, none⟩), .slice (some ⟨W.heap.size, 0, none⟩) l.length l.length] (W.alloc (.cells cs 9)) fun e w' => ∃ x : ByteArray, e = .returned (.string x) ∧ x ∈ l ∧ RD w' R (p + 1) ∧ W.grownBy w' (some R) := by
  have hR := hr.lt
  have C := hide (pick_any _ R p l.length (hr.alloc (.cells cs 9)) (by omega) h1 (by omega))
  have H := hide h
  clear h
  go_enter Tryd.func28, Tryd.ntmps28
  go_wp2_with fail
  refine (unhide C).mono ?_
  rintro e w1 ⟨x, rfl, hx, r1, g1⟩
  have hc : w1.cell? ⟨W.heap.size, x, none⟩ = some (.string l[x]) := by
    rw [World.cell?_of_block (w := W.alloc (.cells cs 9)) (g1.block W.heap.size (by simp) (by intro e; simp at e; omega))]
    have h := unhide H
    subst h
    simp [go_sem, strsOf, hx]
  clear C
  go_wp2
  go_ret
  exact ⟨l[x], rfl, List.getElem_mem _, r1, grown_trans (grown_alloc W _ _) g1⟩

end Go.Proofs.YthcmkeegfhgliaaDoor

namespace Go.Proofs.YthcmkeegfhgliaaDoor
open Go.RowKit
set_option maxRecDepth 100000

/-- Nothing is asked of a world. -/
def Stands (w : World) : Prop := w.heap.size ≤ w.heap.size + 1
theorem stands (w : World) : Stands w := Nat.le_succ _

theorem ext_size {s : ByteArray} {a b : Nat} (h : b ≤ s.size) : (s.extract a b).size = b - a := by rw [ByteArray.size_extract]; omega

set_option maxHeartbeats 4000000 in
theorem l14Bent_any (w : World) (R p : Nat) (s : ByteArray) (hr : RD w R p) (hp : p ≤ 99000) (hs : s.size ≤ 500) :
    Calls Tryd.prog 30 #[.pointer (some ⟨R, 0, none⟩), .string s] w fun e w' => ∃ t : ByteArray, e = .returned (.string t) ∧ t.size ≤ 2000 ∧ w.grownBy w' (some R) := by
  have C1 := hide (fun W (h : RD W R p) => pick_any W R p (s.size + 1) h (by omega) (by omega) (by omega))
  have HR := hide hr
  clear hr
  go_enter Tryd.func30, Tryd.ntmps30
  go_wp2_with fail
  refine (unhide C1 _ (unhide HR)).mono ?_
  rintro e w1 ⟨k, rfl, hk, r1, g1⟩
  clear C1
  go_wp2_with fail
  refine (pick_any w1 R (p + 1) 6 r1 (by omega) (by omega) (by omega)).mono ?_
  rintro e w2 ⟨x, rfl, hx, r2, g2⟩
  have g2' := grown_trans g1 g2
  clear r1 g1 g2 HR
  have hx6 : x = 0 ∨ x = 1 ∨ x = 2 ∨ x = 3 ∨ x = 4 ∨ x = 5 := by omega
  clear hx
  rcases hx6 with rfl | rfl | rfl | rfl | rfl | rfl
  · by_cases hks : k < s.size
    · go_wp2
      have hk1 : (k : Int) + 1 ≤ (s.size : Int) := by omega
      have hk2 : (0 : Int) ≤ (k : Int) + 1 := by omega
      have hk3 : IntKind.i64.wrap ((k : Int) + 1) ≤ (s.size : Int) := by rw [IntKind.wrap_i64]; omega
      have hk4 : (0 : Int) ≤ IntKind.i64.wrap ((k : Int) + 1) := by rw [IntKind.wrap_i64]; omega
      have ha : (s.extract 0 k).size ≤ 500 := by rw [ext_size (by omega)]; omega
      have hb : (s.extract (k + 1) s.size).size ≤ 500 := by rw [ext_size (by omega)]; omega
      have CO := hide (of_lit w2.drew R (p + 1 + 1) [⟨#[48]⟩, ⟨#[57]⟩, ⟨#[45]⟩, ⟨#[46]⟩, ⟨#[32]⟩, ⟨#[120]⟩, ⟨#[44]⟩, ⟨#[58]⟩, ⟨#[39]⟩, ⟨#[33]⟩, ⟨#[59]⟩] _ rfl (r2.later (Below.refl _ _).drew) (by omega) (by simp) (by simp))
      go_region_held (fun w' => Stands w') (exact stands _) (first | (go_at_call 28; refine (unhide CO).mono ?_; rintro e w3 ⟨y, rfl, hy, r3, g3⟩; have ky : y.size ≤ 1 := (by simp only [List.mem_cons, List.not_mem_nil, or_false] at hy; rcases hy with rfl | rfl | rfl | rfl | rfl | rfl | rfl | rfl | rfl | rfl | rfl <;> decide); have kc : ((s.extract 0 k) ++ y).size ≤ 501 := (by rw [ByteArray.size_append]; omega); have kd : (((s.extract 0 k) ++ y) ++ s.extract (k + 1) s.size).size ≤ 1001 := (by rw [ByteArray.size_append]; omega); clear hy))
      all_goals
        have g4 := grown_trans (grown_trans g2' (grown_below (r := some R) (Below.refl w2.heap.size w2).drew)) g3
        go_wp2
        go_ret
        exact ⟨_, rfl, by omega, g4⟩
    · go_wp2
      go_ret
      exact ⟨s, rfl, by omega, g2'⟩
  · go_wp2
    go_ret
    exact ⟨_, rfl, by rw [ext_size (by omega)]; omega, g2'⟩
  · go_wp2_with fail
    refine (of_lit w2 R (p + 1 + 1) [⟨#[120]⟩, ⟨#[48]⟩, ⟨#[32]⟩, ⟨#[39]⟩, ⟨#[59]⟩, ⟨#[10]⟩] _ rfl r2 (by omega) (by simp) (by simp)).mono ?_
    rintro e w3 ⟨y, rfl, hy, r3, g3⟩
    have ky : y.size ≤ 1 := (by simp only [List.mem_cons, List.not_mem_nil, or_false] at hy; rcases hy with rfl | rfl | rfl | rfl | rfl | rfl <;> decide)
    clear hy
    go_wp2
    go_ret
    exact ⟨s ++ y, rfl, by rw [ByteArray.size_append]; omega, grown_trans g2' g3⟩
  · go_wp2
    have hk1 : (k : Int) ≤ (s.size : Int) := by omega
    have hk2 : (0 : Int) ≤ (k : Int) := by omega
    have ha : (s.extract 0 k).size ≤ 500 := by rw [ext_size (by omega)]; omega
    have hb : (s.extract k s.size).size ≤ 500 := by rw [ext_size (by omega)]; omega
    have CO := hide (of_lit w2.drew R (p + 1 + 1) [⟨#[48]⟩, ⟨#[45]⟩, ⟨#[46]⟩, ⟨#[32]⟩, ⟨#[40]⟩, ⟨#[49]⟩] _ rfl (r2.later (Below.refl _ _).drew) (by omega) (by simp) (by simp))
    go_region_held (fun w' => Stands w') (exact stands _) (first | (go_at_call 28; refine (unhide CO).mono ?_; rintro e w3 ⟨y, rfl, hy, r3, g3⟩; have ky : y.size ≤ 1 := (by simp only [List.mem_cons, List.not_mem_nil, or_false] at hy; rcases hy with rfl | rfl | rfl | rfl | rfl | rfl <;> decide); have kc : ((s.extract 0 k) ++ y).size ≤ 501 := (by rw [ByteArray.size_append]; omega); have kd : (((s.extract 0 k) ++ y) ++ s.extract k s.size).size ≤ 1001 := (by rw [ByteArray.size_append]; omega); clear hy))
    all_goals
      have g4 := grown_trans (grown_trans g2' (grown_below (r := some R) (Below.refl w2.heap.size w2).drew)) g3
      go_wp2
      go_ret
      exact ⟨_, rfl, by omega, g4⟩
  · go_wp2
    go_ret
    exact ⟨s, rfl, by omega, g2'⟩
  · go_wp2
    go_ret
    exact ⟨s, rfl, by omega, g2'⟩

end Go.Proofs.YthcmkeegfhgliaaDoor
