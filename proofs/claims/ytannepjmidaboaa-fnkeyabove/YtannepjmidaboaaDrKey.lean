/- Drawn texts: of, DrawKeyAbove. -/
import Derived.Test.YtannepjmidaboaaRdP
namespace Go.Proofs.Ytannepjmidaboaa
open Go.RowKit

/-- The cells of a list of texts. -/
def strsOf (l : List ByteArray) : Array Value := (l.map Value.string).toArray

/-- One of a list of texts that is written out, drawn. -/
theorem of_lit (W : World) (R p : Nat) (l : List ByteArray) (cs : Array Value) (h : cs = strsOf l) (hr : RD W R p) (hp : p ≤ 100000) (h1 : 1 ≤ l.length) (h2 : l.length ≤ 1000) :
    Calls Try.prog 8 #[.pointer (some ⟨R, 0, none⟩), .slice (some ⟨W.heap.size, 0, none⟩) l.length l.length] (W.alloc (.cells cs 9)) fun e w' => ∃ x : ByteArray, e = .returned (.string x) ∧ x ∈ l ∧ RD w' R (p + 1) ∧ W.grownBy w' (some R) := by
  have hR := hr.lt
  have C := hide (pick_any _ R p l.length (hr.alloc (.cells cs 9)) (by omega) h1 (by omega))
  have H := hide h
  clear h
  go_enter Try.func8, Try.ntmps8
  go_wp2_with fail
  refine (unhide C).mono ?_
  rintro e w1 ⟨x, rfl, hx, r1, g1⟩
  have hc : w1.cell? ⟨W.heap.size, x, none⟩ = some (.string l[x]) := by
    rw [World.cell?_of_block (w := W.alloc (.cells cs 9)) (g1.block W.heap.size (by simp) (by intro e; simp at e; omega))]
    have h := unhide H
    subst h
    simp [go_sem, strsOf, hx]
  clear C
  go_wp2
  go_ret
  exact ⟨l[x], rfl, List.getElem_mem _, r1, grown_trans (grown_alloc W _ _) g1⟩

theorem drawKeyAbove_any (w : World) (v : Value) (h : Byt w v) : Calls Try.prog 4 #[v] w fun e w' => ∃ s : ByteArray, e = .returned (.string s) ∧ s.size ≤ 1000 ∧ Below w.heap.size w w' := by
  have C0 := hide (l1Open_any w v h)
  go_enter Try.func4, Try.ntmps4
  go_wp2_with fail
  refine (unhide C0).mono ?_
  rintro e w1 ⟨rfl, r1, b1, z1⟩
  clear C0
  go_wp2_with fail
  refine (of_lit _ _ _ [⟨#[]⟩, ⟨#[97]⟩, ⟨#[97, 98]⟩, ⟨#[0]⟩, ⟨#[97, 0]⟩, ⟨#[97, 255]⟩, ⟨#[255]⟩, ⟨#[255, 255]⟩, ⟨#[97, 255, 255]⟩, ⟨#[254]⟩] _ rfl r1 (by omega) (by simp) (by simp)).mono ?_
  rintro e w2 ⟨s, rfl, hs, r2, g2⟩
  have ks : s.size ≤ 3 := by
    simp only [List.mem_cons, List.not_mem_nil, or_false] at hs
    rcases hs with rfl | rfl | rfl | rfl | rfl | rfl | rfl | rfl | rfl | rfl <;> decide
  clear hs
  go_wp2_with fail
  refine (of_lit _ _ _ [⟨#[]⟩, ⟨#[]⟩, ⟨#[98]⟩, ⟨#[255]⟩] _ rfl r2 (by omega) (by simp) (by simp)).mono ?_
  rintro e w3 ⟨t, rfl, ht, r3, g3⟩
  have kt : t.size ≤ 1 := by
    simp only [List.mem_cons, List.not_mem_nil, or_false] at ht
    rcases ht with rfl | rfl | rfl | rfl <;> decide
  clear ht
  go_wp2
  go_ret
  exact ⟨s ++ t, rfl, by rw [ByteArray.size_append]; omega, grown_below_trans b1 (Nat.le_refl _) (grown_trans g2 g3)⟩

end Go.Proofs.Ytannepjmidaboaa
