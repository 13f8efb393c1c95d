/- One of a list of texts that is written out, drawn. -/
import Derived.Test.YtnfalniijmccjaaDoorRdP
namespace Go.Proofs.YtnfalniijmccjaaDoor
open Go.RowKit


/-- The cells of a list of texts. -/
def strsOf (l : List ByteArray) : Array Value := (l.map Value.string).toArray

/-- One of a list of texts that is written out, drawn. -/
theorem of_lit (W : World) (R p : Nat) (l : List ByteArray) (cs : Array Value) (h : cs = strsOf l) (hr : RD W R p) (hp : p ≤ 100000) (h1 : 1 ≤ l.length) (h2 : l.length ≤ 1000) :
    Calls Tryd.prog 43 #[.pointer (some ⟨R, 0, none⟩), .slice (some ⟨W.heap.size, 0, none⟩) l.length l.length] (W.alloc (.cells cs 9)) fun e w' => ∃ x : ByteArray, e = .returned (.string x) ∧ x ∈ l ∧ RD w' R (p + 1) ∧ W.grownBy w' (some R) := by
  have hR := hr.lt
  have C := hide (pick_any _ R p l.length (hr.alloc (.cells cs 9)) (by omega) h1 (by omega))
  have H := hide h
  clear h
  go_enter Tryd.func43, Tryd.ntmps43
  go_wp2_with fail
  refine (unhide C).mono ?_
  rintro e w1 ⟨x, rfl, hx, r1, g1⟩
  have hc : w1.cell? ⟨W.heap.size, x, none⟩ = some (.string l[x]) := by
    rw [World.cell?_of_block (w := W.alloc (.cells cs 9)) (g1.block W.heap.size (by simp) (by intro e; simp at e; omega))]
    have h := unhide H
    subst h
    simp [go_sem, strsOf, hx]
  clear C
  go_wp2
  go_ret
  exact ⟨l[x], rfl, List.getElem_mem _, r1, grown_trans (grown_alloc W _ _) g1⟩

end Go.Proofs.YtnfalniijmccjaaDoor
