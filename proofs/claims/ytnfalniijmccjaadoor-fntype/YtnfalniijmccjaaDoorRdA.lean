/- One of a list of numbers, drawn, by its contract. -/
import Derived.Test.YtnfalniijmccjaaDoorRdP
import Derived.Test.YtnfalniijmccjaaDoorPush
namespace Go.Proofs.YtnfalniijmccjaaDoor
open Go.RowKit

/-- What one of a list answers. -/
theorem one_any (w : World) (R p : Nat) (v : Value) (l : List Int) (hr : RD w R p) (hp : p ≤ 1000000) (hl : Reads w v l) (h1 : 1 ≤ l.length) (h2 : l.length ≤ 1000000) (hB : ∀ b, (∃ o n c, v = .slice (some ⟨b, o, none⟩) n c) → b ≠ R) :
    Calls Tryd.prog 63 #[.pointer (some ⟨R, 0, none⟩), v] w fun e w' => ∃ x : Int, e = .returned (.int .i64 x) ∧ x ∈ l ∧ RD w' R (p + 1) ∧ w.grownBy w' (some R) := by
  have C := hide (pick_any w R p l.length hr hp h1 h2)
  obtain ⟨ao, b, off, cap, rfl, hu⟩ := hl
  have ha := hu.at_ (by omega)
  subst ha
  have hbR := hB b ⟨off, _, _, rfl⟩
  have h3 := hu.le
  have h4 := hu.big
  unfold maxLen at h4
  clear hB
  have HU := hide hu
  clear hu
  go_enter Tryd.func63, Tryd.ntmps63
  go_wp2_with fail
  refine (unhide C).mono ?_
  rintro e w1 ⟨x, rfl, hx, r1, g1⟩
  have hc : w1.cell? ⟨b, off + x, none⟩ = some (.int .i64 l[x]) := by
    have := (unhide HU).cell x hx
    rw [World.cell?_of_block (w := w) (g1.block b (World.block_lt_of_cell? w _ this) (by intro e; simp at e; exact hbR e))]
    exact this
  go_wp2
  go_ret
  exact ⟨l[x], rfl, List.getElem_mem _, r1, g1⟩

theorem reads_lit (w : World) (l : List Int) (cs : Array Value) (h : cs = (ints l).toArray) (hl : l.length ≤ 1000) : Reads (w.alloc (.cells cs 3)) (.slice (some ⟨w.heap.size, 0, none⟩) l.length l.length) l := by
  refine ⟨some ⟨w.heap.size, 0, none⟩, w.heap.size, 0, l.length, rfl, ⟨Nat.le_refl _, by unfold maxLen; omega, fun _ => rfl, fun k => (by cases k), fun i hi => ?_⟩⟩
  subst h
  simp [go_sem, ints, hi]

/-- One of a list that is written out, drawn. -/
theorem one_lit (W : World) (R p : Nat) (l : List Int) (cs : Array Value) (h : cs = (ints l).toArray) (hr : RD W R p) (hp : p ≤ 100000) (h1 : 1 ≤ l.length) (h2 : l.length ≤ 1000) :
    Calls Tryd.prog 63 #[.pointer (some ⟨R, 0, none⟩), .slice (some ⟨W.heap.size, 0, none⟩) l.length l.length] (W.alloc (.cells cs 3)) fun e w' => ∃ x : Int, e = .returned (.int .i64 x) ∧ x ∈ l ∧ RD w' R (p + 1) ∧ W.grownBy w' (some R) := by
  have hR := hr.lt
  refine (one_any _ R p _ l (hr.alloc _) (by omega) (reads_lit W l cs h h2) h1 (by omega) (fun b hb => ?_)).mono ?_
  · obtain ⟨o, n', c, e⟩ := hb
    simp at e
    omega
  · rintro e w' ⟨x, rfl, hx, hr', g⟩
    exact ⟨x, rfl, hx, hr', grown_trans (grown_alloc W _ _) g⟩

end Go.Proofs.YtnfalniijmccjaaDoor
