/- What a promise's walk carries: a box more whose cells were written, and a store into a box made by the law itself. -/
import Derived.Test.YthnkmjkgcnhlfaaGreatDoorDSt
import Derived.Test.YthnkmjkgcnhlfaaGreatDoorStt4
import Derived.OneCell
namespace Go.Proofs.YthnkmjkgcnhlfaaGreatDoor
open Go.RowKit

/-- A box more, by what its cells hold now. -/
theorem DS.plus {w W : World} {bs : List (Nat × Bool × Value × List Int × Int)} (h : DS w W bs) {b : Nat} {g : Bool} {v : Value} {l : List Int} {s : Int}
    (h0 : W.cell? ⟨b, 0, none⟩ = some (.bool g)) (h1 : W.cell? ⟨b, 1, none⟩ = some v) (h2 : W.cell? ⟨b, 2, none⟩ = some (.int .i64 s)) (hr : Reads W v l) (hb : b < W.heap.size) :
    DS w W (bs ++ [(b, g, v, l, s)]) := by
  refine ⟨h.below, fun x hx => ?_⟩
  rcases List.mem_append.1 hx with hx | hx
  · exact h.box x hx
  · simp at hx
    subst hx
    exact ⟨h0, h1, h2, hr, hb⟩

/-- A list of one's own stands over stores of signs into the box that was made ahead of it and into the one behind it. -/
theorem Own.signs {B : Nat} {W : World} {v : Value} {l : List Int} (h : Own B W v l) (a : Addr) (ha : a.block < B) (o : Obj) (x y : Value) :
    Reads (((W.alloc o).setCell a x).setCell ⟨W.heap.size, 0, none⟩ y) v l := by
  have h1 : Own B ((W.alloc o).setCell a x) v l := (h.later ((Below.refl _ _).alloc (Nat.le_refl _) _)).setBelow ha x
  have h2 : Own B (((W.alloc o).setCell a x).setCell ⟨W.heap.size, 0, none⟩ y) v l :=
    ownsRow_setCell_other h1 (fun e => by have := (h.lt _ e).2; simp at this) y
  exact h2.reads

/-- A box that was made behind H, and stood empty, is filled. -/
theorem DS.fill {w H W : World} {bs : List (Nat × Bool × Value × List Int × Int)} (h : DS w H bs) (k : Below H.heap.size H W) {b B : Nat} (e : EDb W b) (hb : H.heap.size ≤ b) {v : Value} {l : List Int} (o : Own B W v l) (hB : b < B) (g : Bool) (s : Int) :
    DS w (((W.setCell ⟨b, 0, none⟩ (.bool g)).setCell ⟨b, 1, none⟩ v).setCell ⟨b, 2, none⟩ (.int .i64 s)) (bs ++ [(b, g, v, l, s)]) := by
  have e0 := e.c0
  have e1 := e.c1
  have e2 := e.c2
  have hl := e.lt
  refine (h.later (((k.setCell (p := ⟨b, 0, none⟩) hb (.bool g)).setCell (p := ⟨b, 1, none⟩) hb v).setCell (p := ⟨b, 2, none⟩) hb (.int .i64 s))).plus (by go_simp) (by go_simp) (by go_simp) ?_ (by simpa using hl)
  exact (((o.setBelow (a := ⟨b, 0, none⟩) hB _).setBelow (a := ⟨b, 1, none⟩) hB _).setBelow (a := ⟨b, 2, none⟩) hB _).reads

end Go.Proofs.YthnkmjkgcnhlfaaGreatDoor
