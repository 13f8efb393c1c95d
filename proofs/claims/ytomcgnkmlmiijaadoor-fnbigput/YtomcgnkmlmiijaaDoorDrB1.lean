/- Boxes and lists beside a reader; two numbers drawn. -/
import Derived.Test.YtomcgnkmlmiijaaDoorDraw0
import Derived.Test.YtomcgnkmlmiijaaDoorStt1
import Derived.Test.YtomcgnkmlmiijaaDoorJt0
namespace Go.Proofs.YtomcgnkmlmiijaaDoor
open Go.RowKit


/-- A box that stands empty, and its cells. -/
structure BX (w : World) (B : Nat) : Prop where
  c0 : w.cell? ⟨B, 0, none⟩ = some (.bool false)
  c1 : w.cell? ⟨B, 1, none⟩ = some (.slice none 0 0)
  f0 : w.frozen? ⟨B, 0, none⟩ = false
  f1 : w.frozen? ⟨B, 1, none⟩ = false
  lt : B < w.heap.size

theorem BX.grown {w w' : World} {B : Nat} {r : Option Nat} (h : BX w B) (g : w.grownBy w' r) (hne : some B ≠ r) : BX w' B := by
  have hb := g.block B h.lt hne
  exact ⟨(World.cell?_of_block (w := w) (a := ⟨B, 0, none⟩) hb).trans h.c0, (World.cell?_of_block (w := w) (a := ⟨B, 1, none⟩) hb).trans h.c1,
    (World.frozen?_of_block (w := w) (a := ⟨B, 0, none⟩) hb).trans h.f0, (World.frozen?_of_block (w := w) (a := ⟨B, 1, none⟩) hb).trans h.f1, Nat.lt_of_lt_of_le h.lt g.size⟩

theorem Own.grown {B : Nat} {w w' : World} {v : Value} {l : List Int} (h : Own B w v l) {R : Nat} (g : w.grownBy w' (some R)) (hR : R < B) : Own B w' v l := by
  refine World.ownsRow.kept h g ?_
  cases hk : v.ownBlock with
  | none => exact .inl rfl
  | some k =>
    refine .inr ?_
    have := (h.lt k hk).1
    simp
    omega

/-- What a call answers that draws two numbers that are ok. -/
def DrawsTwo (w : World) (e : Ending) (w' : World) : Prop :=
  ∃ (a b : Int) (ao : Option Addr) (ca : Nat) (bo : Option Addr) (cb : Nat), e = .returned (.tuple #[.agg #[.bool (sg a), .slice ao (L a.natAbs).length ca], .agg #[.bool (sg b), .slice bo (L b.natAbs).length cb]]) ∧ (L a.natAbs).length ≤ 16 ∧ (L b.natAbs).length ≤ 16 ∧
    Own w.heap.size w' (.slice ao (L a.natAbs).length ca) (L a.natAbs) ∧ Own w.heap.size w' (.slice bo (L b.natAbs).length cb) (L b.natAbs) ∧ Below w.heap.size w w'

theorem draw64 {w : World} {R p : Nat} (hr : RD w R p) (hp : p ≤ 90000) : Calls Tryd.prog 33 #[.pointer (some ⟨R, 0, none⟩), .int .i64 64] w (Draws w R p 200) := l14Big_any w R p 64 hr hp (by omega) (by omega)

theorem draw33 {w : World} {R p : Nat} (hr : RD w R p) (hp : p ≤ 90000) : Calls Tryd.prog 33 #[.pointer (some ⟨R, 0, none⟩), .int .i64 33] w (Draws w R p 200) := l14Big_any w R p 33 hr hp (by omega) (by omega)

end Go.Proofs.YtomcgnkmlmiijaaDoor
