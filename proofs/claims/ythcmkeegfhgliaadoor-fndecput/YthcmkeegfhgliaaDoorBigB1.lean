/- Cells behind later calls. -/
import Derived.Test.YthcmkeegfhgliaaDoorBigS1
import Derived.WalkSpells
namespace Go.Proofs.YthcmkeegfhgliaaDoor
open Go.RowKit
set_option maxRecDepth 100000


theorem frozen_later {w w1 : World} {b o : Nat} (hb : Below w.heap.size w w1) (h : w.frozen? ⟨b, o, none⟩ = false) (hz : b < w.heap.size) : w1.frozen? ⟨b, o, none⟩ = false :=
  (hb.frozen (p := ⟨b, o, none⟩) hz).trans h

theorem lt_later {w w1 : World} {b : Nat} (hb : Below w.heap.size w w1) (hz : b < w.heap.size) : b < w1.heap.size := Nat.lt_of_lt_of_le hz hb.size

theorem cell_set2 {w : World} {b o c : Nat} {x : Value} (h : w.cell? ⟨b, o, none⟩ = some x) (hne : b ≠ c) (u u' : Value) : ((w.setCell ⟨c, 0, none⟩ u).setCell ⟨c, 1, none⟩ u').cell? ⟨b, o, none⟩ = some x := by
  have e : ((w.setCell ⟨c, 0, none⟩ u).setCell ⟨c, 1, none⟩ u').heap[b]? = w.heap[b]? := by
    rw [Below.heap_setCell _ _ _ _ (by exact hne), Below.heap_setCell _ _ _ _ (by exact hne)]
  exact (World.cell?_of_block (a := ⟨b, o, none⟩) e).trans h

/-- An owned list stays while a cell of another block is written that holds no list of ints. -/
theorem Own.setOther {B : Nat} {w : World} {v : Value} {l : List Int} (h : Own B w v l) {a : Addr} (ha : v.ownBlock ≠ some a.block) (u : Value) : Own B (w.setCell a u) v l :=
  World.ownsRow.kept (row := some a.block) h ⟨rfl, rfl, rfl, by simp, fun k _ hk => Below.heap_setCell w a u k (fun e => hk (by rw [e]))⟩ (.inr ha)

end Go.Proofs.YthcmkeegfhgliaaDoor
