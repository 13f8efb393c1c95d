/- Shapes of what is owned. -/
import Derived.Test.YtomcgnkmlmiijaaDoorGi
import Derived.Test.YtomcgnkmlmiijaaDoorEbx1
namespace Go.Proofs.YtomcgnkmlmiijaaDoor
open Go.RowKit


theorem EBox'.later1 {w0 w w' : World} (h : EBox' w0 w) (b : Below (w0.heap.size + 1) w w') : EBox' w0 w' :=
  ⟨h.below.trans (b.mono (Nat.le_succ _)), (b.cell (p := ⟨w0.heap.size, 0, none⟩) (Nat.lt_succ_self _)).trans h.c0, (b.cell (p := ⟨w0.heap.size, 1, none⟩) (Nat.lt_succ_self _)).trans h.c1, (b.frozen (p := ⟨w0.heap.size, 0, none⟩) (Nat.lt_succ_self _)).trans h.f0, (b.frozen (p := ⟨w0.heap.size, 1, none⟩) (Nat.lt_succ_self _)).trans h.f1, Nat.lt_of_lt_of_le h.lt b.size⟩

end Go.Proofs.YtomcgnkmlmiijaaDoor
