/- Shapes of what is owned. -/
import Derived.Test.YtocpnihidfbijaaEbx1
namespace Go.Proofs.Ytocpnihidfbijaa
open Go.RowKit

theorem EBox'.later1 {w0 w w' : World} (h : EBox' w0 w) (b : Below (w0.heap.size + 1) w w') : EBox' w0 w' :=
  ⟨h.below.trans (b.mono (Nat.le_succ _)), (b.cell (p := ⟨w0.heap.size, 0, none⟩) (Nat.lt_succ_self _)).trans h.c0, (b.cell (p := ⟨w0.heap.size, 1, none⟩) (Nat.lt_succ_self _)).trans h.c1, (b.frozen (p := ⟨w0.heap.size, 0, none⟩) (Nat.lt_succ_self _)).trans h.f0, (b.frozen (p := ⟨w0.heap.size, 1, none⟩) (Nat.lt_succ_self _)).trans h.f1, Nat.lt_of_lt_of_le h.lt b.size⟩

theorem Own.shape {B : Nat} {w : World} {v : Value} {l : List Int} (h : Own B w v l) : ∃ ao cap, v = .slice ao l.length cap := by
  rcases h.split with ⟨rfl, rfl⟩ | ⟨g, cap, rfl, _⟩
  · exact ⟨none, 0, rfl⟩
  · exact ⟨_, cap, rfl⟩

end Go.Proofs.Ytocpnihidfbijaa
