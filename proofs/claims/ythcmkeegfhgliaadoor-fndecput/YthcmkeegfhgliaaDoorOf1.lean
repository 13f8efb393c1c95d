/- The shape of what is owned. -/
import Derived.Test.YthcmkeegfhgliaaDoorPush
namespace Go.Proofs.YthcmkeegfhgliaaDoor
open Go.RowKit

theorem Own.shape {B : Nat} {w : World} {v : Value} {l : List Int} (h : Own B w v l) : ∃ ao cap, v = .slice ao l.length cap := by
  rcases h.split with ⟨rfl, rfl⟩ | ⟨g, cap, rfl, _⟩
  · exact ⟨none, 0, rfl⟩
  · exact ⟨_, cap, rfl⟩

end Go.Proofs.YthcmkeegfhgliaaDoor
