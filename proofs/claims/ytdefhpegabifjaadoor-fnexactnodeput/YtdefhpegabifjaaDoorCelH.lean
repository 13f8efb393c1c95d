/- Cells that are written, and those beside. -/
import Derived.Test.YtdefhpegabifjaaDoorProg
import Derived.Test.YtdefhpegabifjaaDoorBase
import Derived.WalkKit
import Derived.WalkSmall
import Derived.WalkLawsBesides
import Derived.Below
import Derived.Deep.QuietTactic
import Derived.BigQuiet
namespace Go.Proofs.YtdefhpegabifjaaDoor
open Go.RowKit

theorem cell_hit {w : World} {b i : Nat} {u : Value} (h : w.cell? ⟨b, i, none⟩ = some u) (x : Value) : (w.setCell ⟨b, i, none⟩ x).cell? ⟨b, i, none⟩ = some x := by go_simp

theorem cell_pass {w : World} {b i : Nat} {u : Value} (h : w.cell? ⟨b, i, none⟩ = some u) {j : Nat} (hj : i ≠ j) (x : Value) : (w.setCell ⟨b, j, none⟩ x).cell? ⟨b, i, none⟩ = some u := by go_simp

end Go.Proofs.YtdefhpegabifjaaDoor
