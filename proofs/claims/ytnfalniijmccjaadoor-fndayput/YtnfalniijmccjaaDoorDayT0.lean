/- Noughts: strings.Repeat of one. -/
import Derived.Test.YtnfalniijmccjaaDoorTxS0
import Derived.Test.YtnfalniijmccjaaDoorTab
namespace Go.Proofs.YtnfalniijmccjaaDoor
open Go.RowKit

theorem repeatL_one (c : Nat) : Lib.repeatL [48] c = List.replicate c 48 := by
  induction c with
  | zero => rfl
  | succ c ih => simpa [Lib.repeatL, List.replicate_succ] using ih

theorem zeros_any (w : World) (c : Nat) (hc : c ≤ 1000000) :
    Calls Tryd.prog 69 #[.string ⟨#[48]⟩, .int .i64 c] w fun e w' => e = .returned (.string ⟨(List.replicate c 48).toArray⟩) ∧ Below w.heap.size w w' := by
  have C := Tryd.strings_Repeat ⟨#[48]⟩ c w (by omega) (by show 1 * c ≤ _; omega)
  rw [show (⟨#[48]⟩ : ByteArray).data.toList = [48] from rfl, repeatL_one] at C
  exact C

end Go.Proofs.YtnfalniijmccjaaDoor
