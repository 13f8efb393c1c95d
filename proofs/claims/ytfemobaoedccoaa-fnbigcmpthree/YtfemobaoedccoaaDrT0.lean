/- What a draw of two numbers, ok or not, answers. -/
import Derived.Test.YtfemobaoedccoaaAny
import Derived.Test.YtfemobaoedccoaaDrB0
namespace Go.Proofs.Ytfemobaoedccoaa
open Go.RowKit


/-- What a call answers that draws two numbers, ok or not. -/
def DrawsTwoAny (w : World) (e : Ending) (w' : World) : Prop :=
  ∃ (p q : Bool) (l m : List Int) (ao : Option Addr) (ca : Nat) (bo : Option Addr) (cb : Nat), e = .returned (.tuple #[.agg #[.bool p, .slice ao l.length ca], .agg #[.bool q, .slice bo m.length cb]]) ∧ l.length ≤ 17 ∧ m.length ≤ 17 ∧
    Own w.heap.size w' (.slice ao l.length ca) l ∧ Own w.heap.size w' (.slice bo m.length cb) m ∧ Below w.heap.size w w'

theorem drawZ {w : World} {R p : Nat} (hr : RD w R p) (hp : p ≤ 90000) (z : Int) (h1 : 1 ≤ z) (h2 : z ≤ 64) : Calls Try.prog 46 #[.pointer (some ⟨R, 0, none⟩), .int .i64 z] w (Draws w R p 200) := by
  obtain ⟨n, rfl⟩ := Int.eq_ofNat_of_zero_le (show 0 ≤ z by omega)
  exact l14Big_any w R p n hr hp (by omega) (by omega)

end Go.Proofs.Ytfemobaoedccoaa
