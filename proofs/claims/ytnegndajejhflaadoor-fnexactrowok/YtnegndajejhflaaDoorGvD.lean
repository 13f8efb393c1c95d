/- What a call answers that hands out a decimal of its own. -/
import Derived.Test.YtnegndajejhflaaDoorKit1
namespace Go.Proofs.YtnegndajejhflaaDoor
open Go.RowKit

/-- What a call answers that hands out a decimal of its own. -/
def GivesDec (w : World) (neg : Bool) (l : List Int) (s : Int) (e : Ending) (w' : World) : Prop :=
  ∃ ao cap, e = .returned (.agg #[.bool neg, .slice ao l.length cap, .int .i64 s]) ∧ Own w.heap.size w' (.slice ao l.length cap) l ∧ Below w.heap.size w w'

end Go.Proofs.YtnegndajejhflaaDoor
