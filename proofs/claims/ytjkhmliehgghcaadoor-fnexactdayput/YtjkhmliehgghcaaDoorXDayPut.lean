/- The law FnExactDayPut: its walk. -/
import Derived.Test.YtjkhmliehgghcaaDoorDayT
namespace Go.Proofs.YtjkhmliehgghcaaDoor
open Go.RowKit

theorem xDayPut_walk (w : World) (n : Int) (ht : Tab w) :
    Calls Tryd.prog 6 #[.int .i64 n] w fun e w' => e = .returned (.bool true) ∧ Below w.heap.size w w' := by
  have HS := hide (fun W => specDayPut_any W n)
  have HI := hide (fun W (t : Tab W) => implDayPut_any W n t)
  generalize dayPutR n = T at *
  go_enter Tryd.func6, Tryd.ntmps6
  go_wp2_with fail
  refine (unhide HS _).mono ?_
  rintro e w1 ⟨rfl, b1⟩
  go_wp2_with fail
  refine (unhide HI _ (ht.later b1)).mono ?_
  rintro e w2 ⟨rfl, b2⟩
  go_wp2
  go_ret
  exact ⟨rfl, b1.trans (b2.mono b1.size)⟩

end Go.Proofs.YtjkhmliehgghcaaDoor
