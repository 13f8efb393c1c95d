/- Whether two decimals are the same. -/
import Derived.Test.YtnegndajejhflaaDoorGvD
import Derived.Test.YtnegndajejhflaaDoorLawB0
namespace Go.Proofs.YtnegndajejhflaaDoor
open Go.RowKit


theorem eqDec_same (w : World) (p : Bool) (u v : Value) (l : List Int) (s : Int) (hu : Reads w u l) (hv : Reads w v l) :
    Calls Tryd.prog 28 #[.agg #[.bool p, u, .int .i64 s], .agg #[.bool p, v, .int .i64 s]] w fun e w' => e = .returned (.bool true) ∧ Below w.heap.size w w' := by
  have h := fun o o' => eqBig_same ((w.alloc o).alloc o') p u v l ((hu.alloc _).alloc _) ((hv.alloc _).alloc _)
  have H := hide h
  clear h
  have e0 : (!(s == s)) = false := by simp
  go_enter Tryd.func28, Tryd.ntmps28
  go_wp2_with fail
  refine (unhide H _ _).mono ?_
  rintro e w1 ⟨rfl, hb⟩
  obtain ⟨hc, hf⟩ := bcell hb
  have hz : w.heap.size + 1 < w1.heap.size := by have := hb.size; simp at this; omega
  go_wp2
  go_ret
  exact ⟨rfl, (((Below.refl _ _).alloc (Nat.le_refl _) _).alloc (by simp) _).trans (hb.mono (by simp; omega))⟩

end Go.Proofs.YtnegndajejhflaaDoor
