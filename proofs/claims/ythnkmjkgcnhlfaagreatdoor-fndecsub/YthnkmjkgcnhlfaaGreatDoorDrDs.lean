/- DecSub by a contract. -/
import Derived.Test.YthnkmjkgcnhlfaaGreatDoorK01
namespace Go.Proofs.YthnkmjkgcnhlfaaGreatDoor
open Go.RowKit
set_option maxRecDepth 100000

theorem drawDecSub_any (w : World) (v : Value) (h : Byt w v) : Calls Tryz.prog 21 #[v] w (DrawsTwoD w) := by
  obtain ⟨B0, E0, E1⟩ := T2.start w
  have C := hide (twoDecs_any _ v (h.later B0))
  have hsz : ((w.alloc (.cells #[.bool false, .slice none 0 0, .int .i64 0] 27)).alloc (.cells #[.bool false, .slice none 0 0, .int .i64 0] 27)).heap.size = w.heap.size + 1 + 1 := by simp
  clear h
  go_enter Tryz.func21, Tryz.ntmps21
  go_wp2_with fail
  refine (unhide C).mono ?_
  rintro e w1 ⟨p, q, l, m, s, t, aa, ca, ab, cb, rfl, oa, ob, b1⟩
  have K1 := B0.trans (b1.mono B0.size)
  obtain ⟨c0, c1, c2, cf0, cf1, cf2, cl⟩ := E0.later b1
  obtain ⟨d0, d1, d2, df0, df1, df2, dl⟩ := E1.later b1
  rw [hsz] at oa ob
  clear C B0 E0 E1 b1 hsz
  go_wp2
  refine bodyPost_ret (v := .tuple #[.agg #[.bool p, .slice aa l.length ca, .int .i64 s], .agg #[.bool q, .slice ab m.length cb, .int .i64 t]]) (by simp [results, Tryz.results21, go_sem, c0, c1, c2, d0, d1, d2]) rfl ?_
  exact twoD_gives2 K1 oa ob (by omega) (by omega)

end Go.Proofs.YthnkmjkgcnhlfaaGreatDoor
