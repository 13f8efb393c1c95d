/- Two decimals to multiply are drawn: DrawDecMul by a contract. -/
import Derived.Test.YthnkmjkgcnhlfaaGreatDoorK01
namespace Go.Proofs.YthnkmjkgcnhlfaaGreatDoor
open Go.RowKit
set_option maxRecDepth 100000

set_option maxHeartbeats 2000000 in
theorem drawDecMul_any (w : World) (v : Value) (h : Byt w v) : Calls Tryz.prog 24 #[v] w (DrawsTwoD w) := by
  obtain ⟨B0, E0, E1⟩ := T2.start w
  have C0 := hide (l1Open_any _ v (h.later B0))
  have CT := hide (fun W (b : Below w.heap.size w W) => twoDecs_any W v (h.later b))
  have hsz : ((w.alloc (.cells #[.bool false, .slice none 0 0, .int .i64 0] 27)).alloc (.cells #[.bool false, .slice none 0 0, .int .i64 0] 27)).heap.size = w.heap.size + 1 + 1 := by simp
  clear h
  go_enter Tryz.func24, Tryz.ntmps24
  go_wp2_with fail
  refine (unhide C0).mono ?_
  rintro e w1 ⟨rfl, r1, b1, z1⟩
  rw [hsz] at r1
  have K1 : T2 w w1 (w.heap.size + 1 + 1) 0 := ⟨B0.trans (b1.mono B0.size), E0.later b1, E1.later b1, r1, by omega⟩
  simp only [hsz]
  clear C0 B0 E0 E1 b1 r1 z1 hsz
  generalize hR : w.heap.size + 1 + 1 = R at *
  clear hR
  go_wp2_with fail
  refine (pick_any _ R 0 2 K1.rd (by omega) (by omega) (by omega)).mono ?_
  rintro e w2 ⟨x, rfl, hx, r2, g2⟩
  have K2 := K1.grown g2 r2
  have hR0 := K2.hR
  clear K1 r2 g2
  by_cases x0 : x = 0
  · subst x0
    clear CT
    go_wp2_with fail
    refine (l14Big_any w2 R _ 15 K2.rd (by omega) (by omega) (by omega)).mono ?_
    rintro e w3 ⟨z, aa, ca, n3, rfl, hz, oa, r3, hn3, g3⟩
    have hRl := K2.rd.lt
    have K3 := K2.grown g3 r3
    clear K2 r3 g3
    go_wp2_with fail
    refine (pick_any w3 R n3 13 K3.rd (by omega) (by omega) (by omega)).mono ?_
    rintro e w4 ⟨s, rfl, hs, r4, g4⟩
    have K4 := K3.grown g4 r4
    have oa4 := (oa.grown g4 hRl).mono (show R + 1 ≤ w2.heap.size by omega)
    clear K3 r4 g4 oa
    go_wp2_with fail
    refine (l14Big_any w4 R _ 15 K4.rd (by omega) (by omega) (by omega)).mono ?_
    rintro e w5 ⟨y, ab, cb, n5, rfl, hy, ob, r5, hn5, g5⟩
    have hRl4 := K4.rd.lt
    have K5 := K4.grown g5 r5
    have oa5 := oa4.grown g5 (by omega)
    clear K4 r5 g5 oa4
    go_wp2_with fail
    refine (pick_any w5 R n5 13 K5.rd (by omega) (by omega) (by omega)).mono ?_
    rintro e w6 ⟨t, rfl, ht, r6, g6⟩
    have K6 := K5.grown g6 r6
    have oa6 := oa5.grown g6 (by omega)
    have ob6 := (ob.grown g6 hRl4).mono (show R + 1 ≤ w4.heap.size by omega)
    clear K5 r6 g6 oa5 ob
    obtain ⟨-, ⟨c0, c1, c2, cf0, cf1, cf2, cl⟩, ⟨d0, d1, d2, df0, df1, df2, dl⟩, -, -⟩ := id K6
    go_wp2
    refine bodyPost_ret (v := .tuple #[.agg #[.bool (sg z), .slice aa (L z.natAbs).length ca, .int .i64 s], .agg #[.bool (sg y), .slice ab (L y.natAbs).length cb, .int .i64 t]]) (by simp [results, Tryz.results24, go_sem, c0, c1, c2, d0, d1, d2]) rfl ?_
    exact twoD_gives2 K6.below oa6 ob6 (by omega) (by omega)
  · have x0' : ((x : Int) == 0) = false := by rw [beq_eq_false_iff_ne]; omega
    go_wp2_with fail
    refine (unhide CT _ K2.below).mono ?_
    rintro e w3 ⟨p, q, l, m, s, t, aa, ca, ab, cb, rfl, oa, ob, b3⟩
    have K3 := K2.later b3
    have hRl := K2.rd.lt
    clear K2 CT b3
    obtain ⟨-, ⟨c0, c1, c2, cf0, cf1, cf2, cl⟩, ⟨d0, d1, d2, df0, df1, df2, dl⟩, -, -⟩ := id K3
    go_wp2
    refine bodyPost_ret (v := .tuple #[.agg #[.bool p, .slice aa l.length ca, .int .i64 s], .agg #[.bool q, .slice ab m.length cb, .int .i64 t]]) (by simp [results, Tryz.results24, go_sem, c0, c1, c2, d0, d1, d2]) rfl ?_
    exact twoD_gives2 K3.below oa ob (by omega) (by omega)

end Go.Proofs.YthnkmjkgcnhlfaaGreatDoor
