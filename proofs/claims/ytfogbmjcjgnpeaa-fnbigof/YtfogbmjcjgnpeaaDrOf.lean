/- DrawBigOf draws some int. -/
import Derived.Test.YtfogbmjcjgnpeaaRdA
namespace Go.Proofs.Ytfogbmjcjgnpeaa
open Go.RowKit

set_option maxHeartbeats 1000000 in
theorem drawBigOf_any (w : World) (v : Value) (h : Byt w v) : Calls Try.prog 18 #[v] w fun e w' => ∃ n : Int, e = .returned (.int .i64 n) ∧ (-9223372036854775808 ≤ n ∧ n ≤ 9223372036854775807) ∧ Below w.heap.size w w' := by
  have C0 := hide (l1Open_any w v h)
  go_enter Try.func18, Try.ntmps18
  go_wp2_with fail
  refine (unhide C0).mono ?_
  rintro e w1 ⟨rfl, r1, b1, z1⟩
  clear C0
  go_wp2_with fail
  refine (pick_any _ _ _ 256 r1 (by omega) (by omega) (by omega)).mono ?_
  rintro e w2 ⟨x2, rfl, hx2, r2, g2⟩
  go_wp2_with fail
  refine (pick_any _ _ _ 256 r2 (by omega) (by omega) (by omega)).mono ?_
  rintro e w3 ⟨x3, rfl, hx3, r3, g3⟩
  go_wp2_with fail
  refine (pick_any _ _ _ 256 r3 (by omega) (by omega) (by omega)).mono ?_
  rintro e w4 ⟨x4, rfl, hx4, r4, g4⟩
  go_wp2_with fail
  refine (pick_any _ _ _ 256 r4 (by omega) (by omega) (by omega)).mono ?_
  rintro e w5 ⟨x5, rfl, hx5, r5, g5⟩
  obtain ⟨n, hn⟩ : ∃ n : Int, (x2 : Int) * 16777216 + (x3 : Int) * 65536 + (x4 : Int) * 256 + (x5 : Int) = n := ⟨_, rfl⟩
  have hn1 : 0 ≤ n := by omega
  have hn2 : n ≤ 4294967296 := by omega
  go_wp2_with fail
  refine (pick_any _ _ _ 1000 r5 (by omega) (by omega) (by omega)).mono ?_
  rintro e w6 ⟨x6, rfl, hx6, r6, g6⟩
  go_wp2_with fail
  refine (one_lit _ _ _ [0, 1, -1, 9999, 10000, -10000, 99999999, 9223372036854775807, -9223372036854775808, n, -n, n * 1000000, (x6 : Int)] _ rfl r6 (by omega) (by simp) (by simp)).mono ?_
  rintro e w7 ⟨x7, rfl, hx7, r7, g7⟩
  go_wp2
  go_ret
  refine ⟨x7, rfl, ?_, grown_below_trans b1 (Nat.le_refl _) (grown_trans (grown_trans (grown_trans (grown_trans (grown_trans g2 g3) g4) g5) g6) g7)⟩
  simp only [List.mem_cons, List.not_mem_nil, or_false] at hx7
  omega

end Go.Proofs.Ytfogbmjcjgnpeaa
