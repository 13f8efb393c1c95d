/- The law FnDayPut: its walk. -/
import Derived.Test.YtnfalniijmccjaaDoorDyL
import Derived.Test.YtnfalniijmccjaaDoorDrDay
import Derived.Test.YtnfalniijmccjaaDoorByt1
namespace Go.Proofs.YtnfalniijmccjaaDoor
open Go.RowKit
set_option maxRecDepth 100000

theorem drawDayPut_any (w : World) (v : Value) (h : Byt w v) :
    Calls Tryd.prog 10 #[v] w fun e w' => ∃ n : Int, e = .returned (.int .i64 n) ∧ Below w.heap.size w w' := by
  have C0 := hide (l1Open_any w v h)
  go_enter Tryd.func10, Tryd.ntmps10
  go_wp2_with fail
  refine (unhide C0).mono ?_
  rintro e w1 ⟨rfl, r1, b1, z1⟩
  clear C0
  go_wp2_with fail
  refine (l14AnyDay_any w1 _ 0 r1 (by omega)).mono ?_
  rintro e w2 ⟨x, q, rfl, r2, hq, g2⟩
  go_wp2
  go_ret
  exact ⟨x, rfl, grown_below_trans b1 (Nat.le_refl _) g2⟩

theorem dayT_ne {n : Int} (h : IsDay n) : dayT n ≠ ⟨#[]⟩ := fun e => by
  have := dayT_size h
  rw [e] at this
  cases this

theorem day_some {n : Int} (h : IsDay n) : (dayT n).toList.isEmpty = false := by
  rw [ByteArray.toList_eq, dayT_list h]
  rfl

theorem toList_ne {s t : ByteArray} (h : s ≠ t) : (s.toList == t.toList) = false := by
  rw [beq_eq_false_iff_ne]
  intro k
  rw [ByteArray.toList_eq, ByteArray.toList_eq] at k
  exact h (ByteArray.ext (Array.toList_inj.1 k))

set_option maxHeartbeats 1000000 in
theorem xDayPutP_walk (w : World) (u u1 : Value) (hu : Byt w u) (hu1 : Byt w u1) (tt : Tab w) (he : Er w) :
    Calls Tryd.prog 3 #[u, u1] w fun e w' => e = .returned (.bool true) ∧ Below w.heap.size w w' := by
  have C0 := hide (drawDayPut_any w u hu)
  have C1 := hide (fun W (b : Below w.heap.size w W) => drawDayPut_any W u1 (hu1.later b))
  obtain ⟨ao, N, cap, rfl, hn⟩ := byt_len hu
  obtain ⟨ao1, N1, cap1, rfl, hn1⟩ := byt_len hu1
  clear hu hu1
  by_cases hl : (1048576 : Int) < N
  · have t0 : decide ((1048576 : Int) < N) = true := by simpa using hl
    go_enter Tryd.func3, Tryd.ntmps3
    go_wp2
    go_ret
    exact ⟨rfl, Below.refl _ _⟩
  have t0 : decide ((1048576 : Int) < N) = false := by simpa using hl
  by_cases hl1 : (1048576 : Int) < N1
  · have t1 : decide ((1048576 : Int) < N1) = true := by simpa using hl1
    go_enter Tryd.func3, Tryd.ntmps3
    go_wp2
    go_ret
    exact ⟨rfl, Below.refl _ _⟩
  have t1 : decide ((1048576 : Int) < N1) = false := by simpa using hl1
  go_enter Tryd.func3, Tryd.ntmps3
  go_wp2_with fail
  refine (unhide C0).mono ?_
  rintro e w1 ⟨n, rfl, b1⟩
  go_wp2_with fail
  refine (unhide C1 _ b1).mono ?_
  rintro e w2 ⟨k, rfl, b2⟩
  have B2 := b1.trans (b2.mono b1.size)
  clear C0 C1 b1 b2
  go_wp2_with fail
  refine (implDayPut_any w2 n (tt.later B2)).mono ?_
  rintro e w3 ⟨rfl, b3⟩
  have B3 := B2.trans (b3.mono B2.size)
  clear b3 B2
  go_wp2_with fail
  refine (implDayPut_any w3 k (tt.later B3)).mono ?_
  rintro e w4 ⟨rfl, b4⟩
  have B4 := B3.trans (b4.mono B3.size)
  clear b4 B3
  have CS := hide (fun W => specDayPut_any W n)
  have es : ((dayPutR n).toList == (dayPutR n).toList) = true := by simp
  have es2 : ((dayPutR n).toList != (dayPutR n).toList) = false := by simp
  by_cases hN : IsDay n
  case neg =>
    have e1 : dayPutR n = ⟨#[]⟩ := if_neg hN
    have e0 : ((⟨#[]⟩ : ByteArray).toList == (⟨#[]⟩ : ByteArray).toList) = true := by simp
    rw [e1] at CS es es2
    clear hN
    rw [e1]
    clear e1
    go_wp2_with fail
    refine (unhide CS _).mono ?_
    rintro e w5 ⟨rfl, b5⟩
    have B5 := B4.trans (b5.mono B4.size)
    clear b5 B4
    go_wp2_with fail
    refine (unhide CS _).mono ?_
    rintro e w6 ⟨rfl, b6⟩
    go_wp2
    go_ret
    exact ⟨rfl, B5.trans (b6.mono B5.size)⟩
  have e1 : dayPutR n = dayT n := if_pos hN
  have n0 : ((dayT n).toList == (⟨#[]⟩ : ByteArray).toList) = false := toList_ne (dayT_ne hN)
  have n1 := day_some hN
  rw [e1] at CS es es2
  by_cases hK : IsDay k
  case neg =>
    have e2 : dayPutR k = ⟨#[]⟩ := if_neg hK
    have e0 : ((⟨#[]⟩ : ByteArray).toList == (⟨#[]⟩ : ByteArray).toList) = true := by simp
    clear hN hK
    rw [e1, e2]
    clear e1 e2
    go_wp2_with fail
    refine (unhide CS _).mono ?_
    rintro e w5 ⟨rfl, b5⟩
    have B5 := B4.trans (b5.mono B4.size)
    clear b5 B4
    go_wp2_with fail
    refine (unhide CS _).mono ?_
    rintro e w6 ⟨rfl, b6⟩
    go_wp2
    go_ret
    exact ⟨rfl, B5.trans (b6.mono B5.size)⟩
  have e2 : dayPutR k = dayT k := if_pos hK
  have k0 : ((dayT k).toList == (⟨#[]⟩ : ByteArray).toList) = false := toList_ne (dayT_ne hK)
  have k1 := day_some hK
  have CG := hide (fun W (b : Below w.heap.size w W) => implDayGet_any W (dayT n) (tt.later b) (he.later b))
  rw [dayG_of (s := dayT n) (n := n) ⟨hN, rfl⟩, decide_eq_true (show 0 < n by unfold IsDay at hN; omega)] at CG
  have hless := day_less hN hK
  have hsz := dayT_size hN
  have hs10 : (((dayT n).size : Int) == 10) = true := by rw [hsz]; rfl
  have hnn : (n == n) = true := by simp
  have hbb : (decide (n < k) == decide (n < k)) = true := by simp
  clear hN hK hsz
  rw [e1, e2]
  clear e1 e2
  go_wp2_with fail
  refine (unhide CS _).mono ?_
  rintro e w5 ⟨rfl, b5⟩
  have B5 := B4.trans (b5.mono B4.size)
  clear b5 B4 CS
  go_wp2_with fail
  refine (unhide CG _ B5).mono ?_
  rintro e w6 ⟨rfl, b6⟩
  go_wp2
  go_ret
  exact ⟨rfl, B5.trans (b6.mono B5.size)⟩

end Go.Proofs.YtnfalniijmccjaaDoor
