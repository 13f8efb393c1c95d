/- The program's BigAdd and BigMul, by contracts. -/
import Derived.Test.YthnkmjkgcnhlfaaGreatDoorBigA0
import Derived.Test.YthnkmjkgcnhlfaaGreatDoorBigE0
import Derived.Test.YthnkmjkgcnhlfaaGreatDoorBigD
import Derived.Deep.RegionHeld
namespace Go.Proofs.YthnkmjkgcnhlfaaGreatDoor
open Go.RowKit
set_option maxRecDepth 100000


set_option maxHeartbeats 2000000 in
theorem implBigAdd_any (w : World) (p q : Bool) (u v : Value) (l m : List Int) (hu : Reads w u l) (hv : Reads w v m) :
    Calls Tryz.prog 34 #[.agg #[.bool p, u], .agg #[.bool q, v]] w (GivesBig2 w (outR (okB p l && okB q m) (zv p l + zv q m))) := by
  have CA := hide (fun W (h : Below w.heap.size w W) => implBigOk_any W p u l (hu.later h))
  have CB := hide (fun W (h : Below w.heap.size w W) => implBigOk_any W q v m (hv.later h))
  obtain ⟨ao, b1, off, cap, rfl, hu0⟩ := id hu
  obtain ⟨ao', b2, off', cap', rfl, hv0⟩ := id hv
  clear hu0 hv0
  by_cases ha : okB p l = true
  · rw [ha] at CA
    by_cases hb : okB q m = true
    · rw [hb] at CB
      obtain ⟨ea, la⟩ := ok_limbs ha
      obtain ⟨eb, lb⟩ := ok_limbs hb
      have hfin : outR (okB p l && okB q m) (zv p l + zv q m) = outR true (zv p l + zv q m) := by rw [ha, hb]; rfl
      rw [hfin]
      have hz : zv p l + zv q m = zof p (val l).toNat + zof q (val m).toNat := rfl
      rw [ea] at hu
      rw [eb] at hv
      rw [← ea] at hu
      rw [← eb] at hv
      have hua : Reads w (.slice ao l.length cap) (L (val l).toNat) := by rw [← ea]; exact hu
      have hva : Reads w (.slice ao' m.length cap') (L (val m).toNat) := by rw [← eb]; exact hv
      generalize (val l).toNat = a at *
      generalize (val m).toNat = b at *
      generalize zv p l + zv q m = z at *
      have C := hide (fun W (h : Below w.heap.size w W) => sumOf_any W p q _ _ a b (hua.later h) (hva.later h) (pow16 la (by decide)) (pow16 lb (by decide)) z hz)
      clear hfin ha hb hu hv ea eb la lb hua hva hz
      go_enter Tryz.func34, Tryz.ntmps34
      go_wp2_with fail
      refine (unhide CA _ (Bx.start w p q _ _).below).mono ?_
      rintro e w1 ⟨rfl, b1⟩
      have K1 := (Bx.start w p q (.slice ao l.length cap) (.slice ao' m.length cap')).later b1
      obtain ⟨kb1, ka01, ka11, kc01, kc11, kr01, kr11, kf01, kf11, kl1⟩ := id K1
      clear b1
      go_wp2_with fail
      refine (unhide CB w1 kb1).mono ?_
      rintro e w2 ⟨rfl, b2⟩
      have K2 := K1.later b2
      obtain ⟨kb2, ka02, ka12, kc02, kc12, kr02, kr12, kf02, kf12, kl2⟩ := id K2
      clear b2 ka01 ka11 kc01 kc11 kr01 kr11 kf01 kf11
      go_wp2_with fail
      refine (unhide C w2 kb2).mono ?_
      rintro e w3 ⟨ao3, cap3, rfl, o3, b3⟩
      have K3 := K2.later b3
      obtain ⟨kb3, ka03, ka13, kc03, kc13, kr03, kr13, kf03, kf13, kl3⟩ := id K3
      clear b3 ka02 ka12 kc02 kc12 kr02 kr12 kf02 kf12
      go_wp2_with fail
      refine (bounded_any w3 (sg z) ao3 _ cap3).mono ?_
      rintro e w4 ⟨rfl, b4⟩
      have K4 := K3.later b4
      obtain ⟨kb4, ka04, ka14, kc04, kc14, kr04, kr14, kf04, kf14, kl4⟩ := id K4
      have o4 := o3.later b4
      clear b4 o3 ka04 ka14 kc04 kc14
      by_cases h16 : 16 < (L z.natAbs).length
      · rw [if_pos h16]
        have Hfin := hide (by unfold outR; rw [if_neg (by omega)] : outR true z = (false, [], false))
        clear o4 h16
        go_wp2
        refine bodyPost_ret (v := .tuple #[.agg #[.bool false, .slice none 0 0], .bool false]) (by simp [results, Tryz.results34, go_sem, kr04, kr14]) rfl ?_
        rw [unhide Hfin]
        exact ⟨none, 0, rfl, Own.nil _ _, (kb4.setCell (by simp; omega) _).setCell (by simp; omega) _⟩
      · rw [if_neg h16]
        have Hfin := hide (by unfold outR; rw [if_pos ⟨rfl, by omega⟩] : outR true z = (sg z, L z.natAbs, true))
        clear h16
        go_wp2
        refine bodyPost_ret (v := .tuple #[.agg #[.bool (sg z), .slice ao3 (L z.natAbs).length cap3], .bool true]) (by simp [results, Tryz.results34, go_sem, kr04, kr14]) rfl ?_
        rw [unhide Hfin]
        exact ⟨ao3, cap3, rfl, ((o4.setBelow (by exact kl2) _).setBelow (by exact kl2) _).mono kb2.size, (kb4.setCell (by simp; omega) _).setCell (by simp; omega) _⟩
    · have hb' : okB q m = false := by simpa using hb
      rw [hb'] at CB
      have hfin : outR (okB p l && okB q m) = outR false := by rw [ha, hb']; rfl
      have Hfin := hide (by rw [hfin]; rfl : outR (okB p l && okB q m) (zv p l + zv q m) = (false, [], false))
      clear hfin ha hb hb' hu hv
      go_enter Tryz.func34, Tryz.ntmps34
      go_wp2_with fail
      refine (unhide CA _ (Bx.start w p q _ _).below).mono ?_
      rintro e w1 ⟨rfl, b1⟩
      have K1 := (Bx.start w p q (.slice ao l.length cap) (.slice ao' m.length cap')).later b1
      obtain ⟨kb1, ka01, ka11, kc01, kc11, kr01, kr11, kf01, kf11, kl1⟩ := id K1
      clear b1
      go_wp2_with fail
      refine (unhide CB w1 kb1).mono ?_
      rintro e w2 ⟨rfl, b2⟩
      have K2 := K1.later b2
      obtain ⟨kb2, ka02, ka12, kc02, kc12, kr02, kr12, kf02, kf12, kl2⟩ := id K2
      clear b2 ka01 ka11 kc01 kc11 kr01 kr11 kf01 kf11
      go_wp2
      refine bodyPost_ret (v := .tuple #[.agg #[.bool false, .slice none 0 0], .bool false]) (by simp [results, Tryz.results34, go_sem, kr02, kr12]) rfl ?_
      rw [unhide Hfin]
      exact ⟨none, 0, rfl, Own.nil _ _, (kb2.setCell (by simp; omega) _).setCell (by simp; omega) _⟩
  · have ha' : okB p l = false := by simpa using ha
    rw [ha'] at CA
    have hfin : outR (okB p l && okB q m) = outR false := by rw [ha']; rfl
    have Hfin := hide (by rw [hfin]; rfl : outR (okB p l && okB q m) (zv p l + zv q m) = (false, [], false))
    clear hfin ha ha' hu hv CB
    go_enter Tryz.func34, Tryz.ntmps34
    go_wp2_with fail
    refine (unhide CA _ (Bx.start w p q _ _).below).mono ?_
    rintro e w1 ⟨rfl, b1⟩
    have K1 := (Bx.start w p q (.slice ao l.length cap) (.slice ao' m.length cap')).later b1
    obtain ⟨kb1, ka01, ka11, kc01, kc11, kr01, kr11, kf01, kf11, kl1⟩ := id K1
    clear b1
    go_wp2
    refine bodyPost_ret (v := .tuple #[.agg #[.bool false, .slice none 0 0], .bool false]) (by simp [results, Tryz.results34, go_sem, kr01, kr11]) rfl ?_
    rw [unhide Hfin]
    exact ⟨none, 0, rfl, Own.nil _ _, (kb1.setCell (by simp; omega) _).setCell (by simp; omega) _⟩

end Go.Proofs.YthnkmjkgcnhlfaaGreatDoor
