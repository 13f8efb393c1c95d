/- What a promise's walk carries from call to call: numbers in boxes. A sign and limbs; a number that is not too long. BigMul of the program. Words for functions of two numbers that answer a number and whether; the specification's sums with signs, and its bound. The program's BigAdd and BigMul, by contracts. The program's BigSub, by a contract. The program's sums, differences and products, at numbers that are ok. BigTen of the program, by a contract. -/
import Derived.Test.YthnkmjkgcnhlfaaGreatDoorH07
import Derived.Test.YthnkmjkgcnhlfaaGreatDoorH10
import Derived.Deep.RegionWith
import Derived.Test.YthnkmjkgcnhlfaaGreatDoorK06
import Derived.Deep.RegionHeld
import Derived.Test.YthnkmjkgcnhlfaaGreatDoorL1A
import Derived.Test.YthnkmjkgcnhlfaaGreatDoorH16
import Derived.Test.YthnkmjkgcnhlfaaGreatDoorH19
import Derived.Test.YthnkmjkgcnhlfaaGreatDoorOkA
import Derived.Test.YthnkmjkgcnhlfaaGreatDoorK03
import Derived.Test.YthnkmjkgcnhlfaaGreatDoorH09
namespace Go.Proofs.YthnkmjkgcnhlfaaGreatDoor
open Go.RowKit


/-- The law began in w; now, in W, each of 'bs' (block, sign, slice, list) stands in its box. -/
structure PS (w W : World) (bs : List (Nat × Bool × Value × List Int)) : Prop where
  below : Below w.heap.size w W
  box : ∀ b ∈ bs, W.cell? ⟨b.1, 0, none⟩ = some (.bool b.2.1) ∧ W.cell? ⟨b.1, 1, none⟩ = some b.2.2.1 ∧ Reads W b.2.2.1 b.2.2.2 ∧ b.1 < W.heap.size

theorem PS.start {w W : World} (h : Below w.heap.size w W) : PS w W [] := ⟨h, by simp⟩

theorem PS.later {w W W' : World} {bs : List (Nat × Bool × Value × List Int)} (h : PS w W bs) (k : Below W.heap.size W W') : PS w W' bs :=
  ⟨h.below.trans (k.mono h.below.size), fun b hb => ⟨cell_later k (h.box b hb).1, cell_later k (h.box b hb).2.1, (h.box b hb).2.2.1.later k, Nat.lt_of_lt_of_le (h.box b hb).2.2.2 k.size⟩⟩

theorem PS.add {w W : World} {bs : List (Nat × Bool × Value × List Int)} (h : PS w W bs) (g : Bool) (s : Value) (l : List Int) (hr : Reads W s l) :
    PS w (W.alloc (.cells #[.bool g, s] 25)) (bs ++ [(W.heap.size, g, s, l)]) := by
  have k : Below W.heap.size W (W.alloc (.cells #[.bool g, s] 25)) := (Below.refl _ _).alloc (Nat.le_refl _) _
  refine ⟨(h.later k).below, fun b hb => ?_⟩
  rcases List.mem_append.1 hb with hb | hb
  · exact (h.later k).box b hb
  · simp at hb
    subst hb
    exact ⟨by simp, by simp, hr.later k, by simp⟩

end Go.Proofs.YthnkmjkgcnhlfaaGreatDoor

namespace Go.Proofs.YthnkmjkgcnhlfaaGreatDoor
open Go.RowKit
set_option maxRecDepth 100000

/-- A number that is not too long, and whether. -/
theorem bounded_any (w : World) (neg : Bool) (ao : Option Addr) (n cap : Nat) :
    Calls Tryz.prog 75 #[.agg #[.bool neg, .slice ao n cap]] w fun e w' => e = .returned (if 16 < n then .tuple #[.agg #[.bool false, .slice none 0 0], .bool false] else .tuple #[.agg #[.bool neg, .slice ao n cap], .bool true]) ∧ Below w.heap.size w w' := by
  by_cases h : 16 < n
  · rw [if_pos h]
    go_enter Tryz.func75, Tryz.ntmps75
    go_wp2
    refine bodyPost_ret (v := .tuple #[.agg #[.bool false, .slice none 0 0], .bool false]) (by simp [results, Tryz.results75, go_sem]) rfl ⟨rfl, ?_⟩
    exact ((Below.refl _ _).alloc (Nat.le_refl _) _).alloc (by simp) _
  · rw [if_neg h]
    go_enter Tryz.func75, Tryz.ntmps75
    go_wp2
    refine bodyPost_ret (v := .tuple #[.agg #[.bool neg, .slice ao n cap], .bool true]) (by simp [results, Tryz.results75, go_sem]) rfl ⟨rfl, ?_⟩
    exact ((Below.refl _ _).alloc (Nat.le_refl _) _).alloc (by simp) _

end Go.Proofs.YthnkmjkgcnhlfaaGreatDoor

namespace Go.Proofs.YthnkmjkgcnhlfaaGreatDoor
open Go.RowKit
set_option maxRecDepth 100000

set_option maxHeartbeats 2000000 in
theorem implBigMul_any (w : World) (p q : Bool) (u v : Value) (l m : List Int) (hu : Reads w u l) (hv : Reads w v m) :
    Calls Tryz.prog 32 #[.agg #[.bool p, u], .agg #[.bool q, v]] w (GivesBig2 w (outR (okB p l && okB q m) (zv p l * zv q m))) := by
  have CA := hide (fun W (h : Below w.heap.size w W) => implBigOk_any W p u l (hu.later h))
  have CB := hide (fun W (h : Below w.heap.size w W) => implBigOk_any W q v m (hv.later h))
  obtain ⟨ao, b1, off, cap, rfl, hu0⟩ := id hu
  obtain ⟨ao', b2, off', cap', rfl, hv0⟩ := id hv
  clear hu0 hv0
  by_cases ha : okB p l = true
  · rw [ha] at CA
    by_cases hb : okB q m = true
    · rw [hb] at CB
      obtain ⟨ea, la⟩ := ok_limbs ha
      obtain ⟨eb, lb⟩ := ok_limbs hb
      have hfin : outR (okB p l && okB q m) (zv p l * zv q m) = outR true (zv p l * zv q m) := by rw [ha, hb]; rfl
      rw [hfin]
      have hz : zv p l * zv q m = zof p (val l).toNat * zof q (val m).toNat := rfl
      rw [ea] at hu
      rw [eb] at hv
      rw [← ea] at hu
      rw [← eb] at hv
      have hua : Reads w (.slice ao l.length cap) (L (val l).toNat) := by rw [← ea]; exact hu
      have hva : Reads w (.slice ao' m.length cap') (L (val m).toNat) := by rw [← eb]; exact hv
      generalize (val l).toNat = a at *
      generalize (val m).toNat = b at *
      generalize zv p l * zv q m = z at *
      have C := hide (fun W (h : Below w.heap.size w W) => productOf_any W p q _ _ a b (hua.later h) (hva.later h) (pow16 la (by decide)) (pow16 lb (by decide)) z hz)
      clear hfin ha hb hu hv ea eb la lb hua hva hz
      go_enter Tryz.func32, Tryz.ntmps32
      go_wp2_with fail
      refine (unhide CA _ (Bx.start w p q _ _).below).mono ?_
      rintro e w1 ⟨rfl, b1⟩
      have K1 := (Bx.start w p q (.slice ao l.length cap) (.slice ao' m.length cap')).later b1
      obtain ⟨kb1, ka01, ka11, kc01, kc11, kr01, kr11, kf01, kf11, kl1⟩ := id K1
      clear b1
      go_wp2_with fail
      refine (unhide CB w1 kb1).mono ?_
      rintro e w2 ⟨rfl, b2⟩
      have K2 := K1.later b2
      obtain ⟨kb2, ka02, ka12, kc02, kc12, kr02, kr12, kf02, kf12, kl2⟩ := id K2
      clear b2 ka01 ka11 kc01 kc11 kr01 kr11 kf01 kf11
      go_wp2_with fail
      refine (unhide C w2 kb2).mono ?_
      rintro e w3 ⟨ao3, cap3, rfl, o3, b3⟩
      have K3 := K2.later b3
      obtain ⟨kb3, ka03, ka13, kc03, kc13, kr03, kr13, kf03, kf13, kl3⟩ := id K3
      clear b3 ka02 ka12 kc02 kc12 kr02 kr12 kf02 kf12
      go_wp2_with fail
      refine (bounded_any w3 (sg z) ao3 _ cap3).mono ?_
      rintro e w4 ⟨rfl, b4⟩
      have K4 := K3.later b4
      obtain ⟨kb4, ka04, ka14, kc04, kc14, kr04, kr14, kf04, kf14, kl4⟩ := id K4
      have o4 := o3.later b4
      clear b4 o3 ka04 ka14 kc04 kc14
      by_cases h16 : 16 < (L z.natAbs).length
      · rw [if_pos h16]
        have Hfin := hide (by unfold outR; rw [if_neg (by omega)] : outR true z = (false, [], false))
        clear o4 h16
        go_wp2
        refine bodyPost_ret (v := .tuple #[.agg #[.bool false, .slice none 0 0], .bool false]) (by simp [results, Tryz.results32, go_sem, kr04, kr14]) rfl ?_
        rw [unhide Hfin]
        exact ⟨none, 0, rfl, Own.nil _ _, (kb4.setCell (by simp; omega) _).setCell (by simp; omega) _⟩
      · rw [if_neg h16]
        have Hfin := hide (by unfold outR; rw [if_pos ⟨rfl, by omega⟩] : outR true z = (sg z, L z.natAbs, true))
        clear h16
        go_wp2
        refine bodyPost_ret (v := .tuple #[.agg #[.bool (sg z), .slice ao3 (L z.natAbs).length cap3], .bool true]) (by simp [results, Tryz.results32, go_sem, kr04, kr14]) rfl ?_
        rw [unhide Hfin]
        exact ⟨ao3, cap3, rfl, ((o4.setBelow (by exact kl2) _).setBelow (by exact kl2) _).mono kb2.size, (kb4.setCell (by simp; omega) _).setCell (by simp; omega) _⟩
    · have hb' : okB q m = false := by simpa using hb
      rw [hb'] at CB
      have hfin : outR (okB p l && okB q m) = outR false := by rw [ha, hb']; rfl
      have Hfin := hide (by rw [hfin]; rfl : outR (okB p l && okB q m) (zv p l * zv q m) = (false, [], false))
      clear hfin ha hb hb' hu hv
      go_enter Tryz.func32, Tryz.ntmps32
      go_wp2_with fail
      refine (unhide CA _ (Bx.start w p q _ _).below).mono ?_
      rintro e w1 ⟨rfl, b1⟩
      have K1 := (Bx.start w p q (.slice ao l.length cap) (.slice ao' m.length cap')).later b1
      obtain ⟨kb1, ka01, ka11, kc01, kc11, kr01, kr11, kf01, kf11, kl1⟩ := id K1
      clear b1
      go_wp2_with fail
      refine (unhide CB w1 kb1).mono ?_
      rintro e w2 ⟨rfl, b2⟩
      have K2 := K1.later b2
      obtain ⟨kb2, ka02, ka12, kc02, kc12, kr02, kr12, kf02, kf12, kl2⟩ := id K2
      clear b2 ka01 ka11 kc01 kc11 kr01 kr11 kf01 kf11
      go_wp2
      refine bodyPost_ret (v := .tuple #[.agg #[.bool false, .slice none 0 0], .bool false]) (by simp [results, Tryz.results32, go_sem, kr02, kr12]) rfl ?_
      rw [unhide Hfin]
      exact ⟨none, 0, rfl, Own.nil _ _, (kb2.setCell (by simp; omega) _).setCell (by simp; omega) _⟩
  · have ha' : okB p l = false := by simpa using ha
    rw [ha'] at CA
    have hfin : outR (okB p l && okB q m) = outR false := by rw [ha']; rfl
    have Hfin := hide (by rw [hfin]; rfl : outR (okB p l && okB q m) (zv p l * zv q m) = (false, [], false))
    clear hfin ha ha' hu hv CB
    go_enter Tryz.func32, Tryz.ntmps32
    go_wp2_with fail
    refine (unhide CA _ (Bx.start w p q _ _).below).mono ?_
    rintro e w1 ⟨rfl, b1⟩
    have K1 := (Bx.start w p q (.slice ao l.length cap) (.slice ao' m.length cap')).later b1
    obtain ⟨kb1, ka01, ka11, kc01, kc11, kr01, kr11, kf01, kf11, kl1⟩ := id K1
    clear b1
    go_wp2
    refine bodyPost_ret (v := .tuple #[.agg #[.bool false, .slice none 0 0], .bool false]) (by simp [results, Tryz.results32, go_sem, kr01, kr11]) rfl ?_
    rw [unhide Hfin]
    exact ⟨none, 0, rfl, Own.nil _ _, (kb1.setCell (by simp; omega) _).setCell (by simp; omega) _⟩

end Go.Proofs.YthnkmjkgcnhlfaaGreatDoor

namespace Go.Proofs.YthnkmjkgcnhlfaaGreatDoor
open Go.RowKit
set_option maxRecDepth 100000

end Go.Proofs.YthnkmjkgcnhlfaaGreatDoor

namespace Go.Proofs.YthnkmjkgcnhlfaaGreatDoor
open Go.RowKit
set_option maxRecDepth 100000


set_option maxHeartbeats 2000000 in
theorem implBigAdd_any (w : World) (p q : Bool) (u v : Value) (l m : List Int) (hu : Reads w u l) (hv : Reads w v m) :
    Calls Tryz.prog 34 #[.agg #[.bool p, u], .agg #[.bool q, v]] w (GivesBig2 w (outR (okB p l && okB q m) (zv p l + zv q m))) := by
  have CA := hide (fun W (h : Below w.heap.size w W) => implBigOk_any W p u l (hu.later h))
  have CB := hide (fun W (h : Below w.heap.size w W) => implBigOk_any W q v m (hv.later h))
  obtain ⟨ao, b1, off, cap, rfl, hu0⟩ := id hu
  obtain ⟨ao', b2, off', cap', rfl, hv0⟩ := id hv
  clear hu0 hv0
  by_cases ha : okB p l = true
  · rw [ha] at CA
    by_cases hb : okB q m = true
    · rw [hb] at CB
      obtain ⟨ea, la⟩ := ok_limbs ha
      obtain ⟨eb, lb⟩ := ok_limbs hb
      have hfin : outR (okB p l && okB q m) (zv p l + zv q m) = outR true (zv p l + zv q m) := by rw [ha, hb]; rfl
      rw [hfin]
      have hz : zv p l + zv q m = zof p (val l).toNat + zof q (val m).toNat := rfl
      rw [ea] at hu
      rw [eb] at hv
      rw [← ea] at hu
      rw [← eb] at hv
      have hua : Reads w (.slice ao l.length cap) (L (val l).toNat) := by rw [← ea]; exact hu
      have hva : Reads w (.slice ao' m.length cap') (L (val m).toNat) := by rw [← eb]; exact hv
      generalize (val l).toNat = a at *
      generalize (val m).toNat = b at *
      generalize zv p l + zv q m = z at *
      have C := hide (fun W (h : Below w.heap.size w W) => sumOf_any W p q _ _ a b (hua.later h) (hva.later h) (pow16 la (by decide)) (pow16 lb (by decide)) z hz)
      clear hfin ha hb hu hv ea eb la lb hua hva hz
      go_enter Tryz.func34, Tryz.ntmps34
      go_wp2_with fail
      refine (unhide CA _ (Bx.start w p q _ _).below).mono ?_
      rintro e w1 ⟨rfl, b1⟩
      have K1 := (Bx.start w p q (.slice ao l.length cap) (.slice ao' m.length cap')).later b1
      obtain ⟨kb1, ka01, ka11, kc01, kc11, kr01, kr11, kf01, kf11, kl1⟩ := id K1
      clear b1
      go_wp2_with fail
      refine (unhide CB w1 kb1).mono ?_
      rintro e w2 ⟨rfl, b2⟩
      have K2 := K1.later b2
      obtain ⟨kb2, ka02, ka12, kc02, kc12, kr02, kr12, kf02, kf12, kl2⟩ := id K2
      clear b2 ka01 ka11 kc01 kc11 kr01 kr11 kf01 kf11
      go_wp2_with fail
      refine (unhide C w2 kb2).mono ?_
      rintro e w3 ⟨ao3, cap3, rfl, o3, b3⟩
      have K3 := K2.later b3
      obtain ⟨kb3, ka03, ka13, kc03, kc13, kr03, kr13, kf03, kf13, kl3⟩ := id K3
      clear b3 ka02 ka12 kc02 kc12 kr02 kr12 kf02 kf12
      go_wp2_with fail
      refine (bounded_any w3 (sg z) ao3 _ cap3).mono ?_
      rintro e w4 ⟨rfl, b4⟩
      have K4 := K3.later b4
      obtain ⟨kb4, ka04, ka14, kc04, kc14, kr04, kr14, kf04, kf14, kl4⟩ := id K4
      have o4 := o3.later b4
      clear b4 o3 ka04 ka14 kc04 kc14
      by_cases h16 : 16 < (L z.natAbs).length
      · rw [if_pos h16]
        have Hfin := hide (by unfold outR; rw [if_neg (by omega)] : outR true z = (false, [], false))
        clear o4 h16
        go_wp2
        refine bodyPost_ret (v := .tuple #[.agg #[.bool false, .slice none 0 0], .bool false]) (by simp [results, Tryz.results34, go_sem, kr04, kr14]) rfl ?_
        rw [unhide Hfin]
        exact ⟨none, 0, rfl, Own.nil _ _, (kb4.setCell (by simp; omega) _).setCell (by simp; omega) _⟩
      · rw [if_neg h16]
        have Hfin := hide (by unfold outR; rw [if_pos ⟨rfl, by omega⟩] : outR true z = (sg z, L z.natAbs, true))
        clear h16
        go_wp2
        refine bodyPost_ret (v := .tuple #[.agg #[.bool (sg z), .slice ao3 (L z.natAbs).length cap3], .bool true]) (by simp [results, Tryz.results34, go_sem, kr04, kr14]) rfl ?_
        rw [unhide Hfin]
        exact ⟨ao3, cap3, rfl, ((o4.setBelow (by exact kl2) _).setBelow (by exact kl2) _).mono kb2.size, (kb4.setCell (by simp; omega) _).setCell (by simp; omega) _⟩
    · have hb' : okB q m = false := by simpa using hb
      rw [hb'] at CB
      have hfin : outR (okB p l && okB q m) = outR false := by rw [ha, hb']; rfl
      have Hfin := hide (by rw [hfin]; rfl : outR (okB p l && okB q m) (zv p l + zv q m) = (false, [], false))
      clear hfin ha hb hb' hu hv
      go_enter Tryz.func34, Tryz.ntmps34
      go_wp2_with fail
      refine (unhide CA _ (Bx.start w p q _ _).below).mono ?_
      rintro e w1 ⟨rfl, b1⟩
      have K1 := (Bx.start w p q (.slice ao l.length cap) (.slice ao' m.length cap')).later b1
      obtain ⟨kb1, ka01, ka11, kc01, kc11, kr01, kr11, kf01, kf11, kl1⟩ := id K1
      clear b1
      go_wp2_with fail
      refine (unhide CB w1 kb1).mono ?_
      rintro e w2 ⟨rfl, b2⟩
      have K2 := K1.later b2
      obtain ⟨kb2, ka02, ka12, kc02, kc12, kr02, kr12, kf02, kf12, kl2⟩ := id K2
      clear b2 ka01 ka11 kc01 kc11 kr01 kr11 kf01 kf11
      go_wp2
      refine bodyPost_ret (v := .tuple #[.agg #[.bool false, .slice none 0 0], .bool false]) (by simp [results, Tryz.results34, go_sem, kr02, kr12]) rfl ?_
      rw [unhide Hfin]
      exact ⟨none, 0, rfl, Own.nil _ _, (kb2.setCell (by simp; omega) _).setCell (by simp; omega) _⟩
  · have ha' : okB p l = false := by simpa using ha
    rw [ha'] at CA
    have hfin : outR (okB p l && okB q m) = outR false := by rw [ha']; rfl
    have Hfin := hide (by rw [hfin]; rfl : outR (okB p l && okB q m) (zv p l + zv q m) = (false, [], false))
    clear hfin ha ha' hu hv CB
    go_enter Tryz.func34, Tryz.ntmps34
    go_wp2_with fail
    refine (unhide CA _ (Bx.start w p q _ _).below).mono ?_
    rintro e w1 ⟨rfl, b1⟩
    have K1 := (Bx.start w p q (.slice ao l.length cap) (.slice ao' m.length cap')).later b1
    obtain ⟨kb1, ka01, ka11, kc01, kc11, kr01, kr11, kf01, kf11, kl1⟩ := id K1
    clear b1
    go_wp2
    refine bodyPost_ret (v := .tuple #[.agg #[.bool false, .slice none 0 0], .bool false]) (by simp [results, Tryz.results34, go_sem, kr01, kr11]) rfl ?_
    rw [unhide Hfin]
    exact ⟨none, 0, rfl, Own.nil _ _, (kb1.setCell (by simp; omega) _).setCell (by simp; omega) _⟩

end Go.Proofs.YthnkmjkgcnhlfaaGreatDoor

namespace Go.Proofs.YthnkmjkgcnhlfaaGreatDoor
open Go.RowKit
set_option maxRecDepth 100000

set_option maxHeartbeats 2000000 in
theorem implBigSub_any (w : World) (p q : Bool) (u v : Value) (l m : List Int) (hu : Reads w u l) (hv : Reads w v m) :
    Calls Tryz.prog 33 #[.agg #[.bool p, u], .agg #[.bool q, v]] w (GivesBig2 w (outR (okB p l && okB q m) (zv p l - zv q m))) := by
  have CA := hide (fun W (h : Below w.heap.size w W) => implBigOk_any W p u l (hu.later h))
  have CB := hide (fun W (h : Below w.heap.size w W) => implBigOk_any W q v m (hv.later h))
  obtain ⟨ao, b1, off, cap, rfl, hu0⟩ := id hu
  obtain ⟨ao', b2, off', cap', rfl, hv0⟩ := id hv
  clear hu0 hv0
  by_cases ha : okB p l = true
  · rw [ha] at CA
    by_cases hb : okB q m = true
    · rw [hb] at CB
      obtain ⟨ea, la⟩ := ok_limbs ha
      obtain ⟨eb, lb⟩ := ok_limbs hb
      have hfin : outR (okB p l && okB q m) (zv p l - zv q m) = outR true (zv p l - zv q m) := by rw [ha, hb]; rfl
      rw [hfin]
      have hz : zv p l - zv q m = zof p (val l).toNat - zof q (val m).toNat := rfl
      rw [ea] at hu
      rw [eb] at hv
      rw [← ea] at hu
      rw [← eb] at hv
      have hua : Reads w (.slice ao l.length cap) (L (val l).toNat) := by rw [← ea]; exact hu
      have hva : Reads w (.slice ao' m.length cap') (L (val m).toNat) := by rw [← eb]; exact hv
      generalize (val l).toNat = a at *
      generalize (val m).toNat = b at *
      generalize zv p l - zv q m = z at *
      have hz' : z = zof p a + zof (!q && decide (b ≠ 0)) b := by rw [hz]; unfold zof; cases p <;> cases q <;> simp <;> split <;> omega
      have C0 := hide (fun W (h : Below w.heap.size w W) => turned_any W q _ b (hva.later h))
      have C := hide (fun W s (h : Below w.heap.size w W) (hs : Reads W s (L b)) => sumOf_any W p (!q && decide (b ≠ 0)) _ s a b (hua.later h) hs (pow16 la (by decide)) (pow16 lb (by decide)) z hz')
      clear hfin ha hb hu hv ea eb la lb hua hva hz hz'
      go_enter Tryz.func33, Tryz.ntmps33
      go_wp2_with fail
      refine (unhide CA _ (Bx.start w p q _ _).below).mono ?_
      rintro e w1 ⟨rfl, b1⟩
      have K1 := (Bx.start w p q (.slice ao l.length cap) (.slice ao' m.length cap')).later b1
      obtain ⟨kb1, ka01, ka11, kc01, kc11, kr01, kr11, kf01, kf11, kl1⟩ := id K1
      clear b1
      go_wp2_with fail
      refine (unhide CB w1 kb1).mono ?_
      rintro e w2 ⟨rfl, b2⟩
      have K2 := K1.later b2
      obtain ⟨kb2, ka02, ka12, kc02, kc12, kr02, kr12, kf02, kf12, kl2⟩ := id K2
      clear b2 ka01 ka11 kc01 kc11 kr01 kr11 kf01 kf11
      have stab : ∀ w' : World, Below w2.heap.size w2 w' → (w'.cell? ⟨w.heap.size, 0, none⟩ = some (.bool p) ∧ w'.cell? ⟨w.heap.size, 1, none⟩ = some (.slice ao l.length cap) ∧ w'.cell? ⟨w.heap.size + 1, 0, none⟩ = some (.bool q) ∧ w'.cell? ⟨w.heap.size + 1, 1, none⟩ = some (.slice ao' m.length cap')) :=
        fun w' h => ⟨cell_later h ka02, cell_later h ka12, cell_later h kc02, cell_later h kc12⟩
      have Stab := hide stab
      clear stab
      have BD := kb2.drew
      go_wp2
      generalize hqq : (!q && decide (b ≠ 0)) = qq at *
      clear hqq
      by_cases h16 : 16 < (L z.natAbs).length
      · have Hfin := hide (by unfold outR; rw [if_neg (by omega)] : outR true z = (false, [], false))
        go_region_held (fun w' => w'.cell? ⟨w.heap.size, 0, none⟩ = some (.bool p) ∧ w'.cell? ⟨w.heap.size, 1, none⟩ = some (.slice ao l.length cap) ∧ w'.cell? ⟨w.heap.size + 1, 0, none⟩ = some (.bool q) ∧ w'.cell? ⟨w.heap.size + 1, 1, none⟩ = some (.slice ao' m.length cap'))
          (first | exact unhide Stab _ (Below.refl _ _).drew | exact unhide Stab _ (by assumption) | (obtain ⟨s1, s2, s3, s4⟩ := unhide Stab _ BWZ; exact ⟨cell_set2 s1 (by omega) _ _, cell_set2 s2 (by omega) _ _, cell_set2 s3 (by omega) _ _, cell_set2 s4 (by omega) _ _⟩))
          (first
            | (go_at_call 53; refine (unhide C0 _ ?_).mono ?_; exact kb2.drew; rintro e w3 ⟨v3, rfl, r3, b3⟩; have K3 := K2.later ((Below.refl _ _).drew.trans b3); have BW3 : Below w2.heap.size w2 w3 := (Below.refl _ _).drew.trans b3)
            | (go_at_call 46; refine (unhide C _ _ ?_ ?_).mono ?_; exact K3.below; exact r3; rintro e w4 ⟨ao4, cap4, rfl, o4, b4⟩; have K4 := K3.later b4; have BW4 : Below w2.heap.size w2 w4 := BW3.trans (b4.mono BW3.size))
            | (go_at_call 75; refine (bounded_any _ (sg z) ao4 _ cap4).mono ?_; rw [if_pos h16]; rintro e w5 ⟨rfl, b5⟩; have K5 := K4.later b5; have BWZ : Below w2.heap.size w2 w5 := BW4.trans (b5.mono BW4.size); obtain ⟨kb5, ka05, ka15, kc05, kc15, kr05, kr15, kf05, kf15, kl5⟩ := id K5))
        all_goals
          go_wp2
          refine bodyPost_ret (v := .tuple #[.agg #[.bool false, .slice none 0 0], .bool false]) (by simp [results, Tryz.results33, go_sem, kr05, kr15]) rfl ?_
          rw [unhide Hfin]
          exact ⟨none, 0, rfl, Own.nil _ _, (kb5.setCell (by simp; omega) _).setCell (by simp; omega) _⟩
      · have Hfin := hide (by unfold outR; rw [if_pos ⟨rfl, by omega⟩] : outR true z = (sg z, L z.natAbs, true))
        go_region_held (fun w' => w'.cell? ⟨w.heap.size, 0, none⟩ = some (.bool p) ∧ w'.cell? ⟨w.heap.size, 1, none⟩ = some (.slice ao l.length cap) ∧ w'.cell? ⟨w.heap.size + 1, 0, none⟩ = some (.bool q) ∧ w'.cell? ⟨w.heap.size + 1, 1, none⟩ = some (.slice ao' m.length cap'))
          (first | exact unhide Stab _ (Below.refl _ _).drew | exact unhide Stab _ (by assumption) | (obtain ⟨s1, s2, s3, s4⟩ := unhide Stab _ BWZ; exact ⟨cell_set2 s1 (by omega) _ _, cell_set2 s2 (by omega) _ _, cell_set2 s3 (by omega) _ _, cell_set2 s4 (by omega) _ _⟩))
          (first
            | (go_at_call 53; refine (unhide C0 _ ?_).mono ?_; exact kb2.drew; rintro e w3 ⟨v3, rfl, r3, b3⟩; have K3 := K2.later ((Below.refl _ _).drew.trans b3); have BW3 : Below w2.heap.size w2 w3 := (Below.refl _ _).drew.trans b3)
            | (go_at_call 46; refine (unhide C _ _ ?_ ?_).mono ?_; exact K3.below; exact r3; rintro e w4 ⟨ao4, cap4, rfl, o4, b4⟩; have K4 := K3.later b4; have BW4 : Below w2.heap.size w2 w4 := BW3.trans (b4.mono BW3.size))
            | (go_at_call 75; refine (bounded_any _ (sg z) ao4 _ cap4).mono ?_; rw [if_neg h16]; rintro e w5 ⟨rfl, b5⟩; have K5 := K4.later b5; have BWZ : Below w2.heap.size w2 w5 := BW4.trans (b5.mono BW4.size); have o5 := o4.later b5; obtain ⟨kb5, ka05, ka15, kc05, kc15, kr05, kr15, kf05, kf15, kl5⟩ := id K5))
        all_goals
          go_wp2
          refine bodyPost_ret (v := .tuple #[.agg #[.bool (sg z), .slice ao4 (L z.natAbs).length cap4], .bool true]) (by simp [results, Tryz.results33, go_sem, kr05, kr15]) rfl ?_
          rw [unhide Hfin]
          exact ⟨ao4, cap4, rfl, ((o5.setBelow (by exact K3.lt) _).setBelow (by exact K3.lt) _).mono K3.below.size, (kb5.setCell (by simp; omega) _).setCell (by simp; omega) _⟩
    · have hb' : okB q m = false := by simpa using hb
      rw [hb'] at CB
      have hfin : outR (okB p l && okB q m) = outR false := by rw [ha, hb']; rfl
      have Hfin := hide (by rw [hfin]; rfl : outR (okB p l && okB q m) (zv p l - zv q m) = (false, [], false))
      clear hfin ha hb hb' hu hv
      go_enter Tryz.func33, Tryz.ntmps33
      go_wp2_with fail
      refine (unhide CA _ (Bx.start w p q _ _).below).mono ?_
      rintro e w1 ⟨rfl, b1⟩
      have K1 := (Bx.start w p q (.slice ao l.length cap) (.slice ao' m.length cap')).later b1
      obtain ⟨kb1, ka01, ka11, kc01, kc11, kr01, kr11, kf01, kf11, kl1⟩ := id K1
      clear b1
      go_wp2_with fail
      refine (unhide CB w1 kb1).mono ?_
      rintro e w2 ⟨rfl, b2⟩
      have K2 := K1.later b2
      obtain ⟨kb2, ka02, ka12, kc02, kc12, kr02, kr12, kf02, kf12, kl2⟩ := id K2
      clear b2 ka01 ka11 kc01 kc11 kr01 kr11 kf01 kf11
      go_wp2
      refine bodyPost_ret (v := .tuple #[.agg #[.bool false, .slice none 0 0], .bool false]) (by simp [results, Tryz.results33, go_sem, kr02, kr12]) rfl ?_
      rw [unhide Hfin]
      exact ⟨none, 0, rfl, Own.nil _ _, (kb2.setCell (by simp; omega) _).setCell (by simp; omega) _⟩
  · have ha' : okB p l = false := by simpa using ha
    rw [ha'] at CA
    have hfin : outR (okB p l && okB q m) = outR false := by rw [ha']; rfl
    have Hfin := hide (by rw [hfin]; rfl : outR (okB p l && okB q m) (zv p l - zv q m) = (false, [], false))
    clear hfin ha ha' hu hv CB
    go_enter Tryz.func33, Tryz.ntmps33
    go_wp2_with fail
    refine (unhide CA _ (Bx.start w p q _ _).below).mono ?_
    rintro e w1 ⟨rfl, b1⟩
    have K1 := (Bx.start w p q (.slice ao l.length cap) (.slice ao' m.length cap')).later b1
    obtain ⟨kb1, ka01, ka11, kc01, kc11, kr01, kr11, kf01, kf11, kl1⟩ := id K1
    clear b1
    go_wp2
    refine bodyPost_ret (v := .tuple #[.agg #[.bool false, .slice none 0 0], .bool false]) (by simp [results, Tryz.results33, go_sem, kr01, kr11]) rfl ?_
    rw [unhide Hfin]
    exact ⟨none, 0, rfl, Own.nil _ _, (kb1.setCell (by simp; omega) _).setCell (by simp; omega) _⟩

end Go.Proofs.YthnkmjkgcnhlfaaGreatDoor

namespace Go.Proofs.YthnkmjkgcnhlfaaGreatDoor
open Go.RowKit

theorem implAdd_z {W : World} {a b : Int} (ha : (L a.natAbs).length ≤ 16) (hb : (L b.natAbs).length ≤ 16) {u v : Value} (hu : Reads W u (L a.natAbs)) (hv : Reads W v (L b.natAbs)) :
    Calls Tryz.prog 34 #[.agg #[.bool (sg a), u], .agg #[.bool (sg b), v]] W (GivesBig2 W (outR true (a + b))) := by
  have := implBigAdd_any W (sg a) (sg b) u v _ _ hu hv
  rwa [okB_z ha, okB_z hb, zv_z, zv_z] at this

theorem implSub_z {W : World} {a b : Int} (ha : (L a.natAbs).length ≤ 16) (hb : (L b.natAbs).length ≤ 16) {u v : Value} (hu : Reads W u (L a.natAbs)) (hv : Reads W v (L b.natAbs)) :
    Calls Tryz.prog 33 #[.agg #[.bool (sg a), u], .agg #[.bool (sg b), v]] W (GivesBig2 W (outR true (a - b))) := by
  have := implBigSub_any W (sg a) (sg b) u v _ _ hu hv
  rwa [okB_z ha, okB_z hb, zv_z, zv_z] at this

theorem implMul_z {W : World} {a b : Int} (ha : (L a.natAbs).length ≤ 16) (hb : (L b.natAbs).length ≤ 16) {u v : Value} (hu : Reads W u (L a.natAbs)) (hv : Reads W v (L b.natAbs)) :
    Calls Tryz.prog 32 #[.agg #[.bool (sg a), u], .agg #[.bool (sg b), v]] W (GivesBig2 W (outR true (a * b))) := by
  have := implBigMul_any W (sg a) (sg b) u v _ _ hu hv
  rwa [okB_z ha, okB_z hb, zv_z, zv_z] at this

theorem out_cases (z : Int) : (outR true z = (sg z, L z.natAbs, true) ∧ (L z.natAbs).length ≤ 16) ∨ outR true z = (false, [], false) := by
  unfold outR
  by_cases h : (L z.natAbs).length ≤ 16
  · exact .inl ⟨by simp [h], h⟩
  · exact .inr (by simp [h])

end Go.Proofs.YthnkmjkgcnhlfaaGreatDoor

namespace Go.Proofs.YthnkmjkgcnhlfaaGreatDoor
open Go.RowKit
set_option maxRecDepth 100000

theorem sg_nat10 (n : Nat) : sg (n : Int) = false := by
  unfold sg
  rw [decide_eq_false_iff_not]
  omega

/-- What BigTen answers. -/
def tenR (n : Int) : Bool × List Int × Bool := if 0 ≤ n ∧ n ≤ 63 then (false, L (10 ^ n.toNat), true) else (false, [], false)

theorem ten_outR {n : Nat} (h : n ≤ 63) : outR true ((10 ^ n : Nat) : Int) = (false, L (10 ^ n), true) := by
  unfold outR
  have hlt : 10 ^ n < 10000 ^ 16 := by
    have e : (10000 : Nat) ^ 16 = 10 ^ 64 := by decide
    rw [e]
    exact Nat.pow_lt_pow_right (by decide) (by omega)
  rw [if_pos ⟨rfl, by rw [Int.natAbs_natCast]; exact L_len_le hlt⟩, Int.natAbs_natCast]
  rw [sg_nat10]

theorem pow64 {n : Nat} (h : n ≤ 63) : 10 ^ n < 10000 ^ 200 := by
  have e : (10000 : Nat) ^ 16 = 10 ^ 64 := by decide
  refine pow16 ?_ (by decide)
  rw [e]
  exact Nat.pow_lt_pow_right (by decide) (by omega)

theorem implBigTen_any (w : World) (n : Int) :
    Calls Tryz.prog 31 #[.int .i64 n] w (GivesBig2 w (tenR n)) := by
  have K0 : EBox' w (w.alloc (.cells #[.bool false, .slice none 0 0] 25)) := EBox'.start w
  by_cases h : 0 ≤ n ∧ n ≤ 63
  · obtain ⟨k, rfl⟩ := Int.eq_ofNat_of_zero_le h.1
    have hk : k ≤ 63 := by omega
    have hk0 : decide ((k : Int) < 0) = false := by rw [decide_eq_false_iff_not]; omega
    have et : tenR (k : Int) = (false, L (10 ^ k), true) := by unfold tenR; rw [if_pos h]; simp
    rw [et]
    have C1 := hide (fun W => tenLimbs_any W k (by omega))
    have hl : (L (10 ^ k)).length ≠ 0 := fun e => by have := L_len_zero.1 e; have h1 := Nat.pow_pos (n := k) (show 0 < 10 by decide); omega
    have c2 := fun W ao cap => signed_any W false ao (L (10 ^ k)).length cap
    simp only [if_neg hl] at c2
    have C2 := hide c2
    clear c2
    clear h et hl
    generalize L (10 ^ k) = ll at *
    go_enter Tryz.func31, Tryz.ntmps31
    go_wp2_with fail
    refine (unhide C1 _).mono ?_
    rintro e w2 ⟨ao2, cap2, rfl, o2, b2⟩
    have K2 := K0.later b2
    clear b2 K0
    go_wp2_with fail
    refine (unhide C2 _ ao2 cap2).mono ?_
    rintro e w3 ⟨rfl, b3⟩
    have K3 := K2.later b3
    have o3 := o2.later b3
    obtain ⟨kb, kr0, kr1, kf0, kf1, kl⟩ := id K3
    clear b3 o2
    go_wp2
    refine bodyPost_ret (v := .tuple #[.agg #[.bool false, .slice ao2 ll.length cap2], .bool true]) (by simp [results, Tryz.results31, go_sem, kr0, kr1]) rfl ?_
    exact ⟨ao2, cap2, rfl, ((o3.setBelow (by simp) _).setBelow (by simp) _).mono (by simp), (kb.setCell (by simp) _).setCell (by simp) _⟩
  · have et := hide (by unfold tenR; rw [if_neg h] : tenR n = (false, [], false))
    by_cases hneg : n < 0
    · have hd : decide (n < 0) = true := by simpa using hneg
      clear h
      go_enter Tryz.func31, Tryz.ntmps31
      go_wp2
      refine bodyPost_ret (v := .tuple #[.agg #[.bool false, .slice none 0 0], .bool false]) (by simp [results, Tryz.results31, go_sem]) rfl ?_
      rw [unhide et]
      exact ⟨none, 0, rfl, Own.nil _ _, K0.below⟩
    · have hd : decide (n < 0) = false := by simpa using hneg
      have hb : 64 ≤ n := by omega
      clear h
      go_enter Tryz.func31, Tryz.ntmps31
      go_wp2
      refine bodyPost_ret (v := .tuple #[.agg #[.bool false, .slice none 0 0], .bool false]) (by simp [results, Tryz.results31, go_sem]) rfl ?_
      rw [unhide et]
      exact ⟨none, 0, rfl, Own.nil _ _, K0.below⟩

end Go.Proofs.YthnkmjkgcnhlfaaGreatDoor
