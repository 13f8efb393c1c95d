/- The program's BigSub, by a contract. -/
import Derived.Test.YthnkmjkgcnhlfaaGreatDoorBigA0
import Derived.Test.YthnkmjkgcnhlfaaGreatDoorBigD
import Derived.Deep.RegionHeld
namespace Go.Proofs.YthnkmjkgcnhlfaaGreatDoor
open Go.RowKit
set_option maxRecDepth 100000

set_option maxHeartbeats 2000000 in
theorem implBigSub_any (w : World) (p q : Bool) (u v : Value) (l m : List Int) (hu : Reads w u l) (hv : Reads w v m) :
    Calls Tryz.prog 33 #[.agg #[.bool p, u], .agg #[.bool q, v]] w (GivesBig2 w (outR (okB p l && okB q m) (zv p l - zv q m))) := by
  have CA := hide (fun W (h : Below w.heap.size w W) => implBigOk_any W p u l (hu.later h))
  have CB := hide (fun W (h : Below w.heap.size w W) => implBigOk_any W q v m (hv.later h))
  obtain ⟨ao, b1, off, cap, rfl, hu0⟩ := id hu
  obtain ⟨ao', b2, off', cap', rfl, hv0⟩ := id hv
  clear hu0 hv0
  by_cases ha : okB p l = true
  · rw [ha] at CA
    by_cases hb : okB q m = true
    · rw [hb] at CB
      obtain ⟨ea, la⟩ := ok_limbs ha
      obtain ⟨eb, lb⟩ := ok_limbs hb
      have hfin : outR (okB p l && okB q m) (zv p l - zv q m) = outR true (zv p l - zv q m) := by rw [ha, hb]; rfl
      rw [hfin]
      have hz : zv p l - zv q m = zof p (val l).toNat - zof q (val m).toNat := rfl
      rw [ea] at hu
      rw [eb] at hv
      rw [← ea] at hu
      rw [← eb] at hv
      have hua : Reads w (.slice ao l.length cap) (L (val l).toNat) := by rw [← ea]; exact hu
      have hva : Reads w (.slice ao' m.length cap') (L (val m).toNat) := by rw [← eb]; exact hv
      generalize (val l).toNat = a at *
      generalize (val m).toNat = b at *
      generalize zv p l - zv q m = z at *
      have hz' : z = zof p a + zof (!q && decide (b ≠ 0)) b := by rw [hz]; unfold zof; cases p <;> cases q <;> simp <;> split <;> omega
      have C0 := hide (fun W (h : Below w.heap.size w W) => turned_any W q _ b (hva.later h))
      have C := hide (fun W s (h : Below w.heap.size w W) (hs : Reads W s (L b)) => sumOf_any W p (!q && decide (b ≠ 0)) _ s a b (hua.later h) hs (pow16 la (by decide)) (pow16 lb (by decide)) z hz')
      clear hfin ha hb hu hv ea eb la lb hua hva hz hz'
      go_enter Tryz.func33, Tryz.ntmps33
      go_wp2_with fail
      refine (unhide CA _ (Bx.start w p q _ _).below).mono ?_
      rintro e w1 ⟨rfl, b1⟩
      have K1 := (Bx.start w p q (.slice ao l.length cap) (.slice ao' m.length cap')).later b1
      obtain ⟨kb1, ka01, ka11, kc01, kc11, kr01, kr11, kf01, kf11, kl1⟩ := id K1
      clear b1
      go_wp2_with fail
      refine (unhide CB w1 kb1).mono ?_
      rintro e w2 ⟨rfl, b2⟩
      have K2 := K1.later b2
      obtain ⟨kb2, ka02, ka12, kc02, kc12, kr02, kr12, kf02, kf12, kl2⟩ := id K2
      clear b2 ka01 ka11 kc01 kc11 kr01 kr11 kf01 kf11
      have stab : ∀ w' : World, Below w2.heap.size w2 w' → (w'.cell? ⟨w.heap.size, 0, none⟩ = some (.bool p) ∧ w'.cell? ⟨w.heap.size, 1, none⟩ = some (.slice ao l.length cap) ∧ w'.cell? ⟨w.heap.size + 1, 0, none⟩ = some (.bool q) ∧ w'.cell? ⟨w.heap.size + 1, 1, none⟩ = some (.slice ao' m.length cap')) :=
        fun w' h => ⟨cell_later h ka02, cell_later h ka12, cell_later h kc02, cell_later h kc12⟩
      have Stab := hide stab
      clear stab
      have BD := kb2.drew
      go_wp2
      generalize hqq : (!q && decide (b ≠ 0)) = qq at *
      clear hqq
      by_cases h16 : 16 < (L z.natAbs).length
      · have Hfin := hide (by unfold outR; rw [if_neg (by omega)] : outR true z = (false, [], false))
        go_region_held (fun w' => w'.cell? ⟨w.heap.size, 0, none⟩ = some (.bool p) ∧ w'.cell? ⟨w.heap.size, 1, none⟩ = some (.slice ao l.length cap) ∧ w'.cell? ⟨w.heap.size + 1, 0, none⟩ = some (.bool q) ∧ w'.cell? ⟨w.heap.size + 1, 1, none⟩ = some (.slice ao' m.length cap'))
          (first | exact unhide Stab _ (Below.refl _ _).drew | exact unhide Stab _ (by assumption) | (obtain ⟨s1, s2, s3, s4⟩ := unhide Stab _ BWZ; exact ⟨cell_set2 s1 (by omega) _ _, cell_set2 s2 (by omega) _ _, cell_set2 s3 (by omega) _ _, cell_set2 s4 (by omega) _ _⟩))
          (first
            | (go_at_call 53; refine (unhide C0 _ ?_).mono ?_; exact kb2.drew; rintro e w3 ⟨v3, rfl, r3, b3⟩; have K3 := K2.later ((Below.refl _ _).drew.trans b3); have BW3 : Below w2.heap.size w2 w3 := (Below.refl _ _).drew.trans b3)
            | (go_at_call 46; refine (unhide C _ _ ?_ ?_).mono ?_; exact K3.below; exact r3; rintro e w4 ⟨ao4, cap4, rfl, o4, b4⟩; have K4 := K3.later b4; have BW4 : Below w2.heap.size w2 w4 := BW3.trans (b4.mono BW3.size))
            | (go_at_call 75; refine (bounded_any _ (sg z) ao4 _ cap4).mono ?_; rw [if_pos h16]; rintro e w5 ⟨rfl, b5⟩; have K5 := K4.later b5; have BWZ : Below w2.heap.size w2 w5 := BW4.trans (b5.mono BW4.size); obtain ⟨kb5, ka05, ka15, kc05, kc15, kr05, kr15, kf05, kf15, kl5⟩ := id K5))
        all_goals
          go_wp2
          refine bodyPost_ret (v := .tuple #[.agg #[.bool false, .slice none 0 0], .bool false]) (by simp [results, Tryz.results33, go_sem, kr05, kr15]) rfl ?_
          rw [unhide Hfin]
          exact ⟨none, 0, rfl, Own.nil _ _, (kb5.setCell (by simp; omega) _).setCell (by simp; omega) _⟩
      · have Hfin := hide (by unfold outR; rw [if_pos ⟨rfl, by omega⟩] : outR true z = (sg z, L z.natAbs, true))
        go_region_held (fun w' => w'.cell? ⟨w.heap.size, 0, none⟩ = some (.bool p) ∧ w'.cell? ⟨w.heap.size, 1, none⟩ = some (.slice ao l.length cap) ∧ w'.cell? ⟨w.heap.size + 1, 0, none⟩ = some (.bool q) ∧ w'.cell? ⟨w.heap.size + 1, 1, none⟩ = some (.slice ao' m.length cap'))
          (first | exact unhide Stab _ (Below.refl _ _).drew | exact unhide Stab _ (by assumption) | (obtain ⟨s1, s2, s3, s4⟩ := unhide Stab _ BWZ; exact ⟨cell_set2 s1 (by omega) _ _, cell_set2 s2 (by omega) _ _, cell_set2 s3 (by omega) _ _, cell_set2 s4 (by omega) _ _⟩))
          (first
            | (go_at_call 53; refine (unhide C0 _ ?_).mono ?_; exact kb2.drew; rintro e w3 ⟨v3, rfl, r3, b3⟩; have K3 := K2.later ((Below.refl _ _).drew.trans b3); have BW3 : Below w2.heap.size w2 w3 := (Below.refl _ _).drew.trans b3)
            | (go_at_call 46; refine (unhide C _ _ ?_ ?_).mono ?_; exact K3.below; exact r3; rintro e w4 ⟨ao4, cap4, rfl, o4, b4⟩; have K4 := K3.later b4; have BW4 : Below w2.heap.size w2 w4 := BW3.trans (b4.mono BW3.size))
            | (go_at_call 75; refine (bounded_any _ (sg z) ao4 _ cap4).mono ?_; rw [if_neg h16]; rintro e w5 ⟨rfl, b5⟩; have K5 := K4.later b5; have BWZ : Below w2.heap.size w2 w5 := BW4.trans (b5.mono BW4.size); have o5 := o4.later b5; obtain ⟨kb5, ka05, ka15, kc05, kc15, kr05, kr15, kf05, kf15, kl5⟩ := id K5))
        all_goals
          go_wp2
          refine bodyPost_ret (v := .tuple #[.agg #[.bool (sg z), .slice ao4 (L z.natAbs).length cap4], .bool true]) (by simp [results, Tryz.results33, go_sem, kr05, kr15]) rfl ?_
          rw [unhide Hfin]
          exact ⟨ao4, cap4, rfl, ((o5.setBelow (by exact K3.lt) _).setBelow (by exact K3.lt) _).mono K3.below.size, (kb5.setCell (by simp; omega) _).setCell (by simp; omega) _⟩
    · have hb' : okB q m = false := by simpa using hb
      rw [hb'] at CB
      have hfin : outR (okB p l && okB q m) = outR false := by rw [ha, hb']; rfl
      have Hfin := hide (by rw [hfin]; rfl : outR (okB p l && okB q m) (zv p l - zv q m) = (false, [], false))
      clear hfin ha hb hb' hu hv
      go_enter Tryz.func33, Tryz.ntmps33
      go_wp2_with fail
      refine (unhide CA _ (Bx.start w p q _ _).below).mono ?_
      rintro e w1 ⟨rfl, b1⟩
      have K1 := (Bx.start w p q (.slice ao l.length cap) (.slice ao' m.length cap')).later b1
      obtain ⟨kb1, ka01, ka11, kc01, kc11, kr01, kr11, kf01, kf11, kl1⟩ := id K1
      clear b1
      go_wp2_with fail
      refine (unhide CB w1 kb1).mono ?_
      rintro e w2 ⟨rfl, b2⟩
      have K2 := K1.later b2
      obtain ⟨kb2, ka02, ka12, kc02, kc12, kr02, kr12, kf02, kf12, kl2⟩ := id K2
      clear b2 ka01 ka11 kc01 kc11 kr01 kr11 kf01 kf11
      go_wp2
      refine bodyPost_ret (v := .tuple #[.agg #[.bool false, .slice none 0 0], .bool false]) (by simp [results, Tryz.results33, go_sem, kr02, kr12]) rfl ?_
      rw [unhide Hfin]
      exact ⟨none, 0, rfl, Own.nil _ _, (kb2.setCell (by simp; omega) _).setCell (by simp; omega) _⟩
  · have ha' : okB p l = false := by simpa using ha
    rw [ha'] at CA
    have hfin : outR (okB p l && okB q m) = outR false := by rw [ha']; rfl
    have Hfin := hide (by rw [hfin]; rfl : outR (okB p l && okB q m) (zv p l - zv q m) = (false, [], false))
    clear hfin ha ha' hu hv CB
    go_enter Tryz.func33, Tryz.ntmps33
    go_wp2_with fail
    refine (unhide CA _ (Bx.start w p q _ _).below).mono ?_
    rintro e w1 ⟨rfl, b1⟩
    have K1 := (Bx.start w p q (.slice ao l.length cap) (.slice ao' m.length cap')).later b1
    obtain ⟨kb1, ka01, ka11, kc01, kc11, kr01, kr11, kf01, kf11, kl1⟩ := id K1
    clear b1
    go_wp2
    refine bodyPost_ret (v := .tuple #[.agg #[.bool false, .slice none 0 0], .bool false]) (by simp [results, Tryz.results33, go_sem, kr01, kr11]) rfl ?_
    rw [unhide Hfin]
    exact ⟨none, 0, rfl, Own.nil _ _, (kb1.setCell (by simp; omega) _).setCell (by simp; omega) _⟩

end Go.Proofs.YthnkmjkgcnhlfaaGreatDoor
