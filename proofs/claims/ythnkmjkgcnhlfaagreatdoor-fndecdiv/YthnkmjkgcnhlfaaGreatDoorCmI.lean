/- BigCmp of the program, by a contract. -/
import Derived.Test.YthnkmjkgcnhlfaaGreatDoorH16
import Derived.Test.YthnkmjkgcnhlfaaGreatDoorH15
import Derived.Test.YthnkmjkgcnhlfaaGreatDoorH03
import Derived.Test.YthnkmjkgcnhlfaaGreatDoorOkA
import Derived.Deep.RegionHeld
namespace Go.Proofs.YthnkmjkgcnhlfaaGreatDoor
open Go.RowKit
set_option maxRecDepth 100000


/-- What BigCmp answers. -/
def cmpR (p : Bool) (l : List Int) (q : Bool) (m : List Int) : Int := if okB p l = true ∧ okB q m = true then cmpZ (zv p l) (zv q m) else 2

set_option maxHeartbeats 2000000 in
theorem implBigCmp_any (w : World) (p q : Bool) (u v : Value) (l m : List Int) (hu : Reads w u l) (hv : Reads w v m) :
    Calls Tryz.prog 35 #[.agg #[.bool p, u], .agg #[.bool q, v]] w fun e w' => e = .returned (.int .i64 (cmpR p l q m)) ∧ Below w.heap.size w w' := by
  have CA := hide (fun W (h : Below w.heap.size w W) => implBigOk_any W p u l (hu.later h))
  have CB := hide (fun W (h : Below w.heap.size w W) => implBigOk_any W q v m (hv.later h))
  obtain ⟨ao, b1, off, cap, rfl, hu0⟩ := id hu
  obtain ⟨ao', b2, off', cap', rfl, hv0⟩ := id hv
  clear hu0 hv0
  by_cases ha : okB p l = true
  · rw [ha] at CA
    by_cases hb : okB q m = true
    · rw [hb] at CB
      obtain ⟨ea, la⟩ := ok_limbs ha
      obtain ⟨eb, lb⟩ := ok_limbs hb
      have hsp := ok_sign ha
      have hsq := ok_sign hb
      have Hfin := hide (by unfold cmpR; rw [if_pos ⟨ha, hb⟩] : cmpR p l q m = cmpZ (zv p l) (zv q m))
      have hua : Reads w (.slice ao l.length cap) (L (val l).toNat) := by rw [← ea]; exact hu
      have hva : Reads w (.slice ao' m.length cap') (L (val m).toNat) := by rw [← eb]; exact hv
      unfold zv at hsp hsq Hfin
      generalize (val l).toNat = a at *
      generalize (val m).toNat = b at *
      obtain ⟨z, hz⟩ : ∃ z, z = zof p a - zof q b := ⟨_, rfl⟩
      have hz' : z = zof p a + zof (!q && decide (b ≠ 0)) b := by rw [hz]; unfold zof; cases p <;> cases q <;> simp <;> split <;> omega
      have hc : cmpZ (zof p a) (zof q b) = if z < 0 then -1 else if 0 < z then 1 else 0 := by
        unfold cmpZ
        (repeat' split) <;> omega
      have C5 := hide (fun W s (h : Reads W s (L z.natAbs)) => signOf_any W s z h)
      generalize (if z < 0 then (-1 : Int) else if 0 < z then 1 else 0) = R at *
      have Hc := hide hc
      have C0 := hide (fun W (h : Below w.heap.size w W) => turned_any W q _ b (hva.later h))
      have C := hide (fun W s (h : Below w.heap.size w W) (hs : Reads W s (L b)) => sumOf_any W p (!q && decide (b ≠ 0)) _ s a b (hua.later h) hs (pow16 la (by decide)) (pow16 lb (by decide)) z hz')
      clear ha hb hu hv ea eb la lb hua hva hz hz' hsp hsq hc
      go_enter Tryz.func35, Tryz.ntmps35
      go_wp2_with fail
      refine (unhide CA _ (Bx2.start w p q _ _).below).mono ?_
      rintro e w1 ⟨rfl, b1⟩
      have K1 := (Bx2.start w p q (.slice ao l.length cap) (.slice ao' m.length cap')).later b1
      obtain ⟨kb1, ka01, ka11, kc01, kc11⟩ := id K1
      clear b1
      go_wp2_with fail
      refine (unhide CB w1 kb1).mono ?_
      rintro e w2 ⟨rfl, b2⟩
      have K2 := K1.later b2
      obtain ⟨kb2, ka02, ka12, kc02, kc12⟩ := id K2
      clear b2 ka01 ka11 kc01 kc11
      have stab : ∀ w' : World, Below w2.heap.size w2 w' → (w'.cell? ⟨w.heap.size, 0, none⟩ = some (.bool p) ∧ w'.cell? ⟨w.heap.size, 1, none⟩ = some (.slice ao l.length cap) ∧ w'.cell? ⟨w.heap.size + 1, 0, none⟩ = some (.bool q) ∧ w'.cell? ⟨w.heap.size + 1, 1, none⟩ = some (.slice ao' m.length cap')) :=
        fun w' h => ⟨cell_later h ka02, cell_later h ka12, cell_later h kc02, cell_later h kc12⟩
      have Stab := hide stab
      clear stab
      go_wp2
      generalize hqq : (!q && decide (b ≠ 0)) = qq at *
      clear hqq
      go_region_held (fun w' => w'.cell? ⟨w.heap.size, 0, none⟩ = some (.bool p) ∧ w'.cell? ⟨w.heap.size, 1, none⟩ = some (.slice ao l.length cap) ∧ w'.cell? ⟨w.heap.size + 1, 0, none⟩ = some (.bool q) ∧ w'.cell? ⟨w.heap.size + 1, 1, none⟩ = some (.slice ao' m.length cap'))
        (first | exact unhide Stab _ (Below.refl _ _).drew | (refine unhide Stab _ ?_; assumption))
        (first
          | (go_at_call 53; refine (unhide C0 _ ?_).mono ?_; exact kb2.drew; rintro e w3 ⟨v3, rfl, r3, b3⟩; have BW3 : Below w2.heap.size w2 w3 := (Below.refl _ _).drew.trans b3; have kb3 := kb2.trans (BW3.mono kb2.size))
          | (go_at_call 46; refine (unhide C _ _ ?_ ?_).mono ?_; exact kb3; exact r3; rintro e w4 ⟨ao4, cap4, rfl, o4, b4⟩; have BW4 : Below w2.heap.size w2 w4 := BW3.trans (b4.mono BW3.size))
          | (go_at_call 54; refine (unhide C5 _ _ o4.reads).mono ?_; rintro e w5 ⟨rfl, b5⟩; have BW5 : Below w2.heap.size w2 w5 := BW4.trans (b5.mono BW4.size)))
      all_goals
        go_wp2
        go_ret
        exact ⟨by rw [unhide Hfin, unhide Hc]; rfl, kb2.trans (BW5.mono kb2.size)⟩
    · have hb' : okB q m = false := by simpa using hb
      rw [hb'] at CB
      have Hfin := hide (by unfold cmpR; rw [if_neg (by simp [hb'])] : cmpR p l q m = 2)
      clear ha hb hb' hu hv
      go_enter Tryz.func35, Tryz.ntmps35
      go_wp2_with fail
      refine (unhide CA _ (Bx2.start w p q _ _).below).mono ?_
      rintro e w1 ⟨rfl, b1⟩
      have K1 := (Bx2.start w p q (.slice ao l.length cap) (.slice ao' m.length cap')).later b1
      obtain ⟨kb1, ka01, ka11, kc01, kc11⟩ := id K1
      clear b1
      go_wp2_with fail
      refine (unhide CB w1 kb1).mono ?_
      rintro e w2 ⟨rfl, b2⟩
      have K2 := K1.later b2
      obtain ⟨kb2, ka02, ka12, kc02, kc12⟩ := id K2
      clear b2 ka01 ka11 kc01 kc11
      go_wp2
      go_ret
      exact ⟨by rw [unhide Hfin]; rfl, kb2⟩
  · have ha' : okB p l = false := by simpa using ha
    rw [ha'] at CA
    have Hfin := hide (by unfold cmpR; rw [if_neg (by simp [ha'])] : cmpR p l q m = 2)
    clear ha ha' hu hv CB
    go_enter Tryz.func35, Tryz.ntmps35
    go_wp2_with fail
    refine (unhide CA _ (Bx2.start w p q _ _).below).mono ?_
    rintro e w1 ⟨rfl, b1⟩
    have K1 := (Bx2.start w p q (.slice ao l.length cap) (.slice ao' m.length cap')).later b1
    obtain ⟨kb1, ka01, ka11, kc01, kc11⟩ := id K1
    clear b1
    go_wp2
    go_ret
    exact ⟨by rw [unhide Hfin]; rfl, kb1⟩

end Go.Proofs.YthnkmjkgcnhlfaaGreatDoor
