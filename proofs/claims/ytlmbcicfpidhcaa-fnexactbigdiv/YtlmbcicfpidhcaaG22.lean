/- BigCmp of the program, by a contract. Two numbers held against each other: l1Cmp of the specification, by a contract. BigCmp of the program and of the specification, by contracts. -/
import Derived.Test.YtlmbcicfpidhcaaG21
import Derived.Test.YtlmbcicfpidhcaaG18
import Derived.Test.YtlmbcicfpidhcaaG04
import Derived.Test.YtlmbcicfpidhcaaG06
import Derived.Deep.RegionHeld
import Derived.Test.YtlmbcicfpidhcaaG08
import Derived.Test.YtlmbcicfpidhcaaG03
import Derived.Test.YtlmbcicfpidhcaaG19
namespace Go.Proofs.Ytlmbcicfpidhcaa
open Go.RowKit
set_option maxRecDepth 100000


/-- What BigCmp answers. -/
def cmpR (p : Bool) (l : List Int) (q : Bool) (m : List Int) : Int := if okB p l = true ∧ okB q m = true then cmpZ (zv p l) (zv q m) else 2

set_option maxHeartbeats 2000000 in
theorem implBigCmp_any (w : World) (p q : Bool) (u v : Value) (l m : List Int) (hu : Reads w u l) (hv : Reads w v m) :
    Calls Try.prog 25 #[.agg #[.bool p, u], .agg #[.bool q, v]] w fun e w' => e = .returned (.int .i64 (cmpR p l q m)) ∧ Below w.heap.size w w' := by
  have CA := hide (fun W (h : Below w.heap.size w W) => implBigOk_any W p u l (hu.later h))
  have CB := hide (fun W (h : Below w.heap.size w W) => implBigOk_any W q v m (hv.later h))
  obtain ⟨ao, b1, off, cap, rfl, hu0⟩ := id hu
  obtain ⟨ao', b2, off', cap', rfl, hv0⟩ := id hv
  clear hu0 hv0
  by_cases ha : okB p l = true
  · rw [ha] at CA
    by_cases hb : okB q m = true
    · rw [hb] at CB
      obtain ⟨ea, la⟩ := ok_limbs ha
      obtain ⟨eb, lb⟩ := ok_limbs hb
      have hsp := ok_sign ha
      have hsq := ok_sign hb
      have Hfin := hide (by unfold cmpR; rw [if_pos ⟨ha, hb⟩] : cmpR p l q m = cmpZ (zv p l) (zv q m))
      have hua : Reads w (.slice ao l.length cap) (L (val l).toNat) := by rw [← ea]; exact hu
      have hva : Reads w (.slice ao' m.length cap') (L (val m).toNat) := by rw [← eb]; exact hv
      unfold zv at hsp hsq Hfin
      generalize (val l).toNat = a at *
      generalize (val m).toNat = b at *
      obtain ⟨z, hz⟩ : ∃ z, z = zof p a - zof q b := ⟨_, rfl⟩
      have hz' : z = zof p a + zof (!q && decide (b ≠ 0)) b := by rw [hz]; unfold zof; cases p <;> cases q <;> simp <;> split <;> omega
      have hc : cmpZ (zof p a) (zof q b) = if z < 0 then -1 else if 0 < z then 1 else 0 := by
        unfold cmpZ
        (repeat' split) <;> omega
      have C5 := hide (fun W s (h : Reads W s (L z.natAbs)) => signOf_any W s z h)
      generalize (if z < 0 then (-1 : Int) else if 0 < z then 1 else 0) = R at *
      have Hc := hide hc
      have C0 := hide (fun W (h : Below w.heap.size w W) => turned_any W q _ b (hva.later h))
      have C := hide (fun W s (h : Below w.heap.size w W) (hs : Reads W s (L b)) => sumOf_any W p (!q && decide (b ≠ 0)) _ s a b (hua.later h) hs (pow16 la (by decide)) (pow16 lb (by decide)) z hz')
      clear ha hb hu hv ea eb la lb hua hva hz hz' hsp hsq hc
      go_enter Try.func25, Try.ntmps25
      go_wp2_with fail
      refine (unhide CA _ (Bx2.start w p q _ _).below).mono ?_
      rintro e w1 ⟨rfl, b1⟩
      have K1 := (Bx2.start w p q (.slice ao l.length cap) (.slice ao' m.length cap')).later b1
      obtain ⟨kb1, ka01, ka11, kc01, kc11⟩ := id K1
      clear b1
      go_wp2_with fail
      refine (unhide CB w1 kb1).mono ?_
      rintro e w2 ⟨rfl, b2⟩
      have K2 := K1.later b2
      obtain ⟨kb2, ka02, ka12, kc02, kc12⟩ := id K2
      clear b2 ka01 ka11 kc01 kc11
      have stab : ∀ w' : World, Below w2.heap.size w2 w' → (w'.cell? ⟨w.heap.size, 0, none⟩ = some (.bool p) ∧ w'.cell? ⟨w.heap.size, 1, none⟩ = some (.slice ao l.length cap) ∧ w'.cell? ⟨w.heap.size + 1, 0, none⟩ = some (.bool q) ∧ w'.cell? ⟨w.heap.size + 1, 1, none⟩ = some (.slice ao' m.length cap')) :=
        fun w' h => ⟨cell_later h ka02, cell_later h ka12, cell_later h kc02, cell_later h kc12⟩
      have Stab := hide stab
      clear stab
      go_wp2
      generalize hqq : (!q && decide (b ≠ 0)) = qq at *
      clear hqq
      go_region_held (fun w' => w'.cell? ⟨w.heap.size, 0, none⟩ = some (.bool p) ∧ w'.cell? ⟨w.heap.size, 1, none⟩ = some (.slice ao l.length cap) ∧ w'.cell? ⟨w.heap.size + 1, 0, none⟩ = some (.bool q) ∧ w'.cell? ⟨w.heap.size + 1, 1, none⟩ = some (.slice ao' m.length cap'))
        (first | exact unhide Stab _ (Below.refl _ _).drew | (refine unhide Stab _ ?_; assumption))
        (first
          | (go_at_call 59; refine (unhide C0 _ ?_).mono ?_; exact kb2.drew; rintro e w3 ⟨v3, rfl, r3, b3⟩; have BW3 : Below w2.heap.size w2 w3 := (Below.refl _ _).drew.trans b3; have kb3 := kb2.trans (BW3.mono kb2.size))
          | (go_at_call 55; refine (unhide C _ _ ?_ ?_).mono ?_; exact kb3; exact r3; rintro e w4 ⟨ao4, cap4, rfl, o4, b4⟩; have BW4 : Below w2.heap.size w2 w4 := BW3.trans (b4.mono BW3.size))
          | (go_at_call 58; refine (unhide C5 _ _ o4.reads).mono ?_; rintro e w5 ⟨rfl, b5⟩; have BW5 : Below w2.heap.size w2 w5 := BW4.trans (b5.mono BW4.size)))
      all_goals
        go_wp2
        go_ret
        exact ⟨by rw [unhide Hfin, unhide Hc]; rfl, kb2.trans (BW5.mono kb2.size)⟩
    · have hb' : okB q m = false := by simpa using hb
      rw [hb'] at CB
      have Hfin := hide (by unfold cmpR; rw [if_neg (by simp [hb'])] : cmpR p l q m = 2)
      clear ha hb hb' hu hv
      go_enter Try.func25, Try.ntmps25
      go_wp2_with fail
      refine (unhide CA _ (Bx2.start w p q _ _).below).mono ?_
      rintro e w1 ⟨rfl, b1⟩
      have K1 := (Bx2.start w p q (.slice ao l.length cap) (.slice ao' m.length cap')).later b1
      obtain ⟨kb1, ka01, ka11, kc01, kc11⟩ := id K1
      clear b1
      go_wp2_with fail
      refine (unhide CB w1 kb1).mono ?_
      rintro e w2 ⟨rfl, b2⟩
      have K2 := K1.later b2
      obtain ⟨kb2, ka02, ka12, kc02, kc12⟩ := id K2
      clear b2 ka01 ka11 kc01 kc11
      go_wp2
      go_ret
      exact ⟨by rw [unhide Hfin]; rfl, kb2⟩
  · have ha' : okB p l = false := by simpa using ha
    rw [ha'] at CA
    have Hfin := hide (by unfold cmpR; rw [if_neg (by simp [ha'])] : cmpR p l q m = 2)
    clear ha ha' hu hv CB
    go_enter Try.func25, Try.ntmps25
    go_wp2_with fail
    refine (unhide CA _ (Bx2.start w p q _ _).below).mono ?_
    rintro e w1 ⟨rfl, b1⟩
    have K1 := (Bx2.start w p q (.slice ao l.length cap) (.slice ao' m.length cap')).later b1
    obtain ⟨kb1, ka01, ka11, kc01, kc11⟩ := id K1
    clear b1
    go_wp2
    go_ret
    exact ⟨by rw [unhide Hfin]; rfl, kb1⟩

end Go.Proofs.Ytlmbcicfpidhcaa

namespace Go.Proofs.Ytlmbcicfpidhcaa
open Go.RowKit
set_option maxRecDepth 100000

theorem l1Cmp_any (w : World) (p q : Bool) (u v : Value) (a b : Nat) (hu : Reads w u (L a)) (hv : Reads w v (L b)) (hp : p = sg (zof p a)) (hq : q = sg (zof q b)) :
    Calls Try.prog 61 #[.agg #[.bool p, u], .agg #[.bool q, v]] w fun e w' => e = .returned (.int .i64 (cmpZ (zof p a) (zof q b))) ∧ Below w.heap.size w w' := by
  have CA := hide (fun W (h : Below w.heap.size w W) => l1CmpAbs_any W u v a b (hu.later h) (hv.later h))
  have CB := hide (fun W (h : Below w.heap.size w W) => l1CmpAbs_any W v u b a (hv.later h) (hu.later h))
  have K0 := Bx2.start w p q u v
  have e1 : p = true → q = false → cmpZ (zof p a) (zof q b) = -1 := by
    rintro rfl rfl; apply cmpZ_lt; unfold sg zof at *; simp at *; omega
  have e2 : p = false → q = true → cmpZ (zof p a) (zof q b) = 1 := by
    rintro rfl rfl; apply cmpZ_gt; unfold sg zof at *; simp at *; omega
  have e3 : p = true → q = true → cmpZ (zof p a) (zof q b) = cmpZ b a := by
    rintro rfl rfl; unfold zof cmpZ; simp
  have e4 : p = false → q = false → cmpZ (zof p a) (zof q b) = cmpZ a b := by
    rintro rfl rfl; unfold zof cmpZ; simp
  clear hp hq hu hv
  generalize cmpZ (zof p a) (zof q b) = Z at *
  cases p <;> cases q
  · have E := hide (e4 rfl rfl)
    clear e1 e2 e3 e4
    go_enter Try.func61, Try.ntmps61
    go_wp2_with fail
    refine (unhide CA _ K0.below).mono ?_
    rintro e w1 ⟨rfl, b1⟩
    go_wp2
    go_ret
    exact ⟨by rw [unhide E]; rfl, (K0.later b1).below⟩
  · have E := hide (e2 rfl rfl)
    clear e1 e2 e3 e4
    go_enter Try.func61, Try.ntmps61
    go_wp2
    go_ret
    exact ⟨by rw [unhide E]; rfl, K0.below⟩
  · have E := hide (e1 rfl rfl)
    clear e1 e2 e3 e4
    go_enter Try.func61, Try.ntmps61
    go_wp2
    go_ret
    exact ⟨by rw [unhide E]; rfl, K0.below⟩
  · have E := hide (e3 rfl rfl)
    clear e1 e2 e3 e4
    go_enter Try.func61, Try.ntmps61
    go_wp2_with fail
    refine (unhide CB _ K0.below).mono ?_
    rintro e w1 ⟨rfl, b1⟩
    go_wp2
    go_ret
    exact ⟨by rw [unhide E]; rfl, (K0.later b1).below⟩

end Go.Proofs.Ytlmbcicfpidhcaa

namespace Go.Proofs.Ytlmbcicfpidhcaa
open Go.RowKit
set_option maxRecDepth 100000

set_option maxHeartbeats 2000000 in
theorem specBigCmp_any (w : World) (p q : Bool) (u v : Value) (l m : List Int) (hu : Reads w u l) (hv : Reads w v m) :
    Calls Try.prog 27 #[.agg #[.bool p, u], .agg #[.bool q, v]] w fun e w' => e = .returned (.int .i64 (cmpR p l q m)) ∧ Below w.heap.size w w' := by
  have CA := hide (fun W (h : Below w.heap.size w W) => l1Ok_any W p u l (hu.later h))
  have CB := hide (fun W (h : Below w.heap.size w W) => l1Ok_any W q v m (hv.later h))
  obtain ⟨ao, b1, off, cap, rfl, hu0⟩ := id hu
  obtain ⟨ao', b2, off', cap', rfl, hv0⟩ := id hv
  clear hu0 hv0
  by_cases ha : okB p l = true
  · rw [ha] at CA
    by_cases hb : okB q m = true
    · rw [hb] at CB
      obtain ⟨ea, la⟩ := ok_limbs ha
      obtain ⟨eb, lb⟩ := ok_limbs hb
      have hsp := ok_sign ha
      have hsq := ok_sign hb
      have Hfin := hide (by unfold cmpR; rw [if_pos ⟨ha, hb⟩] : cmpR p l q m = cmpZ (zv p l) (zv q m))
      have hua : Reads w (.slice ao l.length cap) (L (val l).toNat) := by rw [← ea]; exact hu
      have hva : Reads w (.slice ao' m.length cap') (L (val m).toNat) := by rw [← eb]; exact hv
      unfold zv at hsp hsq Hfin
      generalize (val l).toNat = a at *
      generalize (val m).toNat = b at *
      have C := hide (fun W (h : Below w.heap.size w W) => l1Cmp_any W p q _ _ a b (hua.later h) (hva.later h) hsp hsq)
      clear ha hb hu hv ea eb la lb hua hva hsp hsq
      go_enter Try.func27, Try.ntmps27
      go_wp2_with fail
      refine (unhide CA _ (Bx2.start w p q _ _).below).mono ?_
      rintro e w1 ⟨rfl, b1⟩
      have K1 := (Bx2.start w p q (.slice ao l.length cap) (.slice ao' m.length cap')).later b1
      obtain ⟨kb1, ka01, ka11, kc01, kc11⟩ := id K1
      clear b1
      go_wp2_with fail
      refine (unhide CB w1 kb1).mono ?_
      rintro e w2 ⟨rfl, b2⟩
      have K2 := K1.later b2
      obtain ⟨kb2, ka02, ka12, kc02, kc12⟩ := id K2
      clear b2 ka01 ka11 kc01 kc11
      go_wp2_with fail
      refine (unhide C w2 kb2).mono ?_
      rintro e w3 ⟨rfl, b3⟩
      go_wp2
      go_ret
      exact ⟨by rw [unhide Hfin]; rfl, kb2.trans (b3.mono kb2.size)⟩
    · have hb' : okB q m = false := by simpa using hb
      rw [hb'] at CB
      have Hfin := hide (by unfold cmpR; rw [if_neg (by simp [hb'])] : cmpR p l q m = 2)
      clear ha hb hb' hu hv
      go_enter Try.func27, Try.ntmps27
      go_wp2_with fail
      refine (unhide CA _ (Bx2.start w p q _ _).below).mono ?_
      rintro e w1 ⟨rfl, b1⟩
      have K1 := (Bx2.start w p q (.slice ao l.length cap) (.slice ao' m.length cap')).later b1
      obtain ⟨kb1, ka01, ka11, kc01, kc11⟩ := id K1
      clear b1
      go_wp2_with fail
      refine (unhide CB w1 kb1).mono ?_
      rintro e w2 ⟨rfl, b2⟩
      have K2 := K1.later b2
      obtain ⟨kb2, ka02, ka12, kc02, kc12⟩ := id K2
      clear b2 ka01 ka11 kc01 kc11
      go_wp2
      go_ret
      exact ⟨by rw [unhide Hfin]; rfl, kb2⟩
  · have ha' : okB p l = false := by simpa using ha
    rw [ha'] at CA
    have Hfin := hide (by unfold cmpR; rw [if_neg (by simp [ha'])] : cmpR p l q m = 2)
    clear ha ha' hu hv CB
    go_enter Try.func27, Try.ntmps27
    go_wp2_with fail
    refine (unhide CA _ (Bx2.start w p q _ _).below).mono ?_
    rintro e w1 ⟨rfl, b1⟩
    have K1 := (Bx2.start w p q (.slice ao l.length cap) (.slice ao' m.length cap')).later b1
    obtain ⟨kb1, ka01, ka11, kc01, kc11⟩ := id K1
    clear b1
    go_wp2
    go_ret
    exact ⟨by rw [unhide Hfin]; rfl, kb1⟩

end Go.Proofs.Ytlmbcicfpidhcaa
