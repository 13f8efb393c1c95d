/- The specification's BigMul, by a contract. The program's and the specification's sums, differences and products, at numbers that are ok. Two numbers in their boxes. -/
import Derived.Test.YtlmbcicfpidhcaaG19
import Derived.Test.YtlmbcicfpidhcaaSpB
import Derived.Deep.RegionHeld
import Derived.Test.YtlmbcicfpidhcaaG20
import Derived.Test.YtlmbcicfpidhcaaG16
import Derived.Test.YtlmbcicfpidhcaaG06
import Derived.Test.YtlmbcicfpidhcaaBigE
import Derived.Test.YtlmbcicfpidhcaaBigF
import Derived.Test.YtlmbcicfpidhcaaG01
namespace Go.Proofs.Ytlmbcicfpidhcaa
open Go.RowKit
set_option maxRecDepth 100000

set_option maxHeartbeats 2000000 in
theorem specBigMul_any (w : World) (p q : Bool) (u v : Value) (l m : List Int) (hu : Reads w u l) (hv : Reads w v m) :
    Calls Try.prog 18 #[.agg #[.bool p, u], .agg #[.bool q, v]] w (GivesBig2 w (outR (okB p l && okB q m) (zv p l * zv q m))) := by
  have CA := hide (fun W (h : Below w.heap.size w W) => l1Ok_any W p u l (hu.later h))
  have CB := hide (fun W (h : Below w.heap.size w W) => l1Ok_any W q v m (hv.later h))
  obtain ⟨ao, b1, off, cap, rfl, hu0⟩ := id hu
  obtain ⟨ao', b2, off', cap', rfl, hv0⟩ := id hv
  clear hu0 hv0
  by_cases ha : okB p l = true
  · rw [ha] at CA
    by_cases hb : okB q m = true
    · rw [hb] at CB
      obtain ⟨ea, la⟩ := ok_limbs ha
      obtain ⟨eb, lb⟩ := ok_limbs hb
      have hfin : outR (okB p l && okB q m) (zv p l * zv q m) = outR true (zv p l * zv q m) := by rw [ha, hb]; rfl
      rw [hfin]
      have hz : zv p l * zv q m = zof p (val l).toNat * zof q (val m).toNat := rfl
      rw [ea] at hu
      rw [eb] at hv
      rw [← ea] at hu
      rw [← eb] at hv
      have hua : Reads w (.slice ao l.length cap) (L (val l).toNat) := by rw [← ea]; exact hu
      have hva : Reads w (.slice ao' m.length cap') (L (val m).toNat) := by rw [← eb]; exact hv
      generalize (val l).toNat = a at *
      generalize (val m).toNat = b at *
      generalize zv p l * zv q m = z at *
      have key : z.natAbs = a * b ∧ (z ≠ 0 → (!(p == q)) = sg z) := by
        rw [hz]
        unfold zof sg
        refine ⟨by cases p <;> cases q <;> simp [Int.natAbs_mul], ?_⟩
        intro hne
        have hp : 0 < (a : Int) * b := by
          rcases Nat.eq_zero_or_pos a with h | h
          · exfalso; apply hne; rw [h]; cases p <;> cases q <;> simp
          · rcases Nat.eq_zero_or_pos b with k | k
            · exfalso; apply hne; rw [k]; cases p <;> cases q <;> simp
            · exact Int.mul_pos (by omega) (by omega)
        cases p <;> cases q <;> simp [Int.neg_mul, Int.mul_neg] <;> omega
      have hna : z.natAbs < 10000 ^ 200 := by
        rw [key.1, show (200 : Nat) = 100 + 100 from rfl, Nat.pow_add]
        exact Nat.mul_lt_mul'' (pow16 la (by decide)) (pow16 lb (by decide))
      have C := hide (fun W (h : Below w.heap.size w W) => l1MulAbs_any W _ _ a b (hua.later h) (hva.later h) (pow16 la (by decide)) (pow16 lb (by decide)))
      rw [← key.1] at C
      have D := hide (fun W s (hr : Reads W s (L z.natAbs)) => l1Big_any W (!(p == q)) s z key.2 hr hna)
      clear hfin ha hb hu hv ea eb la lb hua hva hz key hna
      go_enter Try.func18, Try.ntmps18
      go_wp2_with fail
      refine (unhide CA _ (Bx.start w p q _ _).below).mono ?_
      rintro e w1 ⟨rfl, b1⟩
      have K1 := (Bx.start w p q (.slice ao l.length cap) (.slice ao' m.length cap')).later b1
      obtain ⟨kb1, ka01, ka11, kc01, kc11, kr01, kr11, kf01, kf11, kl1⟩ := id K1
      clear b1
      go_wp2_with fail
      refine (unhide CB w1 kb1).mono ?_
      rintro e w2 ⟨rfl, b2⟩
      have K2 := K1.later b2
      obtain ⟨kb2, ka02, ka12, kc02, kc12, kr02, kr12, kf02, kf12, kl2⟩ := id K2
      clear b2 ka01 ka11 kc01 kc11 kr01 kr11 kf01 kf11
      have stab : ∀ w' : World, Below w2.heap.size w2 w' → (w'.cell? ⟨w.heap.size, 0, none⟩ = some (.bool p) ∧ w'.cell? ⟨w.heap.size, 1, none⟩ = some (.slice ao l.length cap) ∧ w'.cell? ⟨w.heap.size + 1, 0, none⟩ = some (.bool q) ∧ w'.cell? ⟨w.heap.size + 1, 1, none⟩ = some (.slice ao' m.length cap')) :=
        fun w' h => ⟨cell_later h ka02, cell_later h ka12, cell_later h kc02, cell_later h kc12⟩
      have Stab := hide stab
      clear stab
      go_wp2
      go_region_held (fun w' => w'.cell? ⟨w.heap.size, 0, none⟩ = some (.bool p) ∧ w'.cell? ⟨w.heap.size, 1, none⟩ = some (.slice ao l.length cap) ∧ w'.cell? ⟨w.heap.size + 1, 0, none⟩ = some (.bool q) ∧ w'.cell? ⟨w.heap.size + 1, 1, none⟩ = some (.slice ao' m.length cap'))
        (first | exact unhide Stab _ (Below.refl _ _).drew | exact unhide Stab _ (by assumption) | (obtain ⟨s1, s2, s3, s4⟩ := unhide Stab _ BWZ; exact ⟨cell_set2 s1 (by omega) _ _, cell_set2 s2 (by omega) _ _, cell_set2 s3 (by omega) _ _, cell_set2 s4 (by omega) _ _⟩))
        (first
          | (go_at_call 51; refine (unhide C _ ?_).mono ?_; exact kb2.drew; rintro e w3 ⟨ao3, cap3, rfl, o3, b3⟩; have BW3 : Below w2.heap.size w2 w3 := (Below.refl _ _).drew.trans b3; have K3 := K2.later BW3)
          | (go_at_call 50; refine (unhide D _ _ o3.reads).mono ?_; rintro e w4 ⟨ao4, cap4, rfl, o4, b4⟩; have K4 := K3.later b4; have BWZ : Below w2.heap.size w2 w4 := BW3.trans (b4.mono BW3.size); obtain ⟨kb4, ka04, ka14, kc04, kc14, kr04, kr14, kf04, kf14, kl4⟩ := id K4))
      all_goals
        go_wp2
        refine bodyPost_ret (v := .tuple #[.agg #[.bool (outR true z).1, .slice ao4 (outR true z).2.1.length cap4], .bool (outR true z).2.2]) (by simp [results, Try.results18, go_sem, kr04, kr14]) rfl ?_
        exact ⟨ao4, cap4, rfl, ((o4.setBelow (by exact K3.lt) _).setBelow (by exact K3.lt) _).mono K3.below.size, (kb4.setCell (by simp; omega) _).setCell (by simp; omega) _⟩
    · have hb' : okB q m = false := by simpa using hb
      rw [hb'] at CB
      have hfin : outR (okB p l && okB q m) = outR false := by rw [ha, hb']; rfl
      have Hfin := hide (by rw [hfin]; rfl : outR (okB p l && okB q m) (zv p l * zv q m) = (false, [], false))
      clear hfin ha hb hb' hu hv
      go_enter Try.func18, Try.ntmps18
      go_wp2_with fail
      refine (unhide CA _ (Bx.start w p q _ _).below).mono ?_
      rintro e w1 ⟨rfl, b1⟩
      have K1 := (Bx.start w p q (.slice ao l.length cap) (.slice ao' m.length cap')).later b1
      obtain ⟨kb1, ka01, ka11, kc01, kc11, kr01, kr11, kf01, kf11, kl1⟩ := id K1
      clear b1
      go_wp2_with fail
      refine (unhide CB w1 kb1).mono ?_
      rintro e w2 ⟨rfl, b2⟩
      have K2 := K1.later b2
      obtain ⟨kb2, ka02, ka12, kc02, kc12, kr02, kr12, kf02, kf12, kl2⟩ := id K2
      clear b2 ka01 ka11 kc01 kc11 kr01 kr11 kf01 kf11
      go_wp2
      refine bodyPost_ret (v := .tuple #[.agg #[.bool false, .slice none 0 0], .bool false]) (by simp [results, Try.results18, go_sem, kr02, kr12]) rfl ?_
      rw [unhide Hfin]
      exact ⟨none, 0, rfl, Own.nil _ _, (kb2.setCell (by simp; omega) _).setCell (by simp; omega) _⟩
  · have ha' : okB p l = false := by simpa using ha
    rw [ha'] at CA
    have hfin : outR (okB p l && okB q m) = outR false := by rw [ha']; rfl
    have Hfin := hide (by rw [hfin]; rfl : outR (okB p l && okB q m) (zv p l * zv q m) = (false, [], false))
    clear hfin ha ha' hu hv CB
    go_enter Try.func18, Try.ntmps18
    go_wp2_with fail
    refine (unhide CA _ (Bx.start w p q _ _).below).mono ?_
    rintro e w1 ⟨rfl, b1⟩
    have K1 := (Bx.start w p q (.slice ao l.length cap) (.slice ao' m.length cap')).later b1
    obtain ⟨kb1, ka01, ka11, kc01, kc11, kr01, kr11, kf01, kf11, kl1⟩ := id K1
    clear b1
    go_wp2
    refine bodyPost_ret (v := .tuple #[.agg #[.bool false, .slice none 0 0], .bool false]) (by simp [results, Try.results18, go_sem, kr01, kr11]) rfl ?_
    rw [unhide Hfin]
    exact ⟨none, 0, rfl, Own.nil _ _, (kb1.setCell (by simp; omega) _).setCell (by simp; omega) _⟩

end Go.Proofs.Ytlmbcicfpidhcaa

namespace Go.Proofs.Ytlmbcicfpidhcaa
open Go.RowKit


theorem implMul_z {W : World} {a b : Int} (ha : (L a.natAbs).length ≤ 16) (hb : (L b.natAbs).length ≤ 16) {u v : Value} (hu : Reads W u (L a.natAbs)) (hv : Reads W v (L b.natAbs)) :
    Calls Try.prog 17 #[.agg #[.bool (sg a), u], .agg #[.bool (sg b), v]] W (GivesBig2 W (outR true (a * b))) := by
  have := implBigMul_any W (sg a) (sg b) u v _ _ hu hv
  rwa [okB_z ha, okB_z hb, zv_z, zv_z] at this

theorem specMul_z {W : World} {a b : Int} (ha : (L a.natAbs).length ≤ 16) (hb : (L b.natAbs).length ≤ 16) {u v : Value} (hu : Reads W u (L a.natAbs)) (hv : Reads W v (L b.natAbs)) :
    Calls Try.prog 18 #[.agg #[.bool (sg a), u], .agg #[.bool (sg b), v]] W (GivesBig2 W (outR true (a * b))) := by
  have := specBigMul_any W (sg a) (sg b) u v _ _ hu hv
  rwa [okB_z ha, okB_z hb, zv_z, zv_z] at this

end Go.Proofs.Ytlmbcicfpidhcaa

namespace Go.Proofs.Ytlmbcicfpidhcaa
open Go.RowKit



/-- Two numbers in their boxes. -/
structure Bx2 (w0 w' : World) (p : Bool) (u : Value) (q : Bool) (v : Value) : Prop where
  below : Below w0.heap.size w0 w'
  a0 : w'.cell? ⟨w0.heap.size, 0, none⟩ = some (.bool p)
  a1 : w'.cell? ⟨w0.heap.size, 1, none⟩ = some u
  b0 : w'.cell? ⟨w0.heap.size + 1, 0, none⟩ = some (.bool q)
  b1 : w'.cell? ⟨w0.heap.size + 1, 1, none⟩ = some v

theorem Bx2.later {w0 w w' : World} {p q : Bool} {u v : Value} (h : Bx2 w0 w p u q v) (k : Below w.heap.size w w') : Bx2 w0 w' p u q v :=
  ⟨h.below.trans (k.mono h.below.size), cell_later k h.a0, cell_later k h.a1, cell_later k h.b0, cell_later k h.b1⟩

theorem Bx2.start (w : World) (p q : Bool) (u v : Value) : Bx2 w ((w.alloc (.cells #[.bool p, u] 25)).alloc (.cells #[.bool q, v] 25)) p u q v :=
  ⟨((Below.refl _ _).alloc (Nat.le_refl _) _).alloc (by simp) _, by go_simp, by go_simp, by go_simp, by go_simp⟩

end Go.Proofs.Ytlmbcicfpidhcaa
