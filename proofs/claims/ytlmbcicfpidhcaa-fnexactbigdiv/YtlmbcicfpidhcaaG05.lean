/- l1Trim of the specification. What numbers answer; l1Big of the specification. The program's product of two numbers with signs, by a contract. -/
import Derived.Test.YtlmbcicfpidhcaaG00
import Derived.Test.YtlmbcicfpidhcaaMath2
import Derived.WalkLawsBesides
import Derived.Deep.QuietTactic
import Derived.BigQuiet
import Derived.WalkSmall
import Derived.Deep.RegionWith
import Derived.Test.YtlmbcicfpidhcaaG04
import Derived.Test.YtlmbcicfpidhcaaG01
import Derived.Test.YtlmbcicfpidhcaaG03
import Derived.Deep.RegionHeld
namespace Go.Proofs.Ytlmbcicfpidhcaa
open Go.RowKit
set_option maxRecDepth 100000


theorem l1Trim_any (w : World) (v : Value) (l : List Int) (hr : Reads w v l) (hl : l.length ≤ 4000000) :
    Calls Try.prog 80 #[v] w (Gives w (trim l)) := by
  obtain ⟨ao, b, off, cap, rfl, hr⟩ := hr
  have h1 := hr.le
  have h2 := hr.big
  unfold maxLen at h2
  go_enter Try.func80, Try.ntmps80
  go_wp2
  go_loopw [3] (fun s wr => ∃ k : Nat, k ≤ l.length ∧ s = .int .i64 k ∧ trim (l.take k) = trim l ∧ wr = w) (fun s _ => (intOf s).toNat)
  case atStart => exact ⟨l.length, Nat.le_refl _, rfl, by rw [List.take_of_length_le (Nat.le_refl _)], rfl⟩
  case round =>
    obtain ⟨k, hk, rfl, ht, rfl⟩ := hrel
    have Ht := hide ht
    clear ht
    have fin : trim (l.take k) = l.take k → trim l = l.take k := fun e => by rw [← unhide Ht, e]
    have hR : ∀ o, Reads (wr.alloc o) (.slice ao k cap) (l.take k) := fun o => by
      have e : (l.take k).length = k := by rw [List.length_take]; omega
      exact ⟨ao, b, off, cap, by rw [e], (hr.cut k).later ((Below.refl _ _).alloc (Nat.le_refl _) o)⟩
    have HR := hide hR
    have hlk : 0 + (l.take k).length ≤ 8000000 := by rw [List.length_take]; omega
    by_cases h0 : k = 0
    · subst h0
      have e := fin (by simp [trim])
      have hR0 : ∀ o, Reads (wr.alloc o) (.slice ao 0 cap) [] := fun o => by have := hR o; simpa using this
      have He := hide (by simpa using e : trim l = [])
      have HR0 := hide hR0
      clear e fin Ht hR hR0 HR hr
      cases ao
      all_goals
        go_wp2_with (at_builtin; refine wpList_pushAll rfl _ _ 23 rfl Try.underlying23 wr.heap.size _ [] (own_empty _ (Nat.le_refl _)) rfl _ [] (unhide HR0 _) rfl (by simp) (by simp) ?_; intro ao1 cap1 w1 ho1 hb1)
        go_ret
        rw [unhide He]
        exact Gives.of ho1 (((Below.refl _ _).alloc (Nat.le_refl _) _).trans hb1)
    · have hp : 0 < k := by omega
      have hg : decide ((0 : Int) < k) = true := by simp; omega
      have hz : k - 1 < l.length := by omega
      have hc := hr.cell (k - 1) hz
      have hat := hr.at_ (by omega)
      subst hat
      clear h0 hr
      by_cases hl0 : l[k - 1] = 0
      · have hl0' : (l[k - 1] == 0) = true := by simp [hl0]
        have e := trim_take_zero hz (by rw [getD_at hz]; exact hl0)
        rw [show k - 1 + 1 = k by omega, unhide Ht] at e
        have He := hide e.symm
        clear e hl0 hR fin
        go_wp2
        go_roundw
        case rel => exact ⟨k - 1, by omega, by congr 1; omega, unhide He, by trivial⟩
        case measure => simp only [intOf]; omega
      · have hl0' : (l[k - 1] == 0) = false := by simp [hl0]
        have e := trim_take_ne hz (by rw [getD_at hz]; exact hl0)
        rw [show k - 1 + 1 = k by omega] at e
        have He := hide (fin e)
        clear e hl0 hR fin
        go_wp2_with (at_builtin; refine wpList_pushAll rfl _ _ 23 rfl Try.underlying23 wr.heap.size _ [] (own_empty _ (Nat.le_refl _)) rfl _ (l.take k) (unhide HR _) rfl hlk (by simp) ?_; intro ao1 cap1 w1 ho1 hb1; rw [List.nil_append, List.length_take, Nat.min_eq_left hk] at ho1)
        go_ret
        rw [unhide He]
        exact Gives.of ho1 (((Below.refl _ _).alloc (Nat.le_refl _) _).trans hb1)

end Go.Proofs.Ytlmbcicfpidhcaa

namespace Go.Proofs.Ytlmbcicfpidhcaa
open Go.RowKit
set_option maxRecDepth 100000

theorem l1Big_any (w : World) (neg : Bool) (v : Value) (z : Int) (hneg : z ≠ 0 → neg = sg z) (hr : Reads w v (L z.natAbs)) (hz : z.natAbs < 10000 ^ 200) :
    Calls Try.prog 50 #[.bool neg, v] w (GivesBig2 w (outR true z)) := by
  have hl := L_len_le hz
  have ht : trim (L z.natAbs) = L z.natAbs := trim_self (L_last _)
  have hcall := fun o => l1Trim_any (w.alloc o) v (L z.natAbs) (hr.alloc o) (by omega)
  rw [ht] at hcall
  have eo1 : 16 < (L z.natAbs).length → outR true z = (false, [], false) := fun h => by unfold outR; rw [if_neg (by omega)]
  have eo2 : ¬ 16 < (L z.natAbs).length → outR true z = (sg z, L z.natAbs, true) := fun h => by unfold outR; rw [if_pos ⟨rfl, by omega⟩]
  have e0 : (L z.natAbs).length = 0 → sg z = false := fun h => by
    have := L_len_zero.1 h
    have e : z = 0 := by omega
    simp [sg, e]
  have e1 : (L z.natAbs).length ≠ 0 → neg = sg z := fun h => hneg (fun k => h (by simp [k, L_zero]))
  clear hneg ht hz
  generalize outR true z = O at *
  generalize L z.natAbs = ll at *
  generalize sg z = sz at *
  have HC := hide hcall
  obtain ⟨ao, b, off, cap, rfl, hr⟩ := hr
  clear hr hcall
  have E1 := hide e1
  have E0 := hide e0
  have EO1 := hide eo1
  have EO2 := hide eo2
  clear e0 e1 eo1 eo2
  go_enter Try.func50, Try.ntmps50
  go_wp2_with fail
  refine (unhide HC _).mono ?_
  rintro e w1 ⟨ao1, cap1, rfl, o1, b1⟩
  obtain ⟨hc, hf⟩ := bcell b1
  have hsz : w.heap.size < w1.heap.size := by have := b1.size; simp at this; omega
  have fin : Below w.heap.size w w1 := ((Below.refl _ _).alloc (Nat.le_refl _) _).trans (b1.mono (by simp))
  have fin2 : ∀ x y, Below w.heap.size w ((w1.setCell ⟨w.heap.size, 0, none⟩ x).setCell ⟨w.heap.size, 1, none⟩ y) := fun x y => (fin.setCell (Nat.le_refl _) _).setCell (Nat.le_refl _) _
  have fin3 : ∀ x y, Own w.heap.size ((w1.setCell ⟨w.heap.size, 0, none⟩ x).setCell ⟨w.heap.size, 1, none⟩ y) (.slice ao1 ll.length cap1) ll := fun x y => ((o1.setBelow (by simp) x).setBelow (by simp) y).mono (by simp)
  clear o1
  by_cases h16 : 16 < ll.length
  · have Heo := hide (unhide EO1 h16)
    go_wp2
    refine bodyPost_ret (v := .tuple #[.agg #[.bool false, .slice none 0 0], .bool false]) (by simp [results, Try.results50, go_sem, hc]) rfl ?_
    rw [unhide Heo]
    exact ⟨none, 0, rfl, Own.nil _ _, fin2 _ _⟩
  · have Heo := hide (unhide EO2 h16)
    by_cases h0 : ll.length = 0
    · have Es := hide (unhide E0 h0)
      have hz1 : ¬ 0 < ll.length := by omega
      clear h0
      cases neg
      all_goals
        go_wp2
        refine bodyPost_ret (v := .tuple #[.agg #[.bool false, .slice ao1 ll.length cap1], .bool true]) (by simp [results, Try.results50, go_sem, hc]) rfl ?_
        rw [unhide Heo, unhide Es]
        exact ⟨ao1, cap1, rfl, fin3 _ _, fin2 _ _⟩
    · have Es := hide (unhide E1 h0)
      have hp : 0 < ll.length := by omega
      clear h0
      cases neg
      · go_wp2
        refine bodyPost_ret (v := .tuple #[.agg #[.bool false, .slice ao1 ll.length cap1], .bool true]) (by simp [results, Try.results50, go_sem, hc]) rfl ?_
        rw [unhide Heo, ← unhide Es]
        exact ⟨ao1, cap1, rfl, fin3 _ _, fin2 _ _⟩
      · go_wp2
        refine bodyPost_ret (v := .tuple #[.agg #[.bool true, .slice ao1 ll.length cap1], .bool true]) (by simp [results, Try.results50, go_sem, hc]) rfl ?_
        rw [unhide Heo, ← unhide Es]
        exact ⟨ao1, cap1, rfl, fin3 _ _, fin2 _ _⟩

end Go.Proofs.Ytlmbcicfpidhcaa

namespace Go.Proofs.Ytlmbcicfpidhcaa
open Go.RowKit
set_option maxRecDepth 100000

set_option maxHeartbeats 1000000 in
theorem productOf_any (w : World) (p q : Bool) (u v : Value) (a b : Nat) (hu : Reads w u (L a)) (hv : Reads w v (L b)) (ha : a < 10000 ^ 100) (hb : b < 10000 ^ 100) (z : Int) (hz : z = zof p a * zof q b) :
    Calls Try.prog 48 #[.agg #[.bool p, u], .agg #[.bool q, v]] w (GivesBig w (sg z) (L z.natAbs)) := by
  have hz' : z = zof (!(p == q)) (a * b) := by
    subst hz
    unfold zof
    cases p <;> cases q <;> simp <;> grind
  have Hz' := hide hz'
  clear hz hz'
  have C := hide (fun W (h : Below w.heap.size w W) => times_any W _ _ a b (hu.later h) (hv.later h) ha hb)
  clear ha hb
  obtain ⟨ao, b1, off, cap, rfl, hu⟩ := hu
  obtain ⟨ao', b2, off', cap', rfl, hv⟩ := hv
  clear hu hv
  go_enter Try.func48, Try.ntmps48
  go_wp2
  have W0b : Below w.heap.size w (((w.alloc (.cells #[.bool p, .slice ao (L a).length cap] 25)).alloc (.cells #[.bool q, .slice ao' (L b).length cap'] 25)).alloc (.cells #[.bool false, .slice none 0 0] 25)) := (((Below.refl _ _).alloc (Nat.le_refl _) _).alloc (by simp) _).alloc (by simp; omega) _
  have P0 : (((w.alloc (.cells #[.bool p, .slice ao (L a).length cap] 25)).alloc (.cells #[.bool q, .slice ao' (L b).length cap'] 25)).alloc (.cells #[.bool false, .slice none 0 0] 25)).cell? ⟨w.heap.size, 0, none⟩ = some (.bool p) := by go_simp
  have P0' : (((w.alloc (.cells #[.bool p, .slice ao (L a).length cap] 25)).alloc (.cells #[.bool q, .slice ao' (L b).length cap'] 25)).alloc (.cells #[.bool false, .slice none 0 0] 25)).cell? ⟨w.heap.size, 1, none⟩ = some (.slice ao (L a).length cap) := by go_simp
  have Q0 : (((w.alloc (.cells #[.bool p, .slice ao (L a).length cap] 25)).alloc (.cells #[.bool q, .slice ao' (L b).length cap'] 25)).alloc (.cells #[.bool false, .slice none 0 0] 25)).cell? ⟨w.heap.size + 1, 0, none⟩ = some (.bool q) := by go_simp
  have Q0' : (((w.alloc (.cells #[.bool p, .slice ao (L a).length cap] 25)).alloc (.cells #[.bool q, .slice ao' (L b).length cap'] 25)).alloc (.cells #[.bool false, .slice none 0 0] 25)).cell? ⟨w.heap.size + 1, 1, none⟩ = some (.slice ao' (L b).length cap') := by go_simp
  have RA : (((w.alloc (.cells #[.bool p, .slice ao (L a).length cap] 25)).alloc (.cells #[.bool q, .slice ao' (L b).length cap'] 25)).alloc (.cells #[.bool false, .slice none 0 0] 25)).cell? ⟨w.heap.size + 1 + 1, 0, none⟩ = some (.bool false) := by go_simp
  have RA' : (((w.alloc (.cells #[.bool p, .slice ao (L a).length cap] 25)).alloc (.cells #[.bool q, .slice ao' (L b).length cap'] 25)).alloc (.cells #[.bool false, .slice none 0 0] 25)).cell? ⟨w.heap.size + 1 + 1, 1, none⟩ = some (.slice none 0 0) := by go_simp
  have FA : (((w.alloc (.cells #[.bool p, .slice ao (L a).length cap] 25)).alloc (.cells #[.bool q, .slice ao' (L b).length cap'] 25)).alloc (.cells #[.bool false, .slice none 0 0] 25)).frozen? ⟨w.heap.size + 1 + 1, 0, none⟩ = false := by go_simp
  have FA' : (((w.alloc (.cells #[.bool p, .slice ao (L a).length cap] 25)).alloc (.cells #[.bool q, .slice ao' (L b).length cap'] 25)).alloc (.cells #[.bool false, .slice none 0 0] 25)).frozen? ⟨w.heap.size + 1 + 1, 1, none⟩ = false := by go_simp
  have zA : w.heap.size + 1 + 1 < (((w.alloc (.cells #[.bool p, .slice ao (L a).length cap] 25)).alloc (.cells #[.bool q, .slice ao' (L b).length cap'] 25)).alloc (.cells #[.bool false, .slice none 0 0] 25)).heap.size := by simp
  generalize ((w.alloc (.cells #[.bool p, .slice ao (L a).length cap] 25)).alloc (.cells #[.bool q, .slice ao' (L b).length cap'] 25)).alloc (.cells #[.bool false, .slice none 0 0] 25) = W0 at *
  have stab : ∀ w' : World, Below W0.heap.size W0 w' → (w'.cell? ⟨w.heap.size, 0, none⟩ = some (.bool p) ∧ w'.cell? ⟨w.heap.size, 1, none⟩ = some (.slice ao (L a).length cap) ∧ w'.cell? ⟨w.heap.size + 1, 0, none⟩ = some (.bool q) ∧ w'.cell? ⟨w.heap.size + 1, 1, none⟩ = some (.slice ao' (L b).length cap')) :=
    fun w' h => ⟨cell_later h P0, cell_later h P0', cell_later h Q0, cell_later h Q0'⟩
  have Stab := hide stab
  clear stab
  go_region_held (fun w' => w'.cell? ⟨w.heap.size, 0, none⟩ = some (.bool p) ∧ w'.cell? ⟨w.heap.size, 1, none⟩ = some (.slice ao (L a).length cap) ∧ w'.cell? ⟨w.heap.size + 1, 0, none⟩ = some (.bool q) ∧ w'.cell? ⟨w.heap.size + 1, 1, none⟩ = some (.slice ao' (L b).length cap'))
    (first | exact unhide Stab _ (Below.refl _ _).drew | exact unhide Stab _ (by assumption) | (obtain ⟨s1, s2, s3, s4⟩ := unhide Stab _ BW2; exact ⟨cell_set2 s1 (by omega) _ _, cell_set2 s2 (by omega) _ _, cell_set2 s3 (by omega) _ _, cell_set2 s4 (by omega) _ _⟩))
    (first
      | (go_at_call 79; refine (unhide C _ ?_).mono ?_; exact W0b.drew; rintro e w1 ⟨ao1, cap1, rfl, o1, b1⟩; have R1 := cell_later b1 RA; have R1' := cell_later b1 RA'; have F1 := frozen_later b1 FA zA; have F1' := frozen_later b1 FA' zA; have z1 := lt_later b1 zA; have bb1 := W0b.drew.trans (b1.mono W0b.drew.size); have BW1 : Below W0.heap.size W0 w1 := (Below.refl _ _).drew.trans b1)
      | (go_at_call 54; refine (signed_any _ _ ao1 _ cap1).mono ?_; rintro e w2 ⟨he, b2⟩; obtain ⟨ao3, cap3, e3, o3, bb3⟩ := signed_gives (w := w) (z := z) o1 bb1 b2 (unhide Hz'); rw [e3] at he; subst he; have R2 := cell_later b2 R1; have R2' := cell_later b2 R1'; have F2 := frozen_later b2 F1 z1; have F2' := frozen_later b2 F1' z1; have BW2 : Below W0.heap.size W0 w2 := BW1.trans (b2.mono BW1.size)))
  all_goals
    go_wp2
    refine bodyPost_ret (v := .agg #[.bool (sg z), .slice ao3 (L z.natAbs).length cap3]) (by simp [results, Try.results48, go_sem, R2, R2']) rfl ⟨ao3, cap3, rfl, ?_, ?_⟩
    · exact ((o3.setBelow (by exact zA) _).setBelow (by exact zA) _).mono W0b.size
    · exact (bb3.setCell (by simp; omega) _).setCell (by simp; omega) _

end Go.Proofs.Ytlmbcicfpidhcaa
