/- turned and signOf of the program, by contracts. -/
import Derived.Test.YtocpnihidfbijaaDoorBigS1
import Derived.Deep.RegionWith
namespace Go.Proofs.YtocpnihidfbijaaDoor
open Go.RowKit
set_option maxRecDepth 100000


theorem turned_any (w : World) (neg : Bool) (v : Value) (n : Nat) (hr : Reads w v (L n)) :
    Calls Tryd.prog 27 #[.agg #[.bool neg, v]] w fun e w' => ∃ v', e = .returned (.agg #[.bool (!neg && decide (n ≠ 0)), v']) ∧ Reads w' v' (L n) ∧ Below w.heap.size w w' := by
  have hr0 := hr
  obtain ⟨ao, b, off, cap, rfl, hr⟩ := hr
  clear hr
  go_enter Tryd.func27, Tryd.ntmps27
  go_wp2_with fail
  refine (signed_any _ _ ao (L n).length cap).mono ?_
  rintro e w1 ⟨rfl, hb⟩
  obtain ⟨hc, hf⟩ := bcell hb
  have hz : w.heap.size + 1 < w1.heap.size := by have := hb.size; simp at this; omega
  have fin : Below w.heap.size w w1 := (((Below.refl _ _).alloc (Nat.le_refl _) _).alloc (by simp) _).trans (hb.mono (by simp; omega))
  by_cases h : n = 0
  · subst h
    have e0 : (L 0).length = 0 := by simp [L_zero]
    rw [if_pos e0]
    go_wp2
    refine bodyPost_ret (v := .agg #[.bool false, .slice none 0 0]) (by simp [results, Tryd.results27, go_sem, hc]) rfl ⟨.slice none 0 0, by simp, ?_, ?_⟩
    · rw [L_zero]; exact (Own.nil 0 _).reads
    · exact (fin.setCell (by simp) _).setCell (by simp) _
  · have hl : (L n).length ≠ 0 := fun k => h (L_len_zero.1 k)
    rw [if_neg hl]
    have hd : (!neg && decide (n ≠ 0)) = !neg := by simp [h]
    have Hd := hide hd
    clear hd
    go_wp2
    refine bodyPost_ret (v := .agg #[.bool (!neg), .slice ao (L n).length cap]) (by simp [results, Tryd.results27, go_sem, hc]) rfl ⟨_, by rw [unhide Hd], ?_, ?_⟩
    · exact hr0.later ((fin.setCell (by simp) _).setCell (by simp) _)
    · exact (fin.setCell (by simp) _).setCell (by simp) _

theorem signOf_any (w : World) (v : Value) (z : Int) (hr : Reads w v (L z.natAbs)) :
    Calls Tryd.prog 25 #[.agg #[.bool (sg z), v]] w fun e w' => e = .returned (.int .i64 (if z < 0 then -1 else if 0 < z then 1 else 0)) ∧ Below w.heap.size w w' := by
  obtain ⟨ao, b, off, cap, rfl, hr⟩ := hr
  clear hr
  rcases Int.lt_trichotomy z 0 with h | h | h
  · rw [if_pos h, show sg z = true by simp [sg, h]]
    go_enter Tryd.func25, Tryd.ntmps25
    go_wp2
    go_ret
    exact ⟨rfl, (Below.refl _ _).alloc (Nat.le_refl _) _⟩
  · subst h
    have e0 : (L (0 : Int).natAbs).length = 0 := by simp [L_zero]
    rw [e0, show sg 0 = false by simp [sg]]
    go_enter Tryd.func25, Tryd.ntmps25
    go_wp2
    go_ret
    exact ⟨rfl, (Below.refl _ _).alloc (Nat.le_refl _) _⟩
  · have hl : (L z.natAbs).length ≠ 0 := fun k => by have := L_len_zero.1 k; omega
    have hl' : (((L z.natAbs).length : Int) == 0) = false := by simp; intro e; exact hl (by rw [e]; rfl)
    rw [if_neg (by omega), if_pos h, show sg z = false by simp [sg]; omega]
    clear hl
    go_enter Tryd.func25, Tryd.ntmps25
    go_wp2
    go_ret
    exact ⟨rfl, (Below.refl _ _).alloc (Nat.le_refl _) _⟩

end Go.Proofs.YtocpnihidfbijaaDoor
