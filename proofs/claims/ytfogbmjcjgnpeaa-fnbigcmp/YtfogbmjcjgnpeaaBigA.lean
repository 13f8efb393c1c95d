/- The program's numbers with a sign, by contracts: signed, bounded, turned, signOf, sumOf, productOf. -/
import Derived.Test.YtfogbmjcjgnpeaaImC
import Derived.Test.YtfogbmjcjgnpeaaImD
import Derived.Test.YtfogbmjcjgnpeaaCmp
import Derived.Deep.RegionWith
namespace Go.Proofs.Ytfogbmjcjgnpeaa
open Go.RowKit

/-- What 'signed' answers: the limbs that it was given, or none, if they are none. -/
theorem signed_any (w : World) (neg : Bool) (ao : Option Addr) (n cap : Nat) :
    Calls Try.prog 36 #[.bool neg, .slice ao n cap] w fun e w' => e = .returned (if n = 0 then .agg #[.bool false, .slice none 0 0] else .agg #[.bool neg, .slice ao n cap]) ∧ Below w.heap.size w w' := by
  by_cases h : n = 0
  · rw [if_pos h]
    have h' : ((n : Int) == 0) = true := by simp [h]
    have hn : n ≤ 9223372036854775807 := by omega
    clear h
    go_enter Try.func36, Try.ntmps36
    go_wp2
    refine bodyPost_ret (v := .agg #[.bool false, .slice none 0 0]) (by simp [results, Try.results36, go_sem]) rfl ⟨rfl, ?_⟩
    exact (Below.refl _ _).alloc (Nat.le_refl _) _
  · rw [if_neg h]
    have h' : ((n : Int) == 0) = false := by simp [h]
    go_enter Try.func36, Try.ntmps36
    go_wp2
    refine bodyPost_ret (v := .agg #[.bool neg, .slice ao n cap]) (by simp [results, Try.results36, go_sem]) rfl ⟨rfl, ?_⟩
    exact (Below.refl _ _).alloc (Nat.le_refl _) _

/-- A number by its sign and its limbs' number. -/
def zof (neg : Bool) (n : Nat) : Int := if neg then -(n : Int) else n
/-- Whether a number is below 0. -/
def sg (z : Int) : Bool := decide (z < 0)

/-- From what 'signed' answers to a number of the call's own. -/
theorem signed_gives {w w1 w2 : World} {B : Nat} {neg : Bool} {ao : Option Addr} {cap n : Nat} {z : Int} (ho : Own B w1 (.slice ao (L n).length cap) (L n)) (h1 : Below w.heap.size w w1) (h2 : Below w1.heap.size w1 w2) (hz : z = zof neg n) :
    ∃ ao' cap', (if (L n).length = 0 then Value.agg #[.bool false, .slice none 0 0] else .agg #[.bool neg, .slice ao (L n).length cap]) = .agg #[.bool (sg z), .slice ao' (L z.natAbs).length cap'] ∧ Own B w2 (.slice ao' (L z.natAbs).length cap') (L z.natAbs) ∧ Below w.heap.size w w2 := by
  have hb : Below w.heap.size w w2 := h1.trans (h2.mono h1.size)
  have hna : z.natAbs = n := by subst hz; unfold zof; split <;> omega
  rw [hna]
  by_cases h : n = 0
  · subst h
    have e : z = 0 := by omega
    rw [L_zero]
    refine ⟨none, 0, ?_, Own.nil _ _, hb⟩
    simp [e, sg]
  · have hl : (L n).length ≠ 0 := fun k => h (L_len_zero.1 k)
    rw [if_neg hl]
    refine ⟨ao, cap, ?_, ho.later h2, hb⟩
    have : sg z = neg := by
      subst hz
      unfold sg zof
      cases neg <;> simp <;> omega
    rw [this]

theorem turned_any (w : World) (neg : Bool) (v : Value) (n : Nat) (hr : Reads w v (L n)) :
    Calls Try.prog 30 #[.agg #[.bool neg, v]] w fun e w' => ∃ v', e = .returned (.agg #[.bool (!neg && decide (n ≠ 0)), v']) ∧ Reads w' v' (L n) ∧ Below w.heap.size w w' := by
  have hr0 := hr
  obtain ⟨ao, b, off, cap, rfl, hr⟩ := hr
  clear hr
  go_enter Try.func30, Try.ntmps30
  go_wp2_with fail
  refine (signed_any _ _ ao (L n).length cap).mono ?_
  rintro e w1 ⟨rfl, hb⟩
  obtain ⟨hc, hf⟩ := bcell hb
  have hz : w.heap.size + 1 < w1.heap.size := by have := hb.size; simp at this; omega
  have fin : Below w.heap.size w w1 := (((Below.refl _ _).alloc (Nat.le_refl _) _).alloc (by simp) _).trans (hb.mono (by simp; omega))
  by_cases h : n = 0
  · subst h
    have e0 : (L 0).length = 0 := by simp [L_zero]
    rw [if_pos e0]
    go_wp2
    refine bodyPost_ret (v := .agg #[.bool false, .slice none 0 0]) (by simp [results, Try.results30, go_sem, hc]) rfl ⟨.slice none 0 0, by simp, ?_, ?_⟩
    · rw [L_zero]; exact (Own.nil 0 _).reads
    · exact (fin.setCell (by simp) _).setCell (by simp) _
  · have hl : (L n).length ≠ 0 := fun k => h (L_len_zero.1 k)
    rw [if_neg hl]
    have hd : (!neg && decide (n ≠ 0)) = !neg := by simp [h]
    have Hd := hide hd
    clear hd
    go_wp2
    refine bodyPost_ret (v := .agg #[.bool (!neg), .slice ao (L n).length cap]) (by simp [results, Try.results30, go_sem, hc]) rfl ⟨_, by rw [unhide Hd], ?_, ?_⟩
    · exact hr0.later ((fin.setCell (by simp) _).setCell (by simp) _)
    · exact (fin.setCell (by simp) _).setCell (by simp) _

theorem signOf_any (w : World) (v : Value) (z : Int) (hr : Reads w v (L z.natAbs)) :
    Calls Try.prog 31 #[.agg #[.bool (sg z), v]] w fun e w' => e = .returned (.int .i64 (if z < 0 then -1 else if 0 < z then 1 else 0)) ∧ Below w.heap.size w w' := by
  obtain ⟨ao, b, off, cap, rfl, hr⟩ := hr
  clear hr
  rcases Int.lt_trichotomy z 0 with h | h | h
  · rw [if_pos h, show sg z = true by simp [sg, h]]
    go_enter Try.func31, Try.ntmps31
    go_wp2
    go_ret
    exact ⟨rfl, (Below.refl _ _).alloc (Nat.le_refl _) _⟩
  · subst h
    have e0 : (L (0 : Int).natAbs).length = 0 := by simp [L_zero]
    rw [e0, show sg 0 = false by simp [sg]]
    go_enter Try.func31, Try.ntmps31
    go_wp2
    go_ret
    exact ⟨rfl, (Below.refl _ _).alloc (Nat.le_refl _) _⟩
  · have hl : (L z.natAbs).length ≠ 0 := fun k => by have := L_len_zero.1 k; omega
    have hl' : (((L z.natAbs).length : Int) == 0) = false := by simp; intro e; exact hl (by rw [e]; rfl)
    rw [if_neg (by omega), if_pos h, show sg z = false by simp [sg]; omega]
    clear hl
    go_enter Try.func31, Try.ntmps31
    go_wp2
    go_ret
    exact ⟨rfl, (Below.refl _ _).alloc (Nat.le_refl _) _⟩

/-- A number that is not too long, and whether. -/
theorem bounded_any (w : World) (neg : Bool) (ao : Option Addr) (n cap : Nat) :
    Calls Try.prog 24 #[.agg #[.bool neg, .slice ao n cap]] w fun e w' => e = .returned (if 16 < n then .tuple #[.agg #[.bool false, .slice none 0 0], .bool false] else .tuple #[.agg #[.bool neg, .slice ao n cap], .bool true]) ∧ Below w.heap.size w w' := by
  by_cases h : 16 < n
  · rw [if_pos h]
    go_enter Try.func24, Try.ntmps24
    go_wp2
    refine bodyPost_ret (v := .tuple #[.agg #[.bool false, .slice none 0 0], .bool false]) (by simp [results, Try.results24, go_sem]) rfl ⟨rfl, ?_⟩
    exact ((Below.refl _ _).alloc (Nat.le_refl _) _).alloc (by simp) _
  · rw [if_neg h]
    go_enter Try.func24, Try.ntmps24
    go_wp2
    refine bodyPost_ret (v := .tuple #[.agg #[.bool neg, .slice ao n cap], .bool true]) (by simp [results, Try.results24, go_sem]) rfl ⟨rfl, ?_⟩
    exact ((Below.refl _ _).alloc (Nat.le_refl _) _).alloc (by simp) _

end Go.Proofs.Ytfogbmjcjgnpeaa
