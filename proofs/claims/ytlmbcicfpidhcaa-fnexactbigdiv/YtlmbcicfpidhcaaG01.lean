/- A row without noughts at its end: trimmed, by a contract. signed by a contract; the number of a sign and limbs. Cells behind later calls. -/
import Derived.Test.YtlmbcicfpidhcaaG00
import Derived.Test.YtlmbcicfpidhcaaMath2
import Derived.WalkLawsBesides
import Derived.Deep.QuietTactic
import Derived.BigQuiet
import Derived.WalkSmall
import Derived.Deep.RegionWith
import Derived.WalkSpells
namespace Go.Proofs.Ytlmbcicfpidhcaa
open Go.RowKit
set_option maxRecDepth 100000


/-- What a call answers that hands on a list that was owned: the world is as it was. -/
def Hands (B : Nat) (w : World) (l : List Int) (e : Ending) (w' : World) : Prop :=
  ∃ ao cap, e = .returned (.slice ao l.length cap) ∧ Own B w' (.slice ao l.length cap) l ∧ w' = w

theorem Hands.of {B : Nat} {w : World} {l : List Int} {v : Value} (h : Own B w v l) : Hands B w l (.returned v) w := by
  have h' := h
  obtain ⟨_, h2⟩ := h
  rcases h2 with ⟨rfl, e⟩ | ⟨g, cap, cur, rfl, _⟩
  · exact ⟨none, 0, by rw [e], by rw [e]; exact h', rfl⟩
  · exact ⟨_, cap, rfl, h', rfl⟩

/-- The length of a slice value: for a loop's measure. -/
def lenOf : Value → Nat
  | .slice _ k _ => k
  | _ => 0

theorem trimmed_any (w : World) (B : Nat) (v : Value) (l : List Int) (ho : Own B w v l) :
    Calls Try.prog 82 #[v] w (Hands B w (trim l)) := by
  have ho' := ho
  obtain ⟨_, hs⟩ := ho
  rcases hs with ⟨rfl, hn⟩ | ⟨g, cap, cur, rfl, _, _, hn, hm, _⟩
  · have e : l = [] := List.length_eq_zero_iff.1 hn
    subst e
    go_enter Try.func82, Try.ntmps82
    go_wp2
    refine wp_loop_rounds 1 ?_
    rw [rounds_succ]
    go_wp2
    go_ret
    exact Hands.of (Own.nil _ _)
  · unfold maxLen at hm
    go_enter Try.func82, Try.ntmps82
    go_wp2
    go_loopw [0] (fun s wr => ∃ k : Nat, k ≤ l.length ∧ s = .slice (some ⟨g, 0, none⟩) k cap ∧ trim (l.take k) = trim l ∧ wr = w)
      (fun s _ => lenOf s)
    case atStart => exact ⟨l.length, Nat.le_refl _, rfl, by rw [List.take_of_length_le (Nat.le_refl _)], rfl⟩
    case round =>
      obtain ⟨k, hk, rfl, ht, rfl⟩ := hrel
      have Ht := hide ht
      clear ht
      by_cases h0 : k = 0
      · subst h0
        go_wp2
        go_ret
        have e := unhide Ht
        have o := Own.cut ho' 0 (by omega)
        simp [trim] at e o
        rw [e]
        exact Hands.of o
      · have hp : 0 < k := by omega
        have hp' : decide ((0 : Int) < k) = true := by simp; omega
        have hz : k - 1 < l.length := by omega
        have hc := (World.ownsRow.cellAt ho' (k - 1) (by omega))
        rw [ints_at hz] at hc
        clear h0
        by_cases hl0 : l[k - 1] = 0
        · have hl0' : (l[k - 1] == 0) = true := by simp [hl0]
          have e := trim_take_zero hz (by rw [getD_at hz]; exact hl0)
          rw [show k - 1 + 1 = k by omega, unhide Ht] at e
          have He := hide e.symm
          clear e hl0
          go_wp2
          go_roundw
          case rel => exact ⟨k - 1, by omega, rfl, unhide He, by trivial⟩
          case measure => simp [lenOf]; omega
        · have hl0' : (l[k - 1] == 0) = false := by simp [hl0]
          have e := trim_take_ne hz (by rw [getD_at hz]; exact hl0)
          rw [show k - 1 + 1 = k by omega, unhide Ht] at e
          have o := Own.cut ho' k hk
          rw [← e] at o
          have He := hide e
          clear e hl0
          go_wp2
          go_ret
          exact Hands.of o

end Go.Proofs.Ytlmbcicfpidhcaa

namespace Go.Proofs.Ytlmbcicfpidhcaa
open Go.RowKit
set_option maxRecDepth 100000




/-- What 'signed' answers: the limbs that it was given, or none, if they are none. -/
theorem signed_any (w : World) (neg : Bool) (ao : Option Addr) (n cap : Nat) :
    Calls Try.prog 54 #[.bool neg, .slice ao n cap] w fun e w' => e = .returned (if n = 0 then .agg #[.bool false, .slice none 0 0] else .agg #[.bool neg, .slice ao n cap]) ∧ Below w.heap.size w w' := by
  by_cases h : n = 0
  · rw [if_pos h]
    have h' : ((n : Int) == 0) = true := by simp [h]
    have hn : n ≤ 9223372036854775807 := by omega
    clear h
    go_enter Try.func54, Try.ntmps54
    go_wp2
    refine bodyPost_ret (v := .agg #[.bool false, .slice none 0 0]) (by simp [results, Try.results54, go_sem]) rfl ⟨rfl, ?_⟩
    exact (Below.refl _ _).alloc (Nat.le_refl _) _
  · rw [if_neg h]
    have h' : ((n : Int) == 0) = false := by simp [h]
    go_enter Try.func54, Try.ntmps54
    go_wp2
    refine bodyPost_ret (v := .agg #[.bool neg, .slice ao n cap]) (by simp [results, Try.results54, go_sem]) rfl ⟨rfl, ?_⟩
    exact (Below.refl _ _).alloc (Nat.le_refl _) _

/-- A number by its sign and its limbs' number. -/
def zof (neg : Bool) (n : Nat) : Int := if neg then -(n : Int) else n

/-- Whether a number is below 0. -/
def sg (z : Int) : Bool := decide (z < 0)

/-- From what 'signed' answers to a number of the call's own. -/
theorem signed_gives {w w1 w2 : World} {B : Nat} {neg : Bool} {ao : Option Addr} {cap n : Nat} {z : Int} (ho : Own B w1 (.slice ao (L n).length cap) (L n)) (h1 : Below w.heap.size w w1) (h2 : Below w1.heap.size w1 w2) (hz : z = zof neg n) :
    ∃ ao' cap', (if (L n).length = 0 then Value.agg #[.bool false, .slice none 0 0] else .agg #[.bool neg, .slice ao (L n).length cap]) = .agg #[.bool (sg z), .slice ao' (L z.natAbs).length cap'] ∧ Own B w2 (.slice ao' (L z.natAbs).length cap') (L z.natAbs) ∧ Below w.heap.size w w2 := by
  have hb : Below w.heap.size w w2 := h1.trans (h2.mono h1.size)
  have hna : z.natAbs = n := by subst hz; unfold zof; split <;> omega
  rw [hna]
  by_cases h : n = 0
  · subst h
    have e : z = 0 := by omega
    rw [L_zero]
    refine ⟨none, 0, ?_, Own.nil _ _, hb⟩
    simp [e, sg]
  · have hl : (L n).length ≠ 0 := fun k => h (L_len_zero.1 k)
    rw [if_neg hl]
    refine ⟨ao, cap, ?_, ho.later h2, hb⟩
    have : sg z = neg := by
      subst hz
      unfold sg zof
      cases neg <;> simp <;> omega
    rw [this]

end Go.Proofs.Ytlmbcicfpidhcaa

namespace Go.Proofs.Ytlmbcicfpidhcaa
open Go.RowKit
set_option maxRecDepth 100000


theorem frozen_later {w w1 : World} {b o : Nat} (hb : Below w.heap.size w w1) (h : w.frozen? ⟨b, o, none⟩ = false) (hz : b < w.heap.size) : w1.frozen? ⟨b, o, none⟩ = false :=
  (hb.frozen (p := ⟨b, o, none⟩) hz).trans h

theorem lt_later {w w1 : World} {b : Nat} (hb : Below w.heap.size w w1) (hz : b < w.heap.size) : b < w1.heap.size := Nat.lt_of_lt_of_le hz hb.size

theorem cell_set2 {w : World} {b o c : Nat} {x : Value} (h : w.cell? ⟨b, o, none⟩ = some x) (hne : b ≠ c) (u u' : Value) : ((w.setCell ⟨c, 0, none⟩ u).setCell ⟨c, 1, none⟩ u').cell? ⟨b, o, none⟩ = some x := by
  have e : ((w.setCell ⟨c, 0, none⟩ u).setCell ⟨c, 1, none⟩ u').heap[b]? = w.heap[b]? := by
    rw [Below.heap_setCell _ _ _ _ (by exact hne), Below.heap_setCell _ _ _ _ (by exact hne)]
  exact (World.cell?_of_block (a := ⟨b, o, none⟩) e).trans h

/-- An owned list stays while a cell of another block is written that holds no list of ints. -/
theorem Own.setOther {B : Nat} {w : World} {v : Value} {l : List Int} (h : Own B w v l) {a : Addr} (ha : v.ownBlock ≠ some a.block) (u : Value) : Own B (w.setCell a u) v l :=
  World.ownsRow.kept (row := some a.block) h ⟨rfl, rfl, rfl, by simp, fun k _ hk => Below.heap_setCell w a u k (fun e => hk (by rw [e]))⟩ (.inr ha)

end Go.Proofs.Ytlmbcicfpidhcaa
