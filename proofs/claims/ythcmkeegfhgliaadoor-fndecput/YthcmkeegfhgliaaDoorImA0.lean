/- A row without noughts at its end: trimmed, by a contract. -/
import Derived.Test.YthcmkeegfhgliaaDoorPush
import Derived.Test.YthcmkeegfhgliaaDoorMath2
import Derived.WalkLawsBesides
import Derived.Deep.QuietTactic
import Derived.BigQuiet
import Derived.WalkSmall
namespace Go.Proofs.YthcmkeegfhgliaaDoor
open Go.RowKit
set_option maxRecDepth 100000


/-- What a call answers that hands on a list that was owned: the world is as it was. -/
def Hands (B : Nat) (w : World) (l : List Int) (e : Ending) (w' : World) : Prop :=
  ∃ ao cap, e = .returned (.slice ao l.length cap) ∧ Own B w' (.slice ao l.length cap) l ∧ w' = w

theorem Hands.of {B : Nat} {w : World} {l : List Int} {v : Value} (h : Own B w v l) : Hands B w l (.returned v) w := by
  have h' := h
  obtain ⟨_, h2⟩ := h
  rcases h2 with ⟨rfl, e⟩ | ⟨g, cap, cur, rfl, _⟩
  · exact ⟨none, 0, by rw [e], by rw [e]; exact h', rfl⟩
  · exact ⟨_, cap, rfl, h', rfl⟩

/-- The length of a slice value: for a loop's measure. -/
def lenOf : Value → Nat
  | .slice _ k _ => k
  | _ => 0

theorem trimmed_any (w : World) (B : Nat) (v : Value) (l : List Int) (ho : Own B w v l) :
    Calls Tryd.prog 52 #[v] w (Hands B w (trim l)) := by
  have ho' := ho
  obtain ⟨_, hs⟩ := ho
  rcases hs with ⟨rfl, hn⟩ | ⟨g, cap, cur, rfl, _, _, hn, hm, _⟩
  · have e : l = [] := List.length_eq_zero_iff.1 hn
    subst e
    go_enter Tryd.func52, Tryd.ntmps52
    go_wp2
    refine wp_loop_rounds 1 ?_
    rw [rounds_succ]
    go_wp2
    go_ret
    exact Hands.of (Own.nil _ _)
  · unfold maxLen at hm
    go_enter Tryd.func52, Tryd.ntmps52
    go_wp2
    go_loopw [0] (fun s wr => ∃ k : Nat, k ≤ l.length ∧ s = .slice (some ⟨g, 0, none⟩) k cap ∧ trim (l.take k) = trim l ∧ wr = w)
      (fun s _ => lenOf s)
    case atStart => exact ⟨l.length, Nat.le_refl _, rfl, by rw [List.take_of_length_le (Nat.le_refl _)], rfl⟩
    case round =>
      obtain ⟨k, hk, rfl, ht, rfl⟩ := hrel
      have Ht := hide ht
      clear ht
      by_cases h0 : k = 0
      · subst h0
        go_wp2
        go_ret
        have e := unhide Ht
        have o := Own.cut ho' 0 (by omega)
        simp [trim] at e o
        rw [e]
        exact Hands.of o
      · have hp : 0 < k := by omega
        have hp' : decide ((0 : Int) < k) = true := by simp; omega
        have hz : k - 1 < l.length := by omega
        have hc := (World.ownsRow.cellAt ho' (k - 1) (by omega))
        rw [ints_at hz] at hc
        clear h0
        by_cases hl0 : l[k - 1] = 0
        · have hl0' : (l[k - 1] == 0) = true := by simp [hl0]
          have e := trim_take_zero hz (by rw [getD_at hz]; exact hl0)
          rw [show k - 1 + 1 = k by omega, unhide Ht] at e
          have He := hide e.symm
          clear e hl0
          go_wp2
          go_roundw
          case rel => exact ⟨k - 1, by omega, rfl, unhide He, by trivial⟩
          case measure => simp [lenOf]; omega
        · have hl0' : (l[k - 1] == 0) = false := by simp [hl0]
          have e := trim_take_ne hz (by rw [getD_at hz]; exact hl0)
          rw [show k - 1 + 1 = k by omega, unhide Ht] at e
          have o := Own.cut ho' k hk
          rw [← e] at o
          have He := hide e
          clear e hl0
          go_wp2
          go_ret
          exact Hands.of o

end Go.Proofs.YthcmkeegfhgliaaDoor
