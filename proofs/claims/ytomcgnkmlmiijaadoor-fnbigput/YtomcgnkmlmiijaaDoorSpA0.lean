/- l1Trim of the specification. -/
import Derived.Test.YtomcgnkmlmiijaaDoorGa
import Derived.WalkLawsBesides
import Derived.Deep.QuietTactic
import Derived.BigQuiet
import Derived.WalkSmall
import Derived.Deep.RegionWith
namespace Go.Proofs.YtomcgnkmlmiijaaDoor
open Go.RowKit
set_option maxRecDepth 100000


theorem l1Trim_any (w : World) (v : Value) (l : List Int) (hr : Reads w v l) (hl : l.length ≤ 4000000) :
    Calls Tryd.prog 50 #[v] w (Gives w (trim l)) := by
  obtain ⟨ao, b, off, cap, rfl, hr⟩ := hr
  have h1 := hr.le
  have h2 := hr.big
  unfold maxLen at h2
  go_enter Tryd.func50, Tryd.ntmps50
  go_wp2
  go_loopw [3] (fun s wr => ∃ k : Nat, k ≤ l.length ∧ s = .int .i64 k ∧ trim (l.take k) = trim l ∧ wr = w) (fun s _ => (intOf s).toNat)
  case atStart => exact ⟨l.length, Nat.le_refl _, rfl, by rw [List.take_of_length_le (Nat.le_refl _)], rfl⟩
  case round =>
    obtain ⟨k, hk, rfl, ht, rfl⟩ := hrel
    have Ht := hide ht
    clear ht
    have fin : trim (l.take k) = l.take k → trim l = l.take k := fun e => by rw [← unhide Ht, e]
    have hR : ∀ o, Reads (wr.alloc o) (.slice ao k cap) (l.take k) := fun o => by
      have e : (l.take k).length = k := by rw [List.length_take]; omega
      exact ⟨ao, b, off, cap, by rw [e], (hr.cut k).later ((Below.refl _ _).alloc (Nat.le_refl _) o)⟩
    have HR := hide hR
    have hlk : 0 + (l.take k).length ≤ 8000000 := by rw [List.length_take]; omega
    by_cases h0 : k = 0
    · subst h0
      have e := fin (by simp [trim])
      have hR0 : ∀ o, Reads (wr.alloc o) (.slice ao 0 cap) [] := fun o => by have := hR o; simpa using this
      have He := hide (by simpa using e : trim l = [])
      have HR0 := hide hR0
      clear e fin Ht hR hR0 HR hr
      cases ao
      all_goals
        go_wp2_with (at_builtin; refine wpList_pushAll rfl _ _ 23 rfl Tryd.underlying23 wr.heap.size _ [] (own_empty _ (Nat.le_refl _)) rfl _ [] (unhide HR0 _) rfl (by simp) (by simp) ?_; intro ao1 cap1 w1 ho1 hb1)
        go_ret
        rw [unhide He]
        exact Gives.of ho1 (((Below.refl _ _).alloc (Nat.le_refl _) _).trans hb1)
    · have hp : 0 < k := by omega
      have hg : decide ((0 : Int) < k) = true := by simp; omega
      have hz : k - 1 < l.length := by omega
      have hc := hr.cell (k - 1) hz
      have hat := hr.at_ (by omega)
      subst hat
      clear h0 hr
      by_cases hl0 : l[k - 1] = 0
      · have hl0' : (l[k - 1] == 0) = true := by simp [hl0]
        have e := trim_take_zero hz (by rw [getD_at hz]; exact hl0)
        rw [show k - 1 + 1 = k by omega, unhide Ht] at e
        have He := hide e.symm
        clear e hl0 hR fin
        go_wp2
        go_roundw
        case rel => exact ⟨k - 1, by omega, by congr 1; omega, unhide He, by trivial⟩
        case measure => simp only [intOf]; omega
      · have hl0' : (l[k - 1] == 0) = false := by simp [hl0]
        have e := trim_take_ne hz (by rw [getD_at hz]; exact hl0)
        rw [show k - 1 + 1 = k by omega] at e
        have He := hide (fin e)
        clear e hl0 hR fin
        go_wp2_with (at_builtin; refine wpList_pushAll rfl _ _ 23 rfl Tryd.underlying23 wr.heap.size _ [] (own_empty _ (Nat.le_refl _)) rfl _ (l.take k) (unhide HR _) rfl hlk (by simp) ?_; intro ao1 cap1 w1 ho1 hb1; rw [List.nil_append, List.length_take, Nat.min_eq_left hk] at ho1)
        go_ret
        rw [unhide He]
        exact Gives.of ho1 (((Below.refl _ _).alloc (Nat.le_refl _) _).trans hb1)

end Go.Proofs.YtomcgnkmlmiijaaDoor
