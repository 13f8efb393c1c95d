/- Whether a number is ok: impl.BigOk, spec.l1Ok, spec.BigOk, by one contract. -/
import Derived.Test.YtnegndajejhflaaDoorOkA0
import Derived.Test.YtnegndajejhflaaDoorKit1
namespace Go.Proofs.YtnegndajejhflaaDoor
open Go.RowKit
set_option maxRecDepth 100000

theorem implBigOk_any (w : World) (neg : Bool) (v : Value) (l : List Int) (hr : Reads w v l) :
    Calls Tryd.prog 103 #[.agg #[.bool neg, v]] w fun e w' => e = .returned (.bool (okB neg l)) ∧ Below w.heap.size w w' := by
  obtain ⟨ao, b, off, cap, rfl, hr⟩ := hr
  have h1 := hr.le
  have h2 := hr.big
  unfold maxLen at h2
  by_cases h0 : l.length = 0
  · have e : l = [] := List.length_eq_zero_iff.1 h0
    have e0 : ((l.length : Int) == 0) = true := by simp [h0]
    have ek : okB neg l = !neg := by
      subst e
      cases neg
      · exact okB_true ⟨by simp, Lim.nil, fun _ => rfl, .inl rfl⟩
      · exact okB_false (fun h => by have := h.2.2.1 rfl; cases this)
    rw [ek]
    clear ek e hr h0
    go_enter Tryd.func103, Tryd.ntmps103
    go_wp2
    go_ret
    exact ⟨rfl, (Below.refl _ _).alloc (Nat.le_refl _) _⟩
  · have e0 : ((l.length : Int) == 0) = false := by simp; intro h; exact h0 (by simp [h])
    have hp : 0 < l.length := by omega
    by_cases h16 : 16 < l.length
    · rw [okB_false (fun h => by have := h.1; omega)]
      clear hr h0
      go_enter Tryd.func103, Tryd.ntmps103
      go_wp2
      go_ret
      exact ⟨rfl, (Below.refl _ _).alloc (Nat.le_refl _) _⟩
    · have hat := hr.at_ hp
      subst hat
      have hr' := fun o => hr.later ((Below.refl w.heap.size w).alloc (Nat.le_refl _) o)
      have hz : l.length - 1 < l.length := by omega
      have hlast := fun o => (hr' o).cell (l.length - 1) hz
      have hg : (decide (16 < (l.length : Int))) = false := by simp; omega
      clear h0
      by_cases hl0 : l[l.length - 1] = 0
      · have hl0' : (l[l.length - 1] == 0) = true := by simp [hl0]
        rw [okB_false (fun h => by have := h.2.2.2.resolve_left (fun e => by simp [e] at hp); exact this (by rw [getD_at hz]; exact hl0))]
        clear hl0 hr hr'
        go_enter Tryd.func103, Tryd.ntmps103
        go_wp2
        go_ret
        exact ⟨rfl, (Below.refl _ _).alloc (Nat.le_refl _) _⟩
      · have hl0' : (l[l.length - 1] == 0) = false := by simp [hl0]
        go_enter Tryd.func103, Tryd.ntmps103
        go_wp2
        go_loopw [5, 28] (fun _ i wr => ∃ k : Nat, k ≤ l.length ∧ i = .int .i64 k ∧ Lim (l.take k) ∧ wr = w.alloc (.cells #[.bool neg, .slice (some ⟨b, off, none⟩) l.length cap] 35))
          (fun _ i _ => l.length - (intOf i).toNat)
        case atStart => exact ⟨0, Nat.zero_le _, rfl, by simp [Lim], rfl⟩
        case round =>
          obtain ⟨k, hk, rfl, ht, rfl⟩ := hrel
          by_cases hlt : k < l.length
          · have hc := fun o => (hr' o).cell k hlt
            by_cases hin : 0 ≤ l[k] ∧ l[k] < 10000
            · obtain ⟨hi1, hi2⟩ := hin
              have hi3 : decide (l[k] < 0) = false := by simp; omega
              clear hr hr' hlast
              go_wp2
              go_roundw
              case rel => exact ⟨k + 1, by omega, by go_num, by rw [List.take_succ_eq_append_getElem hlt]; exact ht.app (Lim.one hi1 hi2), by trivial⟩
              case measure => simp [intOf]; omega
            · have ek : okB neg l = false := okB_false (fun h => hin (h.2.1.at hlt))
              have Ek := hide ek
              clear ek hr hr' hlast
              by_cases hn : l[k] < 0
              · have hi3 : decide (l[k] < 0) = true := by simp; omega
                clear hin
                go_wp2
                go_ret
                exact ⟨by rw [unhide Ek]; rfl, (Below.refl _ _).alloc (Nat.le_refl _) _⟩
              · have hi3 : decide (l[k] < 0) = false := by simp; omega
                have hi4 : 10000 ≤ l[k] := by omega
                clear hin
                go_wp2
                go_ret
                exact ⟨by rw [unhide Ek]; rfl, (Below.refl _ _).alloc (Nat.le_refl _) _⟩
          · have ek : okB neg l = true := by
              rw [List.take_of_length_le (by omega)] at ht
              exact okB_true ⟨by omega, ht, fun e => by simp [e] at hp, .inr (by rw [getD_at hz]; exact hl0)⟩
            have Ek := hide ek
            clear ek hr hr' hlast
            go_wp2
            go_ret
            exact ⟨by rw [unhide Ek]; rfl, (Below.refl _ _).alloc (Nat.le_refl _) _⟩

theorem l1In_any (w : World) (n a b : Int) : Calls Tryd.prog 34 #[.int .i64 n, .int .i64 a, .int .i64 b] w fun e w' => e = .returned (.bool (decide (a ≤ n ∧ n ≤ b))) ∧ w' = w := by
  by_cases h : a ≤ n
  · have h' : decide (a ≤ n) = true := by simpa using h
    by_cases k : n ≤ b
    · rw [show decide (a ≤ n ∧ n ≤ b) = true by simp [h, k]]
      go_enter Tryd.func34, Tryd.ntmps34
      go_wp2
      go_ret
      exact ⟨rfl, rfl⟩
    · rw [show decide (a ≤ n ∧ n ≤ b) = false by simp; omega]
      have k' : decide (n ≤ b) = false := by simp; omega
      go_enter Tryd.func34, Tryd.ntmps34
      go_wp2
      go_ret
      exact ⟨rfl, rfl⟩
  · have h' : decide (a ≤ n) = false := by simpa using h
    rw [show decide (a ≤ n ∧ n ≤ b) = false by simp; omega]
    go_enter Tryd.func34, Tryd.ntmps34
    go_wp2
    go_ret
    exact ⟨rfl, rfl⟩

theorem l1Ok_any (w : World) (neg : Bool) (v : Value) (l : List Int) (hr : Reads w v l) :
    Calls Tryd.prog 51 #[.agg #[.bool neg, v]] w fun e w' => e = .returned (.bool (okB neg l)) ∧ Below w.heap.size w w' := by
  obtain ⟨ao, b, off, cap, rfl, hr⟩ := hr
  have h1 := hr.le
  have h2 := hr.big
  unfold maxLen at h2
  by_cases h16 : 16 < l.length
  · rw [okB_false (fun h => by have := h.1; omega)]
    have hg : (decide (16 < (l.length : Int))) = true := by simp; omega
    clear hr
    go_enter Tryd.func51, Tryd.ntmps51
    go_wp2
    go_ret
    exact ⟨rfl, (Below.refl _ _).alloc (Nat.le_refl _) _⟩
  · have hg : (decide (16 < (l.length : Int))) = false := by simp; omega
    by_cases h0 : l.length = 0
    · have e : l = [] := List.length_eq_zero_iff.1 h0
      have e0 : ((l.length : Int) == 0) = true := by simp [h0]
      cases neg
      · have ek : okB false l = true := by subst e; exact okB_true ⟨by simp, Lim.nil, fun _ => rfl, .inl rfl⟩
        rw [ek]
        clear ek e hr
        go_enter Tryd.func51, Tryd.ntmps51
        go_wp2
        refine wp_loop_rounds 1 ?_
        rw [rounds_succ]
        go_wp2
        go_ret
        exact ⟨rfl, (Below.refl _ _).alloc (Nat.le_refl _) _⟩
      · have ek : okB true l = false := by subst e; exact okB_false (fun h => by have := h.2.2.1 rfl; cases this)
        rw [ek]
        clear ek e hr h0
        go_enter Tryd.func51, Tryd.ntmps51
        go_wp2
        go_ret
        exact ⟨rfl, (Below.refl _ _).alloc (Nat.le_refl _) _⟩
    · have e0 : ((l.length : Int) == 0) = false := by simp; intro h; exact h0 (by simp [h])
      have hp : 0 < l.length := by omega
      have hat := hr.at_ hp
      subst hat
      have hr' := fun o => hr.later ((Below.refl w.heap.size w).alloc (Nat.le_refl _) o)
      have hz : l.length - 1 < l.length := by omega
      clear h0
      have core : Calls Tryd.prog 51 #[.agg #[.bool neg, .slice (some ⟨b, off, none⟩) l.length cap]] w fun e w' => e = .returned (.bool (okB neg l)) ∧ Below w.heap.size w w' := by
        cases neg
        all_goals
          go_enter Tryd.func51, Tryd.ntmps51
          go_wp2
          go_loopw [3] (fun i wr => ∃ k : Nat, k ≤ l.length ∧ i = .int .i64 k ∧ Lim (l.take k) ∧ wr = w.alloc (.cells #[.bool _, .slice (some ⟨b, off, none⟩) l.length cap] 35))
            (fun i _ => l.length - (intOf i).toNat)
          case atStart => exact ⟨0, Nat.zero_le _, rfl, by simp [Lim], rfl⟩
          case round =>
            obtain ⟨k, hk, rfl, ht, rfl⟩ := hrel
            by_cases hlt : k < l.length
            · have hc := fun o => (hr' o).cell k hlt
              by_cases hin : 0 ≤ l[k] ∧ l[k] ≤ 9999
              · have hi1 := hin.1
                have hi2 := hin.2
                have hd : decide (0 ≤ l[k] ∧ l[k] ≤ 9999) = true := by simpa using hin
                have hh := fun W => l1In_any W l[k] 0 9999
                rw [hd] at hh
                have HH := hide hh
                clear hh hd hin hr hr'
                go_wp2_with (go_at_call 34; refine (unhide HH _).mono ?_; rintro e w1 ⟨rfl, rfl⟩)
                go_roundw
                case rel => exact ⟨k + 1, by omega, by go_num, by rw [List.take_succ_eq_append_getElem hlt]; exact ht.app (Lim.one hi1 (by omega)), by trivial⟩
                case measure => simp [intOf]; omega
              · have ek : ∀ neg, okB neg l = false := fun neg => okB_false (fun h => hin (by have := h.2.1.at hlt; omega))
                have Ek := hide ek
                have hd : decide (0 ≤ l[k] ∧ l[k] ≤ 9999) = false := by simpa using hin
                have hh := fun W => l1In_any W l[k] 0 9999
                rw [hd] at hh
                have HH := hide hh
                clear hh hd hin ek hr hr'
                go_wp2_with (go_at_call 34; refine (unhide HH _).mono ?_; rintro e w1 ⟨rfl, rfl⟩)
                go_ret
                exact ⟨by rw [unhide Ek]; rfl, (Below.refl _ _).alloc (Nat.le_refl _) _⟩
            · rw [List.take_of_length_le (by omega)] at ht
              have hlast := fun o => (hr' o).cell (l.length - 1) hz
              by_cases hl0 : l[l.length - 1] = 0
              · have hl0' : (l[l.length - 1] != 0) = false := by simp [hl0]
                have ek : ∀ neg, okB neg l = false := fun neg => okB_false (fun h => by have := h.2.2.2.resolve_left (fun e => by simp [e] at hp); exact this (by rw [getD_at hz]; exact hl0))
                have Ek := hide ek
                clear hl0 ek hr hr'
                go_wp2
                go_ret
                exact ⟨by rw [unhide Ek]; rfl, (Below.refl _ _).alloc (Nat.le_refl _) _⟩
              · have hl0' : (l[l.length - 1] != 0) = true := by simp [hl0]
                have ek : ∀ neg, okB neg l = true := fun neg => okB_true ⟨by omega, ht, fun e => by simp [e] at hp, .inr (by rw [getD_at hz]; exact hl0)⟩
                have Ek := hide ek
                clear hl0 ek hr hr'
                go_wp2
                go_ret
                exact ⟨by rw [unhide Ek]; rfl, (Below.refl _ _).alloc (Nat.le_refl _) _⟩
      exact core

end Go.Proofs.YtnegndajejhflaaDoor
