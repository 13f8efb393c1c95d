/- Figures of the specification: l1Wide, l1Figures. The figures of a number by the specification, by a contract. What is ok of numbers. Whether a number is ok: impl.BigOk, spec.l1Ok, spec.BigOk, by one contract. -/
import Derived.Test.YtdklikicngmkbaaGreatDoorG06
import Derived.Test.YtdklikicngmkbaaGreatDoorG01
namespace Go.Proofs.YtdklikicngmkbaaGreatDoor
open Go.RowKit

theorem bytes_cat (a b : List UInt8) : (⟨a.toArray⟩ : ByteArray) ++ ⟨b.toArray⟩ = ⟨(a ++ b).toArray⟩ := by
  simp [ByteArray.ext_iff, ByteArray.data_append]
theorem bytes_size (a : List UInt8) : (⟨a.toArray⟩ : ByteArray).size = a.length := by
  show a.toArray.size = a.length
  simp

/-- How many bytes a text has. -/
def strLen : Value → Nat
  | .string s => s.size
  | _ => 0
theorem strLen_eq (s : ByteArray) : strLen (.string s) = s.size := rfl

set_option maxRecDepth 10000 in
theorem l1Wide_any (w : World) (n wide : Nat) (hn : n ≤ 9223372036854775807) (hw : wide ≤ 1000) :
    Calls Tryz.prog 109 #[.int .i64 n, .int .i64 wide] w fun e w' => e = .returned (.string ⟨(wideT n wide).toArray⟩) ∧ Below w.heap.size w w' := by
  have C := hide (l1Dec_nat n hn w)
  have hs := dtxt_size hn
  have hsz : (dtxt n).size = (Lib.decDigits n).length := bytes_size _
  clear hn
  go_enter Tryz.func109, Tryz.ntmps109
  go_wp2_with fail
  refine (unhide C).mono ?_
  rintro e w1 ⟨rfl, b1⟩
  have HZ := hide hsz
  clear C hsz
  go_wp2
  go_loopw [5] (fun o wr => ∃ (j : Nat) (t : ByteArray), j ≤ wide - (Lib.decDigits n).length ∧ o = .string t ∧ Hid (t = ⟨(List.replicate j 48 ++ Lib.decDigits n).toArray⟩) ∧ t.size ≤ 1021 ∧ wr = w1) (fun o _ => wide - strLen o)
  case atStart => exact ⟨0, _, Nat.zero_le _, rfl, hide rfl, by omega, rfl⟩
  case round =>
    obtain ⟨j, t, hj, rfl, Ht, hts, rfl⟩ := hrel
    have hz : t.size = j + (Lib.decDigits n).length := by rw [unhide Ht, bytes_size, List.length_append, List.length_replicate]
    by_cases hlt : t.size < wide
    · have g0 : decide ((t.size : Int) < wide) = true := by simp; omega
      have E := hide (show (⟨#[48]⟩ : ByteArray) ++ t = ⟨(List.replicate (j + 1) 48 ++ Lib.decDigits n).toArray⟩ by rw [unhide Ht]; exact bytes_cat [48] _)
      have z1 : ¬ (9223372036854775807 < 1 + t.size) := by omega
      have Hz := hide hz
      clear hz HZ
      go_wp2
      go_roundw
      case rel => exact ⟨j + 1, _, by have := unhide Hz; omega, rfl, E, by rw [ByteArray.size_append]; have : (⟨#[48]⟩ : ByteArray).size = 1 := rfl; omega, by first | trivial | rfl⟩
      case measure =>
        simp only [strLen_eq, ByteArray.size_append]
        have : (⟨#[48]⟩ : ByteArray).size = 1 := rfl
        omega
    · have g0 : decide ((t.size : Int) < wide) = false := by simp; omega
      have E := hide (show t = ⟨(wideT n wide).toArray⟩ by rw [unhide Ht]; unfold wideT; rw [show j = wide - (Lib.decDigits n).length by omega])
      clear hz HZ
      go_wp2
      go_ret
      exact ⟨by rw [← unhide E]; rfl, b1⟩

end Go.Proofs.YtdklikicngmkbaaGreatDoor

namespace Go.Proofs.YtdklikicngmkbaaGreatDoor
open Go.RowKit

set_option maxHeartbeats 1000000 in
set_option maxRecDepth 10000 in
theorem l1Figures_any (w : World) (v : Value) (l : List Int) (hr : Reads w v l) (hl : Lim l) (hn : l.length ≤ 1000) :
    Calls Tryz.prog 160 #[v] w fun e w' => e = .returned (.string ⟨(txtL l).toArray⟩) ∧ Below w.heap.size w w' := by
  obtain ⟨ao, b, off, cap, rfl, hr⟩ := hr
  have h1 := hr.le
  have h2 := hr.big
  unfold maxLen at h2
  by_cases h0 : l.length = 0
  · have e : l = [] := List.length_eq_zero_iff.1 h0
    subst e
    clear hr
    go_enter Tryz.func160, Tryz.ntmps160
    go_wp2
    go_ret
    exact ⟨rfl, Below.refl _ _⟩
  · obtain rfl : ao = some ⟨b, off, none⟩ := hr.at_ (by omega)
    have e0 : ((l.length : Int) == 0) = false := by rw [beq_eq_false_iff_ne]; omega
    have HR := hide hr
    have top := hl.getD (l.length - 1)
    have ctop := hr.cell (l.length - 1) (by omega)
    have htop : l[l.length - 1] = l.getD (l.length - 1) 0 := by simp [List.getD_eq_getElem?_getD, List.getElem?_eq_getElem (show l.length - 1 < l.length by omega)]
    rw [htop] at ctop
    clear htop hr
    have E1 := hide (show dtxt (l.getD (l.length - 1) 0).toNat = ⟨(txtAt l (l.length - 1)).toArray⟩ by unfold dtxt; rw [txtAt_top (by omega)])
    generalize l.getD (l.length - 1) 0 = x at *
    obtain ⟨y, rfl⟩ : ∃ y : Nat, x = y := ⟨x.toNat, by omega⟩
    rw [Int.toNat_natCast] at E1
    have C1 := hide (l1Dec_nat y (by omega) w)
    go_enter Tryz.func160, Tryz.ntmps160
    go_wp2_with fail
    refine (unhide C1).mono ?_
    rintro e w1 ⟨rfl, b1⟩
    clear C1 ctop
    go_wp2
    go_loopw [3, 4] (fun o i wr => ∃ (k : Nat) (t : ByteArray), k < l.length ∧ i = .int .i64 ((k : Int) - 1) ∧ o = .string t ∧ Hid (t = ⟨(txtAt l k).toArray⟩) ∧ Below w.heap.size w wr) (fun _ i _ => (intOf i + 1).toNat)
    case atStart => exact ⟨l.length - 1, _, by omega, by go_num, rfl, E1, b1⟩
    case round =>
      obtain ⟨k, t, hk, rfl, rfl, Ht, B3⟩ := hrel
      clear b1 E1 top
      by_cases hz : k = 0
      · subst hz
        have E0 := hide (show t = ⟨(txtL l).toArray⟩ by rw [unhide Ht]; rw [show txtL l = txtAt l 0 from if_neg (fun e => h0 (by rw [e]; rfl))])
        go_wp2
        go_ret
        exact ⟨by rw [← unhide E0]; rfl, B3⟩
      · obtain ⟨j, rfl⟩ : ∃ j, k = j + 1 := ⟨k - 1, by omega⟩
        have g0 : decide ((0 : Int) ≤ ((j + 1 : Nat) : Int) - 1) = true := by simp
        have xj := hl.at (show j < l.length by omega)
        have cj := ((unhide HR).later B3).cell j (by omega)
        have E3 := hide (txtAt_step (l := l) (k := j) (by omega))
        generalize l[j] = x at *
        obtain ⟨z, rfl⟩ : ∃ z : Nat, x = z := ⟨x.toNat, by omega⟩
        have E4 := wide_limb xj.1 xj.2
        rw [Int.toNat_natCast] at E4
        have C1 := hide (l1Wide_any wr z 4 (by omega) (by omega))
        rw [E4] at C1
        have LT := (txtAt_len hl (j + 1) hk).1
        have L4 := limbT_len xj.1 xj.2
        have E5 := hide (show t ++ ⟨(limbT (z : Int)).toArray⟩ = ⟨(txtAt l j).toArray⟩ by rw [unhide Ht, bytes_cat, ← unhide E3])
        have Z5 : (⟨(limbT (z : Int)).toArray⟩ : ByteArray).size = 4 := by rw [bytes_size, L4]
        have Z6 : t.size ≤ 5000 := by rw [unhide Ht, bytes_size]; omega
        generalize (⟨(limbT (z : Int)).toArray⟩ : ByteArray) = q at *
        have z1 : ¬ (9223372036854775807 < t.size + q.size) := by omega
        clear E4 L4 LT Z5 Z6 E3 Ht
        go_wp2_with fail
        refine (unhide C1).mono ?_
        rintro e w3 ⟨rfl, b3⟩
        have B4 := B3.trans (b3.mono B3.size)
        clear C1 b3
        go_wp2
        go_roundw
        case rel => exact ⟨j, _, by omega, by go_num, rfl, E5, B4⟩
        case measure => simp [intOf]

end Go.Proofs.YtdklikicngmkbaaGreatDoor

namespace Go.Proofs.YtdklikicngmkbaaGreatDoor
open Go.RowKit
set_option maxRecDepth 100000


/-- A number is ok. -/
def OkBig (neg : Bool) (l : List Int) : Prop := l.length ≤ 16 ∧ Lim l ∧ (l = [] → neg = false) ∧ (l = [] ∨ l.getD (l.length - 1) 0 ≠ 0)

def okD (neg : Bool) (l : List Int) : Decidable (OkBig neg l) := by unfold OkBig Lim; exact inferInstance

def okB (neg : Bool) (l : List Int) : Bool := @decide (OkBig neg l) (okD neg l)

theorem okB_true {neg : Bool} {l : List Int} (h : OkBig neg l) : okB neg l = true := by simp [okB, h]

theorem okB_false {neg : Bool} {l : List Int} (h : ¬ OkBig neg l) : okB neg l = false := by simp [okB, h]

end Go.Proofs.YtdklikicngmkbaaGreatDoor

namespace Go.Proofs.YtdklikicngmkbaaGreatDoor
open Go.RowKit
set_option maxRecDepth 100000

theorem implBigOk_any (w : World) (neg : Bool) (v : Value) (l : List Int) (hr : Reads w v l) :
    Calls Tryz.prog 176 #[.agg #[.bool neg, v]] w fun e w' => e = .returned (.bool (okB neg l)) ∧ Below w.heap.size w w' := by
  obtain ⟨ao, b, off, cap, rfl, hr⟩ := hr
  have h1 := hr.le
  have h2 := hr.big
  unfold maxLen at h2
  by_cases h0 : l.length = 0
  · have e : l = [] := List.length_eq_zero_iff.1 h0
    have e0 : ((l.length : Int) == 0) = true := by simp [h0]
    have ek : okB neg l = !neg := by
      subst e
      cases neg
      · exact okB_true ⟨by simp, Lim.nil, fun _ => rfl, .inl rfl⟩
      · exact okB_false (fun h => by have := h.2.2.1 rfl; cases this)
    rw [ek]
    clear ek e hr h0
    go_enter Tryz.func176, Tryz.ntmps176
    go_wp2
    go_ret
    exact ⟨rfl, (Below.refl _ _).alloc (Nat.le_refl _) _⟩
  · have e0 : ((l.length : Int) == 0) = false := by simp; intro h; exact h0 (by simp [h])
    have hp : 0 < l.length := by omega
    by_cases h16 : 16 < l.length
    · rw [okB_false (fun h => by have := h.1; omega)]
      clear hr h0
      go_enter Tryz.func176, Tryz.ntmps176
      go_wp2
      go_ret
      exact ⟨rfl, (Below.refl _ _).alloc (Nat.le_refl _) _⟩
    · have hat := hr.at_ hp
      subst hat
      have hr' := fun o => hr.later ((Below.refl w.heap.size w).alloc (Nat.le_refl _) o)
      have hz : l.length - 1 < l.length := by omega
      have hlast := fun o => (hr' o).cell (l.length - 1) hz
      have hg : (decide (16 < (l.length : Int))) = false := by simp; omega
      clear h0
      by_cases hl0 : l[l.length - 1] = 0
      · have hl0' : (l[l.length - 1] == 0) = true := by simp [hl0]
        rw [okB_false (fun h => by have := h.2.2.2.resolve_left (fun e => by simp [e] at hp); exact this (by rw [getD_at hz]; exact hl0))]
        clear hl0 hr hr'
        go_enter Tryz.func176, Tryz.ntmps176
        go_wp2
        go_ret
        exact ⟨rfl, (Below.refl _ _).alloc (Nat.le_refl _) _⟩
      · have hl0' : (l[l.length - 1] == 0) = false := by simp [hl0]
        go_enter Tryz.func176, Tryz.ntmps176
        go_wp2
        go_loopw [5, 28] (fun _ i wr => ∃ k : Nat, k ≤ l.length ∧ i = .int .i64 k ∧ Lim (l.take k) ∧ wr = w.alloc (.cells #[.bool neg, .slice (some ⟨b, off, none⟩) l.length cap] 25))
          (fun _ i _ => l.length - (intOf i).toNat)
        case atStart => exact ⟨0, Nat.zero_le _, rfl, by simp [Lim], rfl⟩
        case round =>
          obtain ⟨k, hk, rfl, ht, rfl⟩ := hrel
          by_cases hlt : k < l.length
          · have hc := fun o => (hr' o).cell k hlt
            by_cases hin : 0 ≤ l[k] ∧ l[k] < 10000
            · obtain ⟨hi1, hi2⟩ := hin
              have hi3 : decide (l[k] < 0) = false := by simp; omega
              clear hr hr' hlast
              go_wp2
              go_roundw
              case rel => exact ⟨k + 1, by omega, by go_num, by rw [List.take_succ_eq_append_getElem hlt]; exact ht.app (Lim.one hi1 hi2), by trivial⟩
              case measure => simp [intOf]; omega
            · have ek : okB neg l = false := okB_false (fun h => hin (h.2.1.at hlt))
              have Ek := hide ek
              clear ek hr hr' hlast
              by_cases hn : l[k] < 0
              · have hi3 : decide (l[k] < 0) = true := by simp; omega
                clear hin
                go_wp2
                go_ret
                exact ⟨by rw [unhide Ek]; rfl, (Below.refl _ _).alloc (Nat.le_refl _) _⟩
              · have hi3 : decide (l[k] < 0) = false := by simp; omega
                have hi4 : 10000 ≤ l[k] := by omega
                clear hin
                go_wp2
                go_ret
                exact ⟨by rw [unhide Ek]; rfl, (Below.refl _ _).alloc (Nat.le_refl _) _⟩
          · have ek : okB neg l = true := by
              rw [List.take_of_length_le (by omega)] at ht
              exact okB_true ⟨by omega, ht, fun e => by simp [e] at hp, .inr (by rw [getD_at hz]; exact hl0)⟩
            have Ek := hide ek
            clear ek hr hr' hlast
            go_wp2
            go_ret
            exact ⟨by rw [unhide Ek]; rfl, (Below.refl _ _).alloc (Nat.le_refl _) _⟩

theorem l1In_any (w : World) (n a b : Int) : Calls Tryz.prog 62 #[.int .i64 n, .int .i64 a, .int .i64 b] w fun e w' => e = .returned (.bool (decide (a ≤ n ∧ n ≤ b))) ∧ w' = w := by
  by_cases h : a ≤ n
  · have h' : decide (a ≤ n) = true := by simpa using h
    by_cases k : n ≤ b
    · rw [show decide (a ≤ n ∧ n ≤ b) = true by simp [h, k]]
      go_enter Tryz.func62, Tryz.ntmps62
      go_wp2
      go_ret
      exact ⟨rfl, rfl⟩
    · rw [show decide (a ≤ n ∧ n ≤ b) = false by simp; omega]
      have k' : decide (n ≤ b) = false := by simp; omega
      go_enter Tryz.func62, Tryz.ntmps62
      go_wp2
      go_ret
      exact ⟨rfl, rfl⟩
  · have h' : decide (a ≤ n) = false := by simpa using h
    rw [show decide (a ≤ n ∧ n ≤ b) = false by simp; omega]
    go_enter Tryz.func62, Tryz.ntmps62
    go_wp2
    go_ret
    exact ⟨rfl, rfl⟩

theorem l1Ok_any (w : World) (neg : Bool) (v : Value) (l : List Int) (hr : Reads w v l) :
    Calls Tryz.prog 106 #[.agg #[.bool neg, v]] w fun e w' => e = .returned (.bool (okB neg l)) ∧ Below w.heap.size w w' := by
  obtain ⟨ao, b, off, cap, rfl, hr⟩ := hr
  have h1 := hr.le
  have h2 := hr.big
  unfold maxLen at h2
  by_cases h16 : 16 < l.length
  · rw [okB_false (fun h => by have := h.1; omega)]
    have hg : (decide (16 < (l.length : Int))) = true := by simp; omega
    clear hr
    go_enter Tryz.func106, Tryz.ntmps106
    go_wp2
    go_ret
    exact ⟨rfl, (Below.refl _ _).alloc (Nat.le_refl _) _⟩
  · have hg : (decide (16 < (l.length : Int))) = false := by simp; omega
    by_cases h0 : l.length = 0
    · have e : l = [] := List.length_eq_zero_iff.1 h0
      have e0 : ((l.length : Int) == 0) = true := by simp [h0]
      cases neg
      · have ek : okB false l = true := by subst e; exact okB_true ⟨by simp, Lim.nil, fun _ => rfl, .inl rfl⟩
        rw [ek]
        clear ek e hr
        go_enter Tryz.func106, Tryz.ntmps106
        go_wp2
        refine wp_loop_rounds 1 ?_
        rw [rounds_succ]
        go_wp2
        go_ret
        exact ⟨rfl, (Below.refl _ _).alloc (Nat.le_refl _) _⟩
      · have ek : okB true l = false := by subst e; exact okB_false (fun h => by have := h.2.2.1 rfl; cases this)
        rw [ek]
        clear ek e hr h0
        go_enter Tryz.func106, Tryz.ntmps106
        go_wp2
        go_ret
        exact ⟨rfl, (Below.refl _ _).alloc (Nat.le_refl _) _⟩
    · have e0 : ((l.length : Int) == 0) = false := by simp; intro h; exact h0 (by simp [h])
      have hp : 0 < l.length := by omega
      have hat := hr.at_ hp
      subst hat
      have hr' := fun o => hr.later ((Below.refl w.heap.size w).alloc (Nat.le_refl _) o)
      have hz : l.length - 1 < l.length := by omega
      clear h0
      have core : Calls Tryz.prog 106 #[.agg #[.bool neg, .slice (some ⟨b, off, none⟩) l.length cap]] w fun e w' => e = .returned (.bool (okB neg l)) ∧ Below w.heap.size w w' := by
        cases neg
        all_goals
          go_enter Tryz.func106, Tryz.ntmps106
          go_wp2
          go_loopw [3] (fun i wr => ∃ k : Nat, k ≤ l.length ∧ i = .int .i64 k ∧ Lim (l.take k) ∧ wr = w.alloc (.cells #[.bool _, .slice (some ⟨b, off, none⟩) l.length cap] 25))
            (fun i _ => l.length - (intOf i).toNat)
          case atStart => exact ⟨0, Nat.zero_le _, rfl, by simp [Lim], rfl⟩
          case round =>
            obtain ⟨k, hk, rfl, ht, rfl⟩ := hrel
            by_cases hlt : k < l.length
            · have hc := fun o => (hr' o).cell k hlt
              by_cases hin : 0 ≤ l[k] ∧ l[k] ≤ 9999
              · have hi1 := hin.1
                have hi2 := hin.2
                have hd : decide (0 ≤ l[k] ∧ l[k] ≤ 9999) = true := by simpa using hin
                have hh := fun W => l1In_any W l[k] 0 9999
                rw [hd] at hh
                have HH := hide hh
                clear hh hd hin hr hr'
                go_wp2_with (go_at_call 62; refine (unhide HH _).mono ?_; rintro e w1 ⟨rfl, rfl⟩)
                go_roundw
                case rel => exact ⟨k + 1, by omega, by go_num, by rw [List.take_succ_eq_append_getElem hlt]; exact ht.app (Lim.one hi1 (by omega)), by trivial⟩
                case measure => simp [intOf]; omega
              · have ek : ∀ neg, okB neg l = false := fun neg => okB_false (fun h => hin (by have := h.2.1.at hlt; omega))
                have Ek := hide ek
                have hd : decide (0 ≤ l[k] ∧ l[k] ≤ 9999) = false := by simpa using hin
                have hh := fun W => l1In_any W l[k] 0 9999
                rw [hd] at hh
                have HH := hide hh
                clear hh hd hin ek hr hr'
                go_wp2_with (go_at_call 62; refine (unhide HH _).mono ?_; rintro e w1 ⟨rfl, rfl⟩)
                go_ret
                exact ⟨by rw [unhide Ek]; rfl, (Below.refl _ _).alloc (Nat.le_refl _) _⟩
            · rw [List.take_of_length_le (by omega)] at ht
              have hlast := fun o => (hr' o).cell (l.length - 1) hz
              by_cases hl0 : l[l.length - 1] = 0
              · have hl0' : (l[l.length - 1] != 0) = false := by simp [hl0]
                have ek : ∀ neg, okB neg l = false := fun neg => okB_false (fun h => by have := h.2.2.2.resolve_left (fun e => by simp [e] at hp); exact this (by rw [getD_at hz]; exact hl0))
                have Ek := hide ek
                clear hl0 ek hr hr'
                go_wp2
                go_ret
                exact ⟨by rw [unhide Ek]; rfl, (Below.refl _ _).alloc (Nat.le_refl _) _⟩
              · have hl0' : (l[l.length - 1] != 0) = true := by simp [hl0]
                have ek : ∀ neg, okB neg l = true := fun neg => okB_true ⟨by omega, ht, fun e => by simp [e] at hp, .inr (by rw [getD_at hz]; exact hl0)⟩
                have Ek := hide ek
                clear hl0 ek hr hr'
                go_wp2
                go_ret
                exact ⟨by rw [unhide Ek]; rfl, (Below.refl _ _).alloc (Nat.le_refl _) _⟩
      exact core

end Go.Proofs.YtdklikicngmkbaaGreatDoor
