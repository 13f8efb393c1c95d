/- Figures at a place of a text: the specification's l3Figs by a contract. What strconv.Atoi makes of a text: numberOf by a contract; the cells of strconv's two errors. A day out of its parts, and its parts out of a day. Plain mathematics. Texts of days: what is read of them, figure by figure. Plain mathematics. -/
import Derived.Test.YtdklikicngmkbaaGreatDoorProg
import Derived.Test.YtdklikicngmkbaaGreatDoorG01
import Derived.WalkKit
import Derived.WalkSmall
import Derived.Test.YtdklikicngmkbaaGreatDoorShelf
import Derived.Lib.AtoiErrMem
import Derived.Test.YtdklikicngmkbaaGreatDoorG12
import Derived.Test.YtdklikicngmkbaaGreatDoorG13
import Derived.Lib.AtoiAllCases
namespace Go.Proofs.YtdklikicngmkbaaGreatDoor
open Go.RowKit
set_option maxRecDepth 100000

/-- A byte of a text, as a number; 0 behind its end. -/
def bt (s : ByteArray) (i : Nat) : Nat := if h : i < s.size then s[i].toNat else 0

/-- The number that so many figures from a place on are. -/
def figV (s : ByteArray) (f : Nat) : Nat → Nat
  | 0 => 0
  | k + 1 => figV s f k * 10 + (bt s (f + k) - 48)

/-- Figures stand from a place on. -/
def AreF (s : ByteArray) (f m : Nat) : Prop := ∀ j, j < m → 48 ≤ bt s (f + j) ∧ bt s (f + j) ≤ 57

theorem bt_at {s : ByteArray} {i : Nat} (h : i < s.size) : bt s i = s[i].toNat := by unfold bt; rw [dif_pos h]

theorem figV_lt {s : ByteArray} {f : Nat} : ∀ (k : Nat), AreF s f k → figV s f k < 10 ^ k
  | 0, _ => by simp [figV]
  | k + 1, h => by
    have := figV_lt k (fun j hj => h j (by omega))
    have := h k (by omega)
    simp only [figV, Nat.pow_succ]
    omega

theorem l3Figs_yes (w : World) (s : ByteArray) (f m : Nat) (hs : s.size ≤ maxLen) (hm : m ≤ 4) (hf : f + m ≤ s.size) (ha : AreF s f m) :
    Calls Tryz.prog 130 #[.string s, .int .i64 f, .int .i64 m] w fun e w' => e = .returned (.int .i64 (figV s f m)) ∧ w' = w := by
  unfold maxLen at hs
  obtain ⟨e, he⟩ : ∃ e, f + m = e := ⟨_, rfl⟩
  have hw : IntKind.i64.wrap ((f : Int) + (m : Int)) = (e : Int) := by rw [IntKind.wrap_i64]; omega
  have HE := hide he
  have hfe : f ≤ e := by omega
  have hes : e ≤ s.size := by omega
  clear he
  go_enter Tryz.func130, Tryz.ntmps130
  go_wp2
  go_loopw [7, 8] (fun nn ii wr => ∃ i n : Nat, nn = .int .i64 n ∧ ii = .int .i64 i ∧ f ≤ i ∧ i ≤ e ∧ Hid (n = figV s f (i - f)) ∧ wr = w) (fun _ ii _ => e - (intOf ii).toNat)
  case atStart => exact ⟨f, 0, rfl, rfl, Nat.le_refl _, hfe, by rw [Nat.sub_self]; rfl, rfl⟩
  case round =>
    obtain ⟨i, n, rfl, rfl, hi, hie, hn, rfl⟩ := hrel
    by_cases h : i < e
    · have hd := ha (i - f) (by have := unhide HE; omega)
      have hin : i < s.size := by omega
      rw [show f + (i - f) = i by omega, bt_at hin] at hd
      have hlt : figV s f (i - f) < 10 ^ (i - f) := figV_lt _ (fun j hj => ha j (by have := unhide HE; omega))
      have hp : 10 ^ (i - f) ≤ 10 ^ 3 := Nat.pow_le_pow_right (by decide) (by have := unhide HE; omega)
      have hnb : n < 1000 := by rw [unhide hn]; omega
      have HN := hide (show n * 10 + (s[i].toNat - 48) = figV s f (i + 1 - f) by
        rw [show i + 1 - f = (i - f) + 1 by omega]
        show _ = figV s f (i - f) * 10 + (bt s (f + (i - f)) - 48)
        rw [← unhide hn, show f + (i - f) = i by omega, bt_at hin])
      clear hlt hp
      obtain ⟨c, hc⟩ : ∃ c, s[i].toNat = c := ⟨_, rfl⟩
      rw [hc] at hd HN
      obtain ⟨h48, h57⟩ := hd
      have g0 : decide ((s.size : Int) ≤ (i : Int)) = false := by simp; omega
      have g1 : decide ((c : Int) < 48) = false := by simp; omega
      have g2 : decide (57 < (c : Int)) = false := by simp; omega
      have g3 : decide ((i : Int) < (e : Int)) = true := by simp; omega
      have w1 : IntKind.u8.wrap ((c : Int) - 48) = (c : Int) - 48 := by rw [IntKind.wrap_u8]; omega
      have w2 : IntKind.i64.wrap ((c : Int) - 48) = (c : Int) - 48 := by rw [IntKind.wrap_i64]; omega
      have w3 : IntKind.i64.wrap ((n : Int) * 10) = (n : Int) * 10 := by rw [IntKind.wrap_i64]; omega
      have w4 : IntKind.i64.wrap ((n : Int) * 10 + ((c : Int) - 48)) = (n : Int) * 10 + ((c : Int) - 48) := by rw [IntKind.wrap_i64]; omega
      have w5 : IntKind.i64.wrap ((i : Int) + 1) = (i : Int) + 1 := by rw [IntKind.wrap_i64]; omega
      go_wp2
      go_roundw
      case rel => exact ⟨i + 1, n * 10 + (c - 48), by simp; omega, by simp, by omega, by omega, HN, trivial⟩
      case measure => simp only [intOf]; omega
    · have g3 : decide ((i : Int) < (e : Int)) = false := by simp; omega
      have E := hide (show figV s f m = n by rw [unhide hn]; congr 1; have := unhide HE; omega)
      go_wp2
      go_ret
      exact ⟨congrArg (fun k : Nat => Ending.returned (.int .i64 (k : Int))) (unhide E).symm, rfl⟩

theorem l3Figs_no (w : World) (s : ByteArray) (f m : Nat) (hs : s.size ≤ maxLen) (hm : m ≤ 4) (hf : f + m ≤ s.size) (ha : ¬ AreF s f m) :
    Calls Tryz.prog 130 #[.string s, .int .i64 f, .int .i64 m] w fun e w' => e = .returned (.int .i64 (-1)) ∧ w' = w := by
  unfold maxLen at hs
  obtain ⟨e, he⟩ : ∃ e, f + m = e := ⟨_, rfl⟩
  have hw : IntKind.i64.wrap ((f : Int) + (m : Int)) = (e : Int) := by rw [IntKind.wrap_i64]; omega
  have HE := hide he
  have hfe : f ≤ e := by omega
  have hes : e ≤ s.size := by omega
  clear he
  go_enter Tryz.func130, Tryz.ntmps130
  go_wp2
  go_loopw [7, 8] (fun nn ii wr => ∃ i n : Nat, nn = .int .i64 n ∧ ii = .int .i64 i ∧ f ≤ i ∧ i ≤ e ∧ Hid (n = figV s f (i - f) ∧ AreF s f (i - f)) ∧ wr = w) (fun _ ii _ => e - (intOf ii).toNat)
  case atStart => exact ⟨f, 0, rfl, rfl, Nat.le_refl _, hfe, by rw [Nat.sub_self]; exact ⟨rfl, fun j hj => absurd hj (Nat.not_lt_zero _)⟩, rfl⟩
  case round =>
    obtain ⟨i, n, rfl, rfl, hi, hie, hn, rfl⟩ := hrel
    by_cases h : i < e
    · have hin : i < s.size := by omega
      have hlt : figV s f (i - f) < 10 ^ (i - f) := figV_lt _ (unhide hn).2
      have hp : 10 ^ (i - f) ≤ 10 ^ 3 := Nat.pow_le_pow_right (by decide) (by have := unhide HE; omega)
      have hnb : n < 1000 := by rw [(unhide hn).1]; omega
      have HN := hide (show (48 ≤ s[i].toNat ∧ s[i].toNat ≤ 57) → n * 10 + (s[i].toNat - 48) = figV s f (i + 1 - f) ∧ AreF s f (i + 1 - f) from fun hd => by
        rw [show i + 1 - f = (i - f) + 1 by omega]
        refine ⟨?_, fun j hj => ?_⟩
        · show _ = figV s f (i - f) * 10 + (bt s (f + (i - f)) - 48)
          rw [← (unhide hn).1, show f + (i - f) = i by omega, bt_at hin]
        · by_cases k : j < i - f
          · exact (unhide hn).2 j k
          · rw [show f + j = i by omega, bt_at hin]
            exact hd)
      clear hlt hp
      obtain ⟨c, hc⟩ : ∃ c, s[i].toNat = c := ⟨_, rfl⟩
      rw [hc] at HN
      have g0 : decide ((s.size : Int) ≤ (i : Int)) = false := by simp; omega
      have g3 : decide ((i : Int) < (e : Int)) = true := by simp; omega
      by_cases h48 : c < 48
      · have g1 : decide ((c : Int) < 48) = true := by simp; omega
        go_wp2
        go_ret
        exact ⟨rfl, rfl⟩
      by_cases h57 : 57 < c
      · have g1 : decide ((c : Int) < 48) = false := by simp; omega
        have g2 : decide (57 < (c : Int)) = true := by simp; omega
        go_wp2
        go_ret
        exact ⟨rfl, rfl⟩
      have g1 : decide ((c : Int) < 48) = false := by simp; omega
      have g2 : decide (57 < (c : Int)) = false := by simp; omega
      have w1 : IntKind.u8.wrap ((c : Int) - 48) = (c : Int) - 48 := by rw [IntKind.wrap_u8]; omega
      have w2 : IntKind.i64.wrap ((c : Int) - 48) = (c : Int) - 48 := by rw [IntKind.wrap_i64]; omega
      have w3 : IntKind.i64.wrap ((n : Int) * 10) = (n : Int) * 10 := by rw [IntKind.wrap_i64]; omega
      have w4 : IntKind.i64.wrap ((n : Int) * 10 + ((c : Int) - 48)) = (n : Int) * 10 + ((c : Int) - 48) := by rw [IntKind.wrap_i64]; omega
      have w5 : IntKind.i64.wrap ((i : Int) + 1) = (i : Int) + 1 := by rw [IntKind.wrap_i64]; omega
      go_wp2
      go_roundw
      case rel => exact ⟨i + 1, n * 10 + (c - 48), by simp; omega, by simp, by omega, by omega, unhide HN ⟨by omega, by omega⟩, trivial⟩
      case measure => simp only [intOf]; omega
    · exact absurd (show AreF s f m by have e1 : i - f = m := by (have := unhide HE; omega)
                                       rw [← e1]; exact (unhide hn).2) ha

end Go.Proofs.YtdklikicngmkbaaGreatDoor

namespace Go.Proofs.YtdklikicngmkbaaGreatDoor
open Go.RowKit
set_option maxRecDepth 100000

/-- strconv's two errors lie in their places. -/
structure Er (w : World) : Prop where
  syn : ∃ te pe, w.cell? ⟨3, 0, none⟩ = some (.iface te pe)
  rng : ∃ te pe, w.cell? ⟨4, 0, none⟩ = some (.iface te pe)

theorem Er.later {w w' : World} (h : Er w) (b : Below w.heap.size w w') : Er w' := by
  obtain ⟨⟨a, c, h1⟩, ⟨d, e, h2⟩⟩ := h
  exact ⟨⟨a, c, cell_later b h1⟩, ⟨d, e, cell_later b h2⟩⟩

/-- The number that a text is, or 0. -/
def numB (l : List UInt8) : Int := match Lib.atoiAll l with
  | .ok v => v
  | _ => 0

theorem numberOf_any (w : World) (s : ByteArray) (hs : s.size ≤ 281474976710656) (he : Er w) :
    Calls Tryz.prog 116 #[.string s] w fun e w' => e = .returned (.int .i64 (numB s.data.toList)) ∧ Below w.heap.size w w' := by
  obtain ⟨⟨a, c, h1⟩, ⟨d, e, h2⟩⟩ := he
  cases hA : Lib.atoiAll s.data.toList with
  | ok v =>
    have hv : numB s.data.toList = v := by unfold numB; rw [hA]
    have C := hide (Tryz.strconv_Atoi_ok s (by omega) v hA w)
    rw [hv]
    clear hA hv h1 h2
    go_enter Tryz.func116, Tryz.ntmps116
    go_wp2_with fail
    refine (unhide C).mono ?_
    rintro e w1 ⟨rfl, hw⟩
    have hb : Below w.heap.size w w1 := by
      rcases hw with rfl | ⟨t, rfl⟩
      · exact Below.refl _ _
      · exact Lib.bytesWorld_below _ _ _
    clear hw C
    go_wp2
    go_ret
    exact ⟨rfl, hb⟩
  | «syntax» =>
    have hv : numB s.data.toList = 0 := by unfold numB; rw [hA]
    have C := hide (Tryz.strconv_Atoi_syntax s hs hA _ w h1 (.inr ⟨_, _, rfl⟩))
    rw [hv]
    clear hA hv h1 h2
    go_enter Tryz.func116, Tryz.ntmps116
    go_wp2_with fail
    refine (unhide C).mono ?_
    rintro e w1 ⟨N, rfl, -, -, hb⟩
    clear C
    go_wp2
    go_ret
    exact ⟨rfl, hb⟩
  | range =>
    have hv : numB s.data.toList = 0 := by unfold numB; rw [hA]
    have C := hide (Tryz.strconv_Atoi_range s hs hA _ w h2 (.inr ⟨_, _, rfl⟩))
    rw [hv]
    clear hA hv h1 h2
    go_enter Tryz.func116, Tryz.ntmps116
    go_wp2_with fail
    refine (unhide C).mono ?_
    rintro e w1 ⟨N, rfl, -, -, hb⟩
    clear C
    go_wp2
    go_ret
    exact ⟨rfl, hb⟩

end Go.Proofs.YtdklikicngmkbaaGreatDoor

namespace Go.Proofs.YtdklikicngmkbaaGreatDoor

theorem lastR_mo {n : Int} (h : IsDay n) : lastR ((moN n : Int) / 12 + 1) ((moN n : Int) % 12 + 1) = lastM (moN n) := by
  have hl := moN_lt h.1 h.2
  unfold lastR
  rw [if_pos (show YM _ _ from ⟨by omega, by omega, by omega, by omega⟩)]
  unfold lastM
  rw [show ((moN n / 12 : Nat) : Int) = (moN n : Int) / 12 by omega, show ((moN n % 12 : Nat) : Int) = (moN n : Int) % 12 by omega]

theorem ofR_parts {n : Int} (h : IsDay n) : dayR ((moN n : Int) / 12 + 1) ((moN n : Int) % 12 + 1) (dyN n) = n := by
  have hl := moN_lt h.1 h.2
  have hd := dyN_bounds h.1 h.2
  have e := lastR_mo h
  have hy : YM ((moN n : Int) / 12 + 1) ((moN n : Int) % 12 + 1) := ⟨by omega, by omega, by omega, by omega⟩
  unfold lastR at e
  rw [if_pos hy] at e
  unfold dayR
  rw [if_pos ⟨hy, hd.1, by rw [e]; exact hd.2⟩, show moOf ((moN n : Int) / 12 + 1) ((moN n : Int) % 12 + 1) = moN n by unfold moOf; omega]
  unfold dyN; omega

theorem parts_of {y m d : Int} (h : YM y m ∧ 1 ≤ d ∧ d ≤ lastD y m) : IsDay (dayR y m d) ∧ (moN (dayR y m d) : Int) / 12 + 1 = y ∧ (moN (dayR y m d) : Int) % 12 + 1 = m ∧ dyN (dayR y m d) = d := by
  have e : dayR y m d = ahead (moOf y m) + d := if_pos h
  have hk := moOf_lt h.1
  have hc := moOf_cast h.1
  have hl := moOf_last h.1
  have s := ahead_succ (moOf y m)
  have n0 := ahead_nonneg (moOf y m)
  have up := ahead_le (show moOf y m + 1 ≤ 119988 by omega)
  rw [ahead_end] at up
  have em : moN (dayR y m d) = moOf y m := moN_of ⟨by rw [e]; omega, by rw [e, s, hl]; omega⟩
  obtain ⟨hy1, hy2, hm1, hm2⟩ := h.1
  refine ⟨⟨by rw [e]; omega, by rw [e]; omega⟩, ?_, ?_, ?_⟩
  · rw [em]; omega
  · rw [em]; omega
  · unfold dyN; rw [em, e]; omega

theorem ofR_out {y m d : Int} (h : ¬ (YM y m ∧ 1 ≤ d ∧ d ≤ lastD y m)) : dayR y m d = 0 := if_neg h

end Go.Proofs.YtdklikicngmkbaaGreatDoor

namespace Go.Proofs.YtdklikicngmkbaaGreatDoor
open Go.RowKit

theorem bt_get (s : ByteArray) (i : Nat) (h : i < s.size) : bt s i = (s.data.toList[i]'(by simpa using h)).toNat := by
  rw [bt_at h]; simp [ByteArray.getElem_eq_getElem_data]

/-- A figure as a byte. -/
def fb (n : Nat) : UInt8 := UInt8.ofNat (48 + n)

theorem fb_nat {n : Nat} (h : n < 10) : (fb n).toNat = 48 + n := by
  unfold fb
  rw [UInt8.toNat_ofNat']
  omega

theorem fb_of {b : UInt8} (h0 : 48 ≤ b.toNat) (h1 : b.toNat ≤ 57) : fb (b.toNat - 48) = b := by
  apply UInt8.toNat_inj.1
  rw [fb_nat (by omega)]
  omega

theorem wide2 {n : Nat} (h : n < 100) : wideT n 2 = [fb (n / 10), fb (n % 10)] := by
  unfold wideT fb
  by_cases k : n < 10
  · rw [dd1 k]
    rw [show n / 10 = 0 by omega, show n % 10 = n by omega]
    rfl
  · rw [dd2 (by omega) h]
    simp

theorem wide4 {n : Nat} (h : n < 10000) : wideT n 4 = [fb (n / 1000), fb (n / 100 % 10), fb (n / 10 % 10), fb (n % 10)] := by
  have e := wide_limb (x := (n : Int)) (by omega) (by omega)
  rw [Int.toNat_natCast] at e
  rw [e, limbT_eq (by omega) (by omega), Int.toNat_natCast]
  unfold fb
  rw [show n / 1000 % 10 = n / 1000 by omega]

theorem dig_step {c : UInt8} {r : List UInt8} {acc : Nat} (h0 : 48 ≤ c.toNat) (h1 : c.toNat ≤ 57) (ha : acc < 100000) : Lib.parseUint10 acc (c :: r) = Lib.parseUint10 (acc * 10 + (c.toNat - 48)) r := by
  rw [Lib.parseUint10, if_pos ⟨h0, h1⟩, if_neg (by omega), if_neg (by omega)]

theorem numB_2 {a b : UInt8} (a0 : 48 ≤ a.toNat) (a1 : a.toNat ≤ 57) (b0 : 48 ≤ b.toNat) (b1 : b.toNat ≤ 57) : numB [a, b] = (((a.toNat - 48) * 10 + (b.toNat - 48) : Nat) : Int) := by
  have e : Lib.parseMag [a, b] = .ok ((a.toNat - 48) * 10 + (b.toNat - 48)) := by
    unfold Lib.parseMag
    rw [if_neg (by simp), dig_step a0 a1 (by omega), dig_step b0 b1 (by omega), Nat.zero_mul, Nat.zero_add]
    rfl
  unfold numB
  rw [Lib.atoiAll_plain _ _ (by omega) (by omega), e]
  unfold Lib.signless
  simp only
  rw [if_neg (by omega)]

theorem numB_4 {a b c d : UInt8} (a0 : 48 ≤ a.toNat) (a1 : a.toNat ≤ 57) (b0 : 48 ≤ b.toNat) (b1 : b.toNat ≤ 57) (c0 : 48 ≤ c.toNat) (c1 : c.toNat ≤ 57) (d0 : 48 ≤ d.toNat) (d1 : d.toNat ≤ 57) :
    numB [a, b, c, d] = ((((a.toNat - 48) * 10 + (b.toNat - 48)) * 10 + (c.toNat - 48)) * 10 + (d.toNat - 48) : Nat) := by
  have e : Lib.parseMag [a, b, c, d] = .ok ((((a.toNat - 48) * 10 + (b.toNat - 48)) * 10 + (c.toNat - 48)) * 10 + (d.toNat - 48)) := by
    unfold Lib.parseMag
    rw [if_neg (by simp), dig_step a0 a1 (by omega), dig_step b0 b1 (by omega), dig_step c0 c1 (by omega), dig_step d0 d1 (by omega), Nat.zero_mul, Nat.zero_add]
    rfl
  unfold numB
  rw [Lib.atoiAll_plain _ _ (by omega) (by omega), e]
  unfold Lib.signless
  simp only
  rw [if_neg (by omega)]

/-- A text is a day's. -/
def IsDayT (s : ByteArray) (n : Int) : Prop := IsDay n ∧ dayT n = s

/-- The ten bytes of a day. -/
theorem dayT_list {n : Int} (h : IsDay n) : (dayT n).data.toList =
    (let y := moN n / 12 + 1; let m := moN n % 12 + 1; let d := (dyN n).toNat
     [fb (y / 1000), fb (y / 100 % 10), fb (y / 10 % 10), fb (y % 10), 45, fb (m / 10), fb (m % 10), 45, fb (d / 10), fb (d % 10)]) := by
  have hY : moN n / 12 + 1 < 10000 := by have := moN_lt h.1 h.2; omega
  have hD := dyN_bounds h.1 h.2
  have hL := lastM_bounds (moN n)
  unfold dayT
  rw [wide4 hY, wide2 (show moN n % 12 + 1 < 100 by omega), wide2 (show (dyN n).toNat < 100 by omega)]
  simp

theorem dayT_size {n : Int} (h : IsDay n) : (dayT n).size = 10 := by
  have := congrArg List.length (dayT_list h)
  simpa using this

/-- Ten bytes of which the fifth and the eighth are dashes, and all others figures. -/
structure DayForm (s : ByteArray) : Prop where
  size : s.size = 10
  d4 : bt s 4 = 45
  d7 : bt s 7 = 45
  y : AreF s 0 4
  m : AreF s 5 2
  d : AreF s 8 2

/-- The day that a text of that form names; 0, if there is none. -/
def dayF (s : ByteArray) : Int := dayR (figV s 0 4) (figV s 5 2) (figV s 8 2)

theorem list10 {s : ByteArray} (h : s.size = 10) : ∃ a b c d e f g i j k, s.data.toList = [a, b, c, d, e, f, g, i, j, k] := by
  have hl : s.data.toList.length = 10 := by simpa using h
  match hs : s.data.toList, hl with
  | [a, b, c, d, e, f, g, i, j, k], _ => exact ⟨a, b, c, d, e, f, g, i, j, k, rfl⟩

theorem bt_list {s : ByteArray} {l : List UInt8} (h : s.data.toList = l) (i : Nat) (hi : i < l.length) : bt s i = l[i].toNat := by
  have hs : i < s.size := by rw [← h] at hi; simpa using hi
  rw [bt_get s i hs]
  simp [h]

/-- What a day's text holds. -/
theorem dayT_form {n : Int} (h : IsDay n) : DayForm (dayT n) ∧ (figV (dayT n) 0 4 : Int) = (moN n : Int) / 12 + 1 ∧ (figV (dayT n) 5 2 : Int) = (moN n : Int) % 12 + 1 ∧ (figV (dayT n) 8 2 : Int) = dyN n := by
  have hY : moN n / 12 + 1 < 10000 := by have := moN_lt h.1 h.2; omega
  have hD := dyN_bounds h.1 h.2
  have hL := lastM_bounds (moN n)
  have hl := dayT_list h
  simp only at hl
  have hd : (dyN n).toNat < 100 := by omega
  have hm : moN n % 12 + 1 < 100 := by omega
  have ey : (moN n : Int) / 12 + 1 = ((moN n / 12 + 1 : Nat) : Int) := by omega
  have em : (moN n : Int) % 12 + 1 = ((moN n % 12 + 1 : Nat) : Int) := by omega
  have ed : dyN n = ((dyN n).toNat : Int) := by omega
  rw [ey, em, ed]
  have hs := dayT_size h
  generalize dayT n = s at *
  generalize moN n / 12 + 1 = y at *
  generalize moN n % 12 + 1 = m at *
  generalize (dyN n).toNat = d at *
  have b0 := bt_list hl 0 (by simp)
  have b1 := bt_list hl 1 (by simp)
  have b2 := bt_list hl 2 (by simp)
  have b3 := bt_list hl 3 (by simp)
  have b4 := bt_list hl 4 (by simp)
  have b5 := bt_list hl 5 (by simp)
  have b6 := bt_list hl 6 (by simp)
  have b7 := bt_list hl 7 (by simp)
  have b8 := bt_list hl 8 (by simp)
  have b9 := bt_list hl 9 (by simp)
  simp only [List.getElem_cons_zero, List.getElem_cons_succ] at b0 b1 b2 b3 b4 b5 b6 b7 b8 b9
  rw [fb_nat (by omega)] at b0 b1 b2 b3 b5 b6 b8 b9
  refine ⟨⟨hs, b4, b7, ?_, ?_, ?_⟩, ?_, ?_, ?_⟩
  · intro j hj
    match j, hj with
    | 0, _ => rw [b0]; omega
    | 1, _ => rw [b1]; omega
    | 2, _ => rw [b2]; omega
    | 3, _ => rw [b3]; omega
  · intro j hj
    match j, hj with
    | 0, _ => rw [b5]; omega
    | 1, _ => rw [b6]; omega
  · intro j hj
    match j, hj with
    | 0, _ => rw [b8]; omega
    | 1, _ => rw [b9]; omega
  · simp only [figV, Nat.zero_add, b0, b1, b2, b3]; omega
  · simp only [figV, Nat.add_zero, b5, b6]; omega
  · simp only [figV, Nat.add_zero, b8, b9]; omega

/-- A text of that form that names a day is that day's. -/
theorem form_day {s : ByteArray} (h : DayForm s) (hn : dayF s ≠ 0) : IsDayT s (dayF s) := by
  unfold dayF at *
  by_cases hin : YM (figV s 0 4) (figV s 5 2) ∧ (1 : Int) ≤ figV s 8 2 ∧ (figV s 8 2 : Int) ≤ lastD (figV s 0 4) (figV s 5 2)
  case neg => exact absurd (ofR_out hin) hn
  obtain ⟨hi, e1, e2, e3⟩ := parts_of hin
  clear hin hn
  generalize dayR (figV s 0 4) (figV s 5 2) (figV s 8 2) = N at *
  refine ⟨hi, ?_⟩
  have hl := dayT_list hi
  obtain ⟨a, b, c, d, e, f, g, i, j, k, hs⟩ := list10 h.size
  apply ByteArray.ext
  apply Array.toList_inj.1
  rw [hl, hs]
  simp only
  have b0 := bt_list hs 0 (by simp)
  have b1 := bt_list hs 1 (by simp)
  have b2 := bt_list hs 2 (by simp)
  have b3 := bt_list hs 3 (by simp)
  have b4 := bt_list hs 4 (by simp)
  have b5 := bt_list hs 5 (by simp)
  have b6 := bt_list hs 6 (by simp)
  have b7 := bt_list hs 7 (by simp)
  have b8 := bt_list hs 8 (by simp)
  have b9 := bt_list hs 9 (by simp)
  simp only [List.getElem_cons_zero, List.getElem_cons_succ] at b0 b1 b2 b3 b4 b5 b6 b7 b8 b9
  have y0 := h.y 0 (by omega)
  have y1 := h.y 1 (by omega)
  have y2 := h.y 2 (by omega)
  have y3 := h.y 3 (by omega)
  have m0 := h.m 0 (by omega)
  have m1 := h.m 1 (by omega)
  have d0 := h.d 0 (by omega)
  have d1 := h.d 1 (by omega)
  have h4 := h.d4
  have h7 := h.d7
  simp only [Nat.zero_add, Nat.add_zero, Nat.reduceAdd] at y0 y1 y2 y3 m0 m1 d0 d1
  simp only [figV, Nat.zero_add, Nat.add_zero, Nat.reduceAdd] at e1 e2 e3
  rw [b4] at h4
  rw [b7] at h7
  rw [b0] at y0 e1
  rw [b1] at y1 e1
  rw [b2] at y2 e1
  rw [b3] at y3 e1
  rw [b5] at m0 e2
  rw [b6] at m1 e2
  rw [b8] at d0 e3
  rw [b9] at d1 e3
  have E4 : (45 : UInt8) = e := UInt8.toNat_inj.1 (by rw [h4]; rfl)
  have E7 : (45 : UInt8) = i := UInt8.toNat_inj.1 (by rw [h7]; rfl)
  have D0 := dyN_bounds hi.1 hi.2
  have q0 : fb ((moN N / 12 + 1) / 1000) = a := by rw [show (moN N / 12 + 1) / 1000 = a.toNat - 48 by omega]; exact fb_of y0.1 y0.2
  have q1 : fb ((moN N / 12 + 1) / 100 % 10) = b := by rw [show (moN N / 12 + 1) / 100 % 10 = b.toNat - 48 by omega]; exact fb_of y1.1 y1.2
  have q2 : fb ((moN N / 12 + 1) / 10 % 10) = c := by rw [show (moN N / 12 + 1) / 10 % 10 = c.toNat - 48 by omega]; exact fb_of y2.1 y2.2
  have q3 : fb ((moN N / 12 + 1) % 10) = d := by rw [show (moN N / 12 + 1) % 10 = d.toNat - 48 by omega]; exact fb_of y3.1 y3.2
  have q5 : fb ((moN N % 12 + 1) / 10) = f := by rw [show (moN N % 12 + 1) / 10 = f.toNat - 48 by omega]; exact fb_of m0.1 m0.2
  have q6 : fb ((moN N % 12 + 1) % 10) = g := by rw [show (moN N % 12 + 1) % 10 = g.toNat - 48 by omega]; exact fb_of m1.1 m1.2
  have q8 : fb ((dyN N).toNat / 10) = j := by rw [show (dyN N).toNat / 10 = j.toNat - 48 by omega]; exact fb_of d0.1 d0.2
  have q9 : fb ((dyN N).toNat % 10) = k := by rw [show (dyN N).toNat % 10 = k.toNat - 48 by omega]; exact fb_of d1.1 d1.2
  rw [q0, q1, q2, q3, q5, q6, q8, q9, ← E4, ← E7]

end Go.Proofs.YtdklikicngmkbaaGreatDoor
