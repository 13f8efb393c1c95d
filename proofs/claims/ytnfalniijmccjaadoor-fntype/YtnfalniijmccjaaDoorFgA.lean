/- Figures at a place of a text: the specification's l3Figs by a contract. -/
import Derived.Test.YtnfalniijmccjaaDoorProg
import Derived.Test.YtnfalniijmccjaaDoorBase
import Derived.WalkKit
import Derived.WalkSmall
namespace Go.Proofs.YtnfalniijmccjaaDoor
open Go.RowKit
set_option maxRecDepth 100000

/-- A byte of a text, as a number; 0 behind its end. -/
def bt (s : ByteArray) (i : Nat) : Nat := if h : i < s.size then s[i].toNat else 0

/-- The number that so many figures from a place on are. -/
def figV (s : ByteArray) (f : Nat) : Nat → Nat
  | 0 => 0
  | k + 1 => figV s f k * 10 + (bt s (f + k) - 48)

/-- Figures stand from a place on. -/
def AreF (s : ByteArray) (f m : Nat) : Prop := ∀ j, j < m → 48 ≤ bt s (f + j) ∧ bt s (f + j) ≤ 57

theorem bt_at {s : ByteArray} {i : Nat} (h : i < s.size) : bt s i = s[i].toNat := by unfold bt; rw [dif_pos h]

theorem figV_lt {s : ByteArray} {f : Nat} : ∀ (k : Nat), AreF s f k → figV s f k < 10 ^ k
  | 0, _ => by simp [figV]
  | k + 1, h => by
    have := figV_lt k (fun j hj => h j (by omega))
    have := h k (by omega)
    simp only [figV, Nat.pow_succ]
    omega

theorem l3Figs_yes (w : World) (s : ByteArray) (f m : Nat) (hs : s.size ≤ maxLen) (hm : m ≤ 4) (hf : f + m ≤ s.size) (ha : AreF s f m) :
    Calls Tryd.prog 81 #[.string s, .int .i64 f, .int .i64 m] w fun e w' => e = .returned (.int .i64 (figV s f m)) ∧ w' = w := by
  unfold maxLen at hs
  obtain ⟨e, he⟩ : ∃ e, f + m = e := ⟨_, rfl⟩
  have hw : IntKind.i64.wrap ((f : Int) + (m : Int)) = (e : Int) := by rw [IntKind.wrap_i64]; omega
  have HE := hide he
  have hfe : f ≤ e := by omega
  have hes : e ≤ s.size := by omega
  clear he
  go_enter Tryd.func81, Tryd.ntmps81
  go_wp2
  go_loopw [7, 8] (fun nn ii wr => ∃ i n : Nat, nn = .int .i64 n ∧ ii = .int .i64 i ∧ f ≤ i ∧ i ≤ e ∧ Hid (n = figV s f (i - f)) ∧ wr = w) (fun _ ii _ => e - (intOf ii).toNat)
  case atStart => exact ⟨f, 0, rfl, rfl, Nat.le_refl _, hfe, by rw [Nat.sub_self]; rfl, rfl⟩
  case round =>
    obtain ⟨i, n, rfl, rfl, hi, hie, hn, rfl⟩ := hrel
    by_cases h : i < e
    · have hd := ha (i - f) (by have := unhide HE; omega)
      have hin : i < s.size := by omega
      rw [show f + (i - f) = i by omega, bt_at hin] at hd
      have hlt : figV s f (i - f) < 10 ^ (i - f) := figV_lt _ (fun j hj => ha j (by have := unhide HE; omega))
      have hp : 10 ^ (i - f) ≤ 10 ^ 3 := Nat.pow_le_pow_right (by decide) (by have := unhide HE; omega)
      have hnb : n < 1000 := by rw [unhide hn]; omega
      have HN := hide (show n * 10 + (s[i].toNat - 48) = figV s f (i + 1 - f) by
        rw [show i + 1 - f = (i - f) + 1 by omega]
        show _ = figV s f (i - f) * 10 + (bt s (f + (i - f)) - 48)
        rw [← unhide hn, show f + (i - f) = i by omega, bt_at hin])
      clear hlt hp
      obtain ⟨c, hc⟩ : ∃ c, s[i].toNat = c := ⟨_, rfl⟩
      rw [hc] at hd HN
      obtain ⟨h48, h57⟩ := hd
      have g0 : decide ((s.size : Int) ≤ (i : Int)) = false := by simp; omega
      have g1 : decide ((c : Int) < 48) = false := by simp; omega
      have g2 : decide (57 < (c : Int)) = false := by simp; omega
      have g3 : decide ((i : Int) < (e : Int)) = true := by simp; omega
      have w1 : IntKind.u8.wrap ((c : Int) - 48) = (c : Int) - 48 := by rw [IntKind.wrap_u8]; omega
      have w2 : IntKind.i64.wrap ((c : Int) - 48) = (c : Int) - 48 := by rw [IntKind.wrap_i64]; omega
      have w3 : IntKind.i64.wrap ((n : Int) * 10) = (n : Int) * 10 := by rw [IntKind.wrap_i64]; omega
      have w4 : IntKind.i64.wrap ((n : Int) * 10 + ((c : Int) - 48)) = (n : Int) * 10 + ((c : Int) - 48) := by rw [IntKind.wrap_i64]; omega
      have w5 : IntKind.i64.wrap ((i : Int) + 1) = (i : Int) + 1 := by rw [IntKind.wrap_i64]; omega
      go_wp2
      go_roundw
      case rel => exact ⟨i + 1, n * 10 + (c - 48), by simp; omega, by simp, by omega, by omega, HN, trivial⟩
      case measure => simp only [intOf]; omega
    · have g3 : decide ((i : Int) < (e : Int)) = false := by simp; omega
      have E := hide (show figV s f m = n by rw [unhide hn]; congr 1; have := unhide HE; omega)
      go_wp2
      go_ret
      exact ⟨congrArg (fun k : Nat => Ending.returned (.int .i64 (k : Int))) (unhide E).symm, rfl⟩

theorem l3Figs_no (w : World) (s : ByteArray) (f m : Nat) (hs : s.size ≤ maxLen) (hm : m ≤ 4) (hf : f + m ≤ s.size) (ha : ¬ AreF s f m) :
    Calls Tryd.prog 81 #[.string s, .int .i64 f, .int .i64 m] w fun e w' => e = .returned (.int .i64 (-1)) ∧ w' = w := by
  unfold maxLen at hs
  obtain ⟨e, he⟩ : ∃ e, f + m = e := ⟨_, rfl⟩
  have hw : IntKind.i64.wrap ((f : Int) + (m : Int)) = (e : Int) := by rw [IntKind.wrap_i64]; omega
  have HE := hide he
  have hfe : f ≤ e := by omega
  have hes : e ≤ s.size := by omega
  clear he
  go_enter Tryd.func81, Tryd.ntmps81
  go_wp2
  go_loopw [7, 8] (fun nn ii wr => ∃ i n : Nat, nn = .int .i64 n ∧ ii = .int .i64 i ∧ f ≤ i ∧ i ≤ e ∧ Hid (n = figV s f (i - f) ∧ AreF s f (i - f)) ∧ wr = w) (fun _ ii _ => e - (intOf ii).toNat)
  case atStart => exact ⟨f, 0, rfl, rfl, Nat.le_refl _, hfe, by rw [Nat.sub_self]; exact ⟨rfl, fun j hj => absurd hj (Nat.not_lt_zero _)⟩, rfl⟩
  case round =>
    obtain ⟨i, n, rfl, rfl, hi, hie, hn, rfl⟩ := hrel
    by_cases h : i < e
    · have hin : i < s.size := by omega
      have hlt : figV s f (i - f) < 10 ^ (i - f) := figV_lt _ (unhide hn).2
      have hp : 10 ^ (i - f) ≤ 10 ^ 3 := Nat.pow_le_pow_right (by decide) (by have := unhide HE; omega)
      have hnb : n < 1000 := by rw [(unhide hn).1]; omega
      have HN := hide (show (48 ≤ s[i].toNat ∧ s[i].toNat ≤ 57) → n * 10 + (s[i].toNat - 48) = figV s f (i + 1 - f) ∧ AreF s f (i + 1 - f) from fun hd => by
        rw [show i + 1 - f = (i - f) + 1 by omega]
        refine ⟨?_, fun j hj => ?_⟩
        · show _ = figV s f (i - f) * 10 + (bt s (f + (i - f)) - 48)
          rw [← (unhide hn).1, show f + (i - f) = i by omega, bt_at hin]
        · by_cases k : j < i - f
          · exact (unhide hn).2 j k
          · rw [show f + j = i by omega, bt_at hin]
            exact hd)
      clear hlt hp
      obtain ⟨c, hc⟩ : ∃ c, s[i].toNat = c := ⟨_, rfl⟩
      rw [hc] at HN
      have g0 : decide ((s.size : Int) ≤ (i : Int)) = false := by simp; omega
      have g3 : decide ((i : Int) < (e : Int)) = true := by simp; omega
      by_cases h48 : c < 48
      · have g1 : decide ((c : Int) < 48) = true := by simp; omega
        go_wp2
        go_ret
        exact ⟨rfl, rfl⟩
      by_cases h57 : 57 < c
      · have g1 : decide ((c : Int) < 48) = false := by simp; omega
        have g2 : decide (57 < (c : Int)) = true := by simp; omega
        go_wp2
        go_ret
        exact ⟨rfl, rfl⟩
      have g1 : decide ((c : Int) < 48) = false := by simp; omega
      have g2 : decide (57 < (c : Int)) = false := by simp; omega
      have w1 : IntKind.u8.wrap ((c : Int) - 48) = (c : Int) - 48 := by rw [IntKind.wrap_u8]; omega
      have w2 : IntKind.i64.wrap ((c : Int) - 48) = (c : Int) - 48 := by rw [IntKind.wrap_i64]; omega
      have w3 : IntKind.i64.wrap ((n : Int) * 10) = (n : Int) * 10 := by rw [IntKind.wrap_i64]; omega
      have w4 : IntKind.i64.wrap ((n : Int) * 10 + ((c : Int) - 48)) = (n : Int) * 10 + ((c : Int) - 48) := by rw [IntKind.wrap_i64]; omega
      have w5 : IntKind.i64.wrap ((i : Int) + 1) = (i : Int) + 1 := by rw [IntKind.wrap_i64]; omega
      go_wp2
      go_roundw
      case rel => exact ⟨i + 1, n * 10 + (c - 48), by simp; omega, by simp, by omega, by omega, unhide HN ⟨by omega, by omega⟩, trivial⟩
      case measure => simp only [intOf]; omega
    · exact absurd (show AreF s f m by have e1 : i - f = m := by (have := unhide HE; omega)
                                       rw [← e1]; exact (unhide hn).2) ha

end Go.Proofs.YtnfalniijmccjaaDoor
