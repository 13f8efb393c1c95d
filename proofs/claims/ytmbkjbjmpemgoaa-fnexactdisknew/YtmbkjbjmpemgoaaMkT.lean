/- The text of a mark. -/
import Derived.Test.YtmbkjbjmpemgoaaProg
import Derived.Test.YtmbkjbjmpemgoaaBase
import Derived.WalkLawsBesides
import Derived.Deep.QuietTactic
import Derived.BigQuiet
import Derived.WalkSmall
namespace Go.Proofs.Ytmbkjbjmpemgoaa
open Go.RowKit

/-- The figures of a number ahead of a text. -/
def markTo : Nat → Nat → ByteArray → ByteArray
  | 0, _, out => out
  | k + 1, n, out => if n = 0 then out else markTo k (n / 10) (ByteArray.mk #[48 + UInt8.ofNat (n % 10)] ++ out)
/-- The figures of a number ahead of a text, all of them. -/
def markLoop (n : Nat) (out : ByteArray) : ByteArray := markTo n n out

theorem markTo_enough : ∀ (k j n : Nat) (o : ByteArray), n ≤ k → n ≤ j → markTo k n o = markTo j n o
  | 0, 0, _, _, _, _ => rfl
  | 0, j + 1, n, _, h, _ => by
    have e : n = 0 := by omega
    subst e
    simp [markTo]
  | k + 1, 0, n, _, _, h => by
    have e : n = 0 := by omega
    subst e
    simp [markTo]
  | k + 1, j + 1, n, o, h, h' => by
    by_cases e : n = 0
    · subst e
      simp [markTo]
    · have d : n / 10 < n := Nat.div_lt_self (by omega) (by omega)
      rw [markTo, markTo, if_neg e, if_neg e, markTo_enough k j (n / 10) _ (by omega) (by omega)]

theorem markLoop_eq (n : Nat) (o : ByteArray) : markLoop n o = if _h : n = 0 then o else markLoop (n / 10) (ByteArray.mk #[48 + UInt8.ofNat (n % 10)] ++ o) := by
  by_cases e : n = 0
  · subst e
    simp [markLoop, markTo]
  · have d : n / 10 < n := Nat.div_lt_self (by omega) (by omega)
    obtain ⟨k, rfl⟩ : ∃ k, n = k + 1 := ⟨n - 1, by omega⟩
    rw [dif_neg e]
    unfold markLoop
    conv => lhs; rw [markTo]
    rw [if_neg e, markTo_enough k _ ((k + 1) / 10) _ (by omega) (Nat.le_refl _)]

/-- The text of a mark. -/
def markT (n : Nat) : ByteArray := ByteArray.mk #[109] ++ markLoop n ByteArray.empty

theorem markLoop_size (n : Nat) : ∀ o : ByteArray, (markLoop n o).size ≤ o.size + n := by
  induction n using Nat.strongRecOn with
  | ind n ih =>
    intro o
    rw [markLoop_eq]
    split
    · omega
    · have := ih (n / 10) (by omega) (ByteArray.mk #[48 + UInt8.ofNat (n % 10)] ++ o)
      rw [ByteArray.size_append, show (ByteArray.mk #[48 + UInt8.ofNat (n % 10)]).size = 1 from rfl] at this
      omega

theorem markT_size (n : Nat) (h : n ≤ 4194304) : (markT n).size ≤ maxLen := by
  have := markLoop_size n ByteArray.empty
  rw [show ByteArray.empty.size = 0 from rfl] at this
  unfold markT maxLen
  rw [ByteArray.size_append, show (ByteArray.mk #[109]).size = 1 from rfl]
  omega

theorem convM (W : World) (b v : Nat) (hv : v < 256) (z : Int) (hz : z = v) (hc : W.cell? ⟨b, 0, none⟩ = some (.int .u8 z)) : Sem.run Try.prog (convert 61 9 (.slice (some ⟨b, 0, none⟩) 1 1)) W = .ok (.string ⟨#[UInt8.ofNat v]⟩) W := by
  subst hz
  refine run_convert_bytes_back _ 61 9 5 ⟨b, 0, none⟩ 1 [UInt8.ofNat v] Try.underlying61 Try.underlying5 Try.underlying9 (fun j hj => ?_)
  have : j = 0 := by simpa using hj
  subst this
  simp only [Addr.add] at *
  simp [hc]
  omega

theorem markText_any (w : World) (n : Nat) (h0 : 0 < n) (h1 : n ≤ 4194304) :
    Calls Try.prog 36 #[.int .i64 n] w fun e w' => e = .returned (.string (markT n)) ∧ Below w.heap.size w w' := by
  have g0 : decide ((n : Int) ≤ 0) = false := by simp; omega
  go_enter Try.func36, Try.ntmps36
  go_wp2
  go_loopw [0, 3] (fun q o wr => ∃ (k : Nat) (s : ByteArray), k ≤ n ∧ q = .int .i64 k ∧ o = .string s ∧ markLoop k s = markLoop n ByteArray.empty ∧ s.size + k ≤ n ∧ Below w.heap.size w wr) (fun q _ _ => (intOf q).toNat)
  case atStart => exact ⟨n, _, Nat.le_refl _, rfl, rfl, rfl, Nat.le_of_eq (Nat.zero_add n), Below.refl _ _⟩
  case round =>
    obtain ⟨k, s, hk, rfl, rfl, hl, hsz, hbel⟩ := hrel
    have Hl := hide hl
    clear hl
    by_cases hz : k = 0
    · subst hz
      go_wp2
      go_ret
      refine ⟨?_, hbel⟩
      have := unhide Hl
      rw [markLoop_eq, dif_pos rfl] at this
      rw [this]
      rfl
    · have hz' : decide ((0 : Int) < k) = true := by simp; omega
      have hcv := convM (wr.alloc (.cells #[.int .u8 (48 + (k : Int) % 10)] 5)) wr.heap.size (48 + k % 10) (by omega) (48 + (k : Int) % 10) (by omega) (by simp)
      have hone : (ByteArray.mk #[48 + UInt8.ofNat (k % 10)]).size = 1 := rfl
      go_wp2
      go_roundw
      case rel =>
        refine ⟨k / 10, _, by omega, by go_num, rfl, ?_, ?_, hbel.alloc hbel.size _⟩
        · rw [← unhide Hl]
          conv => rhs; rw [markLoop_eq, dif_neg hz]
        · rw [ByteArray.size_append, hone]; omega
      case measure => simp [intOf]; omega

end Go.Proofs.Ytmbkjbjmpemgoaa
