/- Figures of the specification: l1Wide, l1Figures. -/
import Derived.Test.YtnegndajejhflaaDoorTxM
namespace Go.Proofs.YtnegndajejhflaaDoor
open Go.RowKit

theorem bytes_cat (a b : List UInt8) : (⟨a.toArray⟩ : ByteArray) ++ ⟨b.toArray⟩ = ⟨(a ++ b).toArray⟩ := by
  simp [ByteArray.ext_iff, ByteArray.data_append]
theorem bytes_size (a : List UInt8) : (⟨a.toArray⟩ : ByteArray).size = a.length := by
  show a.toArray.size = a.length
  simp

/-- How many bytes a text has. -/
def strLen : Value → Nat
  | .string s => s.size
  | _ => 0
theorem strLen_eq (s : ByteArray) : strLen (.string s) = s.size := rfl

set_option maxRecDepth 10000 in
theorem l1Wide_any (w : World) (n wide : Nat) (hn : n ≤ 9223372036854775807) (hw : wide ≤ 1000) :
    Calls Tryd.prog 59 #[.int .i64 n, .int .i64 wide] w fun e w' => e = .returned (.string ⟨(wideT n wide).toArray⟩) ∧ Below w.heap.size w w' := by
  have C := hide (l1Dec_nat n hn w)
  have hs := dtxt_size hn
  have hsz : (dtxt n).size = (Lib.decDigits n).length := bytes_size _
  clear hn
  go_enter Tryd.func59, Tryd.ntmps59
  go_wp2_with fail
  refine (unhide C).mono ?_
  rintro e w1 ⟨rfl, b1⟩
  have HZ := hide hsz
  clear C hsz
  go_wp2
  go_loopw [5] (fun o wr => ∃ (j : Nat) (t : ByteArray), j ≤ wide - (Lib.decDigits n).length ∧ o = .string t ∧ Hid (t = ⟨(List.replicate j 48 ++ Lib.decDigits n).toArray⟩) ∧ t.size ≤ 1021 ∧ wr = w1) (fun o _ => wide - strLen o)
  case atStart => exact ⟨0, _, Nat.zero_le _, rfl, hide rfl, by omega, rfl⟩
  case round =>
    obtain ⟨j, t, hj, rfl, Ht, hts, rfl⟩ := hrel
    have hz : t.size = j + (Lib.decDigits n).length := by rw [unhide Ht, bytes_size, List.length_append, List.length_replicate]
    by_cases hlt : t.size < wide
    · have g0 : decide ((t.size : Int) < wide) = true := by simp; omega
      have E := hide (show (⟨#[48]⟩ : ByteArray) ++ t = ⟨(List.replicate (j + 1) 48 ++ Lib.decDigits n).toArray⟩ by rw [unhide Ht]; exact bytes_cat [48] _)
      have z1 : ¬ (9223372036854775807 < 1 + t.size) := by omega
      have Hz := hide hz
      clear hz HZ
      go_wp2
      go_roundw
      case rel => exact ⟨j + 1, _, by have := unhide Hz; omega, rfl, E, by rw [ByteArray.size_append]; have : (⟨#[48]⟩ : ByteArray).size = 1 := rfl; omega, by first | trivial | rfl⟩
      case measure =>
        simp only [strLen_eq, ByteArray.size_append]
        have : (⟨#[48]⟩ : ByteArray).size = 1 := rfl
        omega
    · have g0 : decide ((t.size : Int) < wide) = false := by simp; omega
      have E := hide (show t = ⟨(wideT n wide).toArray⟩ by rw [unhide Ht]; unfold wideT; rw [show j = wide - (Lib.decDigits n).length by omega])
      clear hz HZ
      go_wp2
      go_ret
      exact ⟨by rw [← unhide E]; rfl, b1⟩

end Go.Proofs.YtnegndajejhflaaDoor
