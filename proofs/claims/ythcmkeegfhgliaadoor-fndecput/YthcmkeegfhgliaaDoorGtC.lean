/- A minus ahead of a text, cut off. -/
import Derived.Test.YthcmkeegfhgliaaDoorGtA0
namespace Go.Proofs.YthcmkeegfhgliaaDoor
open Go.RowKit


/-- A text begins with a minus. -/
def negB (s : ByteArray) : Bool := decide (fstB s = 45)

/-- What stands behind the minus. -/
def restB (s : ByteArray) : ByteArray := if negB s = true then s.extract 1 s.size else s

theorem neg_pre {s : ByteArray} (h : 0 < s.size) : ((s.extract 0 1).toList == [45]) = negB s := by
  have e : (s.extract 0 1).toList = [s[0]] := by
    have hb := bytes_at s 0 h
    rw [ByteArray.toList_eq, ByteArray.data_extract, Array.toList_extract]
    cases hc : s.data.toList with
    | nil =>
      have : s.data.toList.length = s.size := by simp
      rw [hc] at this
      simp at this
      omega
    | cons x t =>
      simp only [hc, List.getElem_cons_zero] at hb
      simp [hb]
  have f : fstB s = s[0].toNat := by unfold fstB; rw [dif_pos h]
  unfold negB
  rw [e, f]
  by_cases k : s[0].toNat = 45
  · have : s[0] = 45 := UInt8.toNat_inj.1 k
    simp [this]
  · have : s[0] ≠ 45 := fun e => k (by rw [e]; rfl)
    simp [k, this]

theorem neg_no {s : ByteArray} (h : s.size = 0) : negB s = false := by
  unfold negB fstB
  rw [dif_neg (by omega)]
  rfl

theorem cutMinus_any (w : World) (s : ByteArray) (hs : s.size ≤ maxLen) :
    Calls Tryd.prog 20 #[.string s, .string ⟨#[45]⟩] w fun e w' => e = .returned (.tuple #[.string (restB s), .bool (negB s)]) ∧ w' = w := by
  unfold maxLen at hs
  by_cases h0 : s.size = 0
  · have HN := hide (neg_no h0)
    have HR := hide (show restB s = s by unfold restB; rw [unhide HN, if_neg (by simp)])
    go_enter Tryd.func20, Tryd.ntmps20
    go_wp2
    go_ret2
    exact ⟨by rw [unhide HN, unhide HR]; rfl, rfl⟩
  · have hp : 0 < s.size := by omega
    have HP := neg_pre hp
    cases hn : negB s with
    | false =>
      rw [hn] at HP
      have HN := hide hn
      have HR := hide (show restB s = s by unfold restB; rw [hn, if_neg (by simp)])
      clear hn
      go_enter Tryd.func20, Tryd.ntmps20
      go_wp2
      go_ret2
      exact ⟨by rw [unhide HR]; rfl, rfl⟩
    | true =>
      rw [hn] at HP
      have HN := hide hn
      have HR := hide (show restB s = s.extract 1 s.size by unfold restB; rw [hn, if_pos rfl])
      clear hn
      go_enter Tryd.func20, Tryd.ntmps20
      go_wp2
      go_ret2
      exact ⟨by rw [unhide HR]; rfl, rfl⟩

-- TAIL

end Go.Proofs.YthcmkeegfhgliaaDoor
