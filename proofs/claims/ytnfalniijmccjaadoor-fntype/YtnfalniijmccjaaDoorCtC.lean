/- A text that is cut at the first of a byte: the specification's l1Cut by a contract. -/
import Derived.Test.YtnfalniijmccjaaDoorPuS
import Derived.Test.YtnfalniijmccjaaDoorCcA
namespace Go.Proofs.YtnfalniijmccjaaDoor
open Go.RowKit
set_option maxRecDepth 100000

/-- What a call answers that hands out a list of texts of its own. -/
def GivesT (w : World) (l : List ByteArray) (e : Ending) (w' : World) : Prop :=
  ∃ g cap, e = .returned (.slice (some ⟨g, 0, none⟩) l.length cap) ∧ OwnT w.heap.size w' (.slice (some ⟨g, 0, none⟩) l.length cap) l ∧ Below w.heap.size w w'

set_option maxHeartbeats 1000000 in
theorem l1Cut_no (w : World) (s : ByteArray) (c : UInt8) (d : Nat) (hd : CAt c s d) (he : d = s.size) (hs : s.size ≤ maxLen) :
    Calls Tryd.prog 86 #[.string s, .int .u8 c.toNat, .int .i64 1] w (GivesT w [s]) := by
  unfold maxLen at hs
  have HD := hide (fun j (h : j < s.size) => hd.2.1 j h (by omega))
  clear hd he
  have HO := hide (ownT_empty w (Nat.le_refl w.heap.size))
  have B0 : Below w.heap.size w (w.alloc (.cells #[] 9)) := (Below.refl _ _).alloc (Nat.le_refl _) _
  have hsz : w.heap.size + 1 ≤ (w.alloc (.cells #[] 9)).heap.size := by rw [World.size_alloc]; exact Nat.le_refl _
  go_enter Tryd.func86, Tryd.ntmps86
  go_wp2
  generalize w.alloc (.cells #[] 9) = W0 at *
  go_loopw [7, 8, 9] (fun oo ff ii wr => ∃ i g0 cap0 : Nat, oo = .slice (some ⟨g0, 0, none⟩) 0 cap0 ∧ ff = .int .i64 0 ∧ ii = .int .i64 i ∧ i ≤ s.size ∧ Hid (OwnT w.heap.size W0 (.slice (some ⟨g0, 0, none⟩) 0 cap0) []) ∧ wr = W0) (fun _ _ ii _ => s.size - (intOf ii).toNat)
  case atStart => exact ⟨0, w.heap.size, 0, rfl, rfl, rfl, Nat.zero_le _, HO, rfl⟩
  case round =>
    obtain ⟨i, g0, cap0, rfl, rfl, rfl, hi, HO1, rfl⟩ := hrel
    clear HO
    by_cases h : i < s.size
    · have hc : ((s[i].toNat : Int) == (c.toNat : Int)) = false := by
        rw [beq_eq_false_iff_ne]
        have := unhide HD i h
        omega
      have w5 : IntKind.i64.wrap ((i : Int) + 1) = (i : Int) + 1 := by rw [IntKind.wrap_i64]; omega
      go_wp2
      go_roundw
      case rel => exact ⟨i + 1, g0, cap0, rfl, rfl, by simp, by omega, HO1, trivial⟩
      case measure => simp only [intOf]; omega
    · have g : decide ((i : Int) < (s.size : Int)) = false := by simp; omega
      go_wp2_with (at_builtin; refine wpList_pushS rfl _ _ 58 rfl Tryd.underlying58 w.heap.size _ [] _ (unhide HO1) rfl rfl (by simp) (by omega) ?_; intro g1 cap1 w1 hown1 hb1 hc1 hm1 hBg1 hgs1)
      go_ret
      exact ⟨g1, cap1, rfl, hown1, B0.trans hb1⟩

set_option maxHeartbeats 2000000 in
theorem l1Cut_yes (w : World) (s : ByteArray) (c : UInt8) (d : Nat) (hd : CAt c s d) (he : d < s.size) (hs : s.size ≤ maxLen) :
    Calls Tryd.prog 86 #[.string s, .int .u8 c.toNat, .int .i64 1] w (GivesT w [s.extract 0 d, s.extract (d + 1) s.size]) := by
  unfold maxLen at hs
  have HD := hide (fun j (h : j < s.size) (k : j < d) => hd.2.1 j h k)
  have HE := hide (hd.2.2 he)
  clear hd
  have HO := hide (ownT_empty w (Nat.le_refl w.heap.size))
  have B0 : Below w.heap.size w (w.alloc (.cells #[] 9)) := (Below.refl _ _).alloc (Nat.le_refl _) _
  have hsz : w.heap.size + 1 ≤ (w.alloc (.cells #[] 9)).heap.size := by rw [World.size_alloc]; exact Nat.le_refl _
  go_enter Tryd.func86, Tryd.ntmps86
  go_wp2
  generalize w.alloc (.cells #[] 9) = W0 at *
  go_loopw [7, 8, 9] (fun oo ff ii wr => (∃ i g0 cap0 : Nat, oo = .slice (some ⟨g0, 0, none⟩) 0 cap0 ∧ ff = .int .i64 0 ∧ ii = .int .i64 i ∧ i ≤ d ∧ Hid (OwnT w.heap.size W0 (.slice (some ⟨g0, 0, none⟩) 0 cap0) []) ∧ wr = W0) ∨
    (∃ g cap : Nat, oo = .slice (some ⟨g, 0, none⟩) 1 cap ∧ ff = .int .i64 ((d : Int) + 1) ∧ ii = .int .i64 ((d : Int) + 1) ∧ Hid (OwnT w.heap.size wr (.slice (some ⟨g, 0, none⟩) 1 cap) [s.extract 0 d]) ∧ Below w.heap.size w wr ∧ w.heap.size + 1 ≤ wr.heap.size)) (fun _ _ ii _ => s.size + 1 - (intOf ii).toNat)
  case atStart => exact .inl ⟨0, w.heap.size, 0, rfl, rfl, rfl, Nat.zero_le _, HO, rfl⟩
  case round =>
    clear HO
    rcases hrel with ⟨i, g0, cap0, rfl, rfl, rfl, hi, HO1, rfl⟩ | ⟨g0, cap0, rfl, rfl, rfl, ho, hb, hz⟩
    · have hin : i < s.size := by omega
      have w5 : IntKind.i64.wrap ((i : Int) + 1) = (i : Int) + 1 := by rw [IntKind.wrap_i64]; omega
      by_cases h : i < d
      · have hc : ((s[i].toNat : Int) == (c.toNat : Int)) = false := by
          rw [beq_eq_false_iff_ne]
          have := unhide HD i hin h
          omega
        go_wp2
        go_roundw
        case rel => exact .inl ⟨i + 1, g0, cap0, rfl, rfl, by simp, by omega, HO1, trivial⟩
        case measure => simp only [intOf]; omega
      · obtain rfl : i = d := by omega
        have hc : ((s[i].toNat : Int) == (c.toNat : Int)) = true := by
          rw [beq_iff_eq]
          have := unhide HE
          omega
        have hk2 : (0 : Int) ≤ (i : Int) := by omega
        have hk3 : (i : Int) ≤ (s.size : Int) := by omega
        go_wp2_with (at_builtin; refine wpList_pushS rfl _ _ 58 rfl Tryd.underlying58 w.heap.size _ [] _ (unhide HO1) rfl rfl (by simp) (by omega) ?_; intro g1 cap1 w1 hown1 hb1 hc1 hm1 hBg1 hgs1)
        go_roundw
        case rel => exact .inr ⟨g1, cap1, rfl, rfl, rfl, hown1, B0.trans hb1, by have := hb1.size; omega⟩
        case measure => simp only [intOf]; omega
    · have hk1 : (d : Int) + 1 ≤ (s.size : Int) := by omega
      have hk2 : (0 : Int) ≤ (d : Int) + 1 := by omega
      go_wp2_with (at_builtin; refine wpList_pushS rfl _ _ 58 rfl Tryd.underlying58 w.heap.size _ [s.extract 0 d] _ (unhide ho) rfl rfl (by simp) (by omega) ?_; intro g1 cap1 w1 hown1 hb1 hc1 hm1 hBg1 hgs1)
      all_goals
        go_ret
        exact ⟨g1, cap1, rfl, hown1, hb.trans hb1⟩

end Go.Proofs.YtnfalniijmccjaaDoor
