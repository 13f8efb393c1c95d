/- Where a text stands in a list of texts: slices.Index by a contract. -/
import Derived.Test.YtnfalniijmccjaaDoorPuS
namespace Go.Proofs.YtnfalniijmccjaaDoor
open Go.RowKit
set_option maxRecDepth 100000

/-- The first place of a text from place i on; -1, if there is none. -/
def ixFrom (v : ByteArray) : Nat → List ByteArray → Int
  | _, [] => -1
  | i, s :: r => if v = s then (i : Int) else ixFrom v (i + 1) r

theorem txtE {s t : ByteArray} (h : s ≠ t) : (s.toList == t.toList) = false := by
  rw [beq_eq_false_iff_ne]
  intro k
  rw [ByteArray.toList_eq, ByteArray.toList_eq] at k
  exact h (ByteArray.ext (Array.toList_inj.1 k))

set_option maxHeartbeats 1000000 in
theorem indexS_any (w : World) (g cap : Nat) (l : List ByteArray) (v : ByteArray) (hl : l.length ≤ cap) (hc : cap ≤ 1000000) (hcell : ∀ i (h : i < l.length), w.cell? ⟨g, i, none⟩ = some (.string l[i])) :
    Calls Tryd.prog 57 #[.slice (some ⟨g, 0, none⟩) l.length cap, .string v] w fun e w' => e = .returned (.int .i64 (ixFrom v 0 l)) ∧ w' = w := by
  have HC := hide hcell
  clear hcell
  obtain ⟨n, hn⟩ : ∃ n, l.length = n := ⟨_, rfl⟩
  have HN := hide hn
  rw [hn] at hl
  rw [hn]
  clear hn
  go_enter Tryd.func57, Tryd.ntmps57
  go_wp2
  go_loopw [8] (fun ii wr => ∃ i : Nat, ii = .int .i64 i ∧ i ≤ n ∧ Hid (ixFrom v 0 l = ixFrom v i (l.drop i)) ∧ wr = w) (fun ii _ => n - (intOf ii).toNat)
  case atStart => exact ⟨0, rfl, Nat.zero_le _, hide (by rw [List.drop_zero]), rfl⟩
  case round =>
    obtain ⟨i, rfl, hi, hx, rfl⟩ := hrel
    by_cases h : i < n
    · have hil : i < l.length := by have := unhide HN; omega
      have c0 := unhide HC i hil
      have hd : l.drop i = l[i] :: l.drop (i + 1) := List.drop_eq_getElem_cons hil
      have w5 : IntKind.i64.wrap ((i : Int) + 1) = (i : Int) + 1 := by rw [IntKind.wrap_i64]; omega
      have h2 : i < cap := by omega
      have hx2 := unhide hx
      rw [hd] at hx2
      clear hd hx
      generalize l[i] = s at *
      by_cases e : v = s
      · have e1 : (v.toList == s.toList) = true := by simp [e]
        have E := hide (show ixFrom v 0 l = (i : Int) by rw [hx2]; unfold ixFrom; rw [if_pos e])
        clear e hx2
        go_wp2
        go_ret
        exact ⟨congrArg (fun k : Int => Ending.returned (.int .i64 k)) (unhide E).symm, rfl⟩
      · have e1 := txtE e
        have E := hide (show ixFrom v 0 l = ixFrom v (i + 1) (l.drop (i + 1)) by rw [hx2]; conv => lhs; unfold ixFrom; rw [if_neg e])
        clear e hx2
        go_wp2
        go_roundw
        case rel => exact ⟨i + 1, by simp, by omega, E, trivial⟩
        case measure => simp only [intOf]; omega
    · have E := hide (show ixFrom v 0 l = -1 by
        rw [unhide hx, List.drop_of_length_le (by have := unhide HN; omega)]
        rfl)
      go_wp2
      go_ret
      exact ⟨congrArg (fun k : Int => Ending.returned (.int .i64 k)) (unhide E).symm, rfl⟩

end Go.Proofs.YtnfalniijmccjaaDoor
