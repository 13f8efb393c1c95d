/- A copy of numbers; how large they are. -/
import Derived.Test.YtdefhpegabifjaaDoorLawI0
import Derived.Test.YtdefhpegabifjaaDoorKit1
namespace Go.Proofs.YtdefhpegabifjaaDoor
open Go.RowKit


theorem toIntS_any (w : World) (v : Value) (l : List Int) (hr : Reads w v l) (hl : l.length ≤ 1048576) :
    Calls Tryd.prog 20 #[v] w (Gives w l) := by
  obtain ⟨ao, b, off, cap, rfl, hr⟩ := hr
  obtain ⟨i0, hi, hz0, hz1, hz2⟩ := info_parts Tryd.info3
  go_enter Tryd.func20, Tryd.ntmps20
  go_wp2_with (at_make; refine wpList_make_full _ rfl _ _ 23 rfl w.heap.size 3 i0 (.int .i64 0) 1 Tryd.underlying23 hi hz0 hz1 _ _ _ _ l.length rfl rfl rfl rfl ?b2 ?b3 (Nat.le_refl _) ?_)
  case b2 => rw [hz2]; omega
  case b3 => unfold maxLen; omega
  intro w0 hown0 hgrow0
  go_wp2
  have hm0 : (madeCells #[Value.int .i64 0] l.length).toList = ints (List.replicate l.length 0) := by rw [toList_madeCells_one, ints_zeros]
  rw [hm0] at hown0
  go_loopw [4] (fun i wr => ∃ (k : Nat) (m : List Int), k ≤ l.length ∧ i = .int .i64 k ∧ m.length = l.length ∧ m.take k = l.take k ∧ wr.ownsRow w.heap.size 3 1 (.slice (some ⟨w.heap.size, 0, none⟩) l.length l.length) l.length (ints m) ∧ Below w.heap.size w wr)
    (fun i _ => l.length - (intOf i).toNat)
  case atStart => exact ⟨0, _, Nat.zero_le _, rfl, by simp, by simp, hown0, (Below.refl _ _).grown hgrow0 (Nat.le_refl _) (fun k h => by cases h)⟩
  case round =>
    obtain ⟨k, m, hk, rfl, hm, ht, hown, hbel⟩ := hrel
    by_cases hlt : k < l.length
    · have hc := (hr.later hbel).cell k hlt
      have hd := hown.cellAt k (by omega)
      rw [ints_at (by omega)] at hd
      have hf := hown.frozenAt k
      obtain ⟨hst, hgr⟩ := hown.stored k (.int .i64 l[k])
      rw [ints_set] at hst
      have hat := hr.at_ (by omega)
      subst hat
      clear hown hr
      go_wp2
      go_roundw
      case rel => exact ⟨k + 1, _, by omega, by go_num, by simpa using hm, take_set_succ ht hlt (by omega), hst, hbel.setCell (Nat.le_refl _) _⟩
      case measure => simp [intOf]; omega
    · go_wp2
      go_ret
      have e : m = l := by rw [List.take_of_length_le (by omega), List.take_of_length_le (by omega)] at ht; exact ht
      subst e
      exact Gives.of hown hbel

/-- The size of a slice is taken away from what is left. -/
theorem szIntS_any (w : World) (v : Value) (l : List Int) (left : Int) (hr : Reads w v l) (h0 : 0 ≤ left) (h1 : left ≤ 1048576) :
    Calls Tryd.prog 15 #[v, .int .i64 left] w fun e w' => e = .returned (.int .i64 (if left < l.length then -1 else left - l.length)) ∧ w' = w := by
  obtain ⟨ao, b, off, cap, rfl, hr⟩ := hr
  have hb := hr.le
  have hm := hr.big
  unfold maxLen at hm
  clear hr
  by_cases h : left < l.length
  · rw [if_pos h]
    go_enter Tryd.func15, Tryd.ntmps15
    go_wp2
    go_ret
    exact ⟨rfl, rfl⟩
  · rw [if_neg h]
    go_enter Tryd.func15, Tryd.ntmps15
    go_wp2
    go_ret
    exact ⟨rfl, rfl⟩

end Go.Proofs.YtdefhpegabifjaaDoor
