/- A new disk, by the program and by the specification. -/
import Derived.Test.YtmbkjbjmpemgoaaDkC
namespace Go.Proofs.Ytmbkjbjmpemgoaa
open Go.RowKit

def noTexts : List ByteArray := List.replicate 42 ByteArray.empty
theorem noTexts_len : noTexts.length = 42 := List.length_replicate
theorem noTexts_siz : ∀ i (h : i < noTexts.length), noTexts[i].size ≤ maxLen := fun i h => by
  have : noTexts[i] = ByteArray.empty := List.getElem_replicate _
  rw [this]
  exact Nat.zero_le _

theorem implDiskNew_any (w : World) : Calls Try.prog 7 #[] w (GivesDisk w noTexts [] (-1) (-1)) := by
  obtain ⟨i0, hi, hz0, hz1, hz2⟩ := info_parts Try.infoS
  go_enter Try.func7, Try.ntmps7
  go_wp2_with (at_make; refine wpList_make_full _ rfl _ _ 22 rfl _ 9 i0 (.string ByteArray.empty) 1 Try.underlying22 hi hz0 hz1 _ _ _ _ 42 rfl rfl rfl rfl ?b2 ?b3 (Nat.le_refl _) ?_)
  case b2 => rw [hz2]; omega
  case b3 => unfold maxLen; omega
  intro w0 hown0 hgrow0
  have hm0 : (madeCells #[Value.string ByteArray.empty] 42).toList = strs noTexts := by rw [toList_madeCells_one, strs_empty]; rfl
  rw [hm0] at hown0
  have ho : OwnS (w.heap.size + 1) w0 (.slice (some ⟨w.heap.size + 1, 0, none⟩) noTexts.length 42) noTexts := by unfold OwnS; rw [noTexts_len]; exact hown0
  have c0 : w0.cell? ⟨w.heap.size, 0, none⟩ = some (.slice none 0 0) := hgrow0.cell (by simp [go_sem]) (by simp)
  have c1 : w0.cell? ⟨w.heap.size, 1, none⟩ = some (.slice none 0 0) := hgrow0.cell (by simp [go_sem]) (by simp)
  have c2 : w0.cell? ⟨w.heap.size, 2, none⟩ = some (.int .i64 0) := hgrow0.cell (by simp [go_sem]) (by simp)
  have c3 : w0.cell? ⟨w.heap.size, 3, none⟩ = some (.int .i64 0) := hgrow0.cell (by simp [go_sem]) (by simp)
  have fr : ∀ o, w0.frozen? ⟨w.heap.size, o, none⟩ = false := fun o => (World.frozen?_of_block (hgrow0.block _ (by simp) (by simp))).trans (by simp [go_sem])
  have hz : w.heap.size < w0.heap.size := by have := hgrow0.size; simp at this; omega
  have B0 : Below w.heap.size w w0 := ((Below.refl _ _).alloc (Nat.le_refl _) _).grown hgrow0 (by simp) (fun k h => by cases h)
  have H1 := hide hgrow0
  have H2 := hide ho
  clear hm0 hown0 hgrow0 ho hi hz0 hz1 hz2
  go_wp2
  refine bodyPost_ret (v := .agg #[.slice (some ⟨w.heap.size + 1, 0, none⟩) noTexts.length 42, .slice none ([] : List (Int × ByteArray)).length 0, .int .i64 (-1), .int .i64 (-1)]) (by simp [results, Try.results7, go_sem, c0, c1, c2, c3, noTexts_len]) rfl ⟨_, _, _, _, w.heap.size + 2, rfl, ?_, ?_, by omega, ?_, ?_⟩
  · exact ownsRow_mono (ownsRow_setCell_below (ownsRow_setCell_below (ownsRow_setCell_below (ownsRow_setCell_below (unhide H2) (by simp) _) (by simp) _) (by simp) _) (by simp) _) (by omega)
  · exact World.ownsRow_nil _ _ _ _
  · intro k hk
    have : w.heap.size + 1 = k := Option.some.inj hk
    omega
  · exact (((B0.setCell (by simp) _).setCell (by simp) _).setCell (by simp) _).setCell (by simp) _

theorem specDiskNew_any (w : World) : Calls Try.prog 6 #[] w (GivesDisk w noTexts [] (-1) (-1)) := by
  obtain ⟨i0, hi, hz0, hz1, hz2⟩ := info_parts Try.infoS
  go_enter Try.func6, Try.ntmps6
  go_wp2_with (at_make; refine wpList_make_full _ rfl _ _ 22 rfl _ 9 i0 (.string ByteArray.empty) 1 Try.underlying22 hi hz0 hz1 _ _ _ _ 42 rfl rfl rfl rfl ?b2 ?b3 (Nat.le_refl _) ?_)
  case b2 => rw [hz2]; omega
  case b3 => unfold maxLen; omega
  intro w0 hown0 hgrow0
  have hm0 : (madeCells #[Value.string ByteArray.empty] 42).toList = strs noTexts := by rw [toList_madeCells_one, strs_empty]; rfl
  rw [hm0] at hown0
  have ho : OwnS (w.heap.size + 1) w0 (.slice (some ⟨w.heap.size + 1, 0, none⟩) noTexts.length 42) noTexts := by unfold OwnS; rw [noTexts_len]; exact hown0
  have c0 : w0.cell? ⟨w.heap.size, 0, none⟩ = some (.slice none 0 0) := hgrow0.cell (by simp [go_sem]) (by simp)
  have c1 : w0.cell? ⟨w.heap.size, 1, none⟩ = some (.slice none 0 0) := hgrow0.cell (by simp [go_sem]) (by simp)
  have c2 : w0.cell? ⟨w.heap.size, 2, none⟩ = some (.int .i64 0) := hgrow0.cell (by simp [go_sem]) (by simp)
  have c3 : w0.cell? ⟨w.heap.size, 3, none⟩ = some (.int .i64 0) := hgrow0.cell (by simp [go_sem]) (by simp)
  have fr : ∀ o, w0.frozen? ⟨w.heap.size, o, none⟩ = false := fun o => (World.frozen?_of_block (hgrow0.block _ (by simp) (by simp))).trans (by simp [go_sem])
  have hz : w.heap.size < w0.heap.size := by have := hgrow0.size; simp at this; omega
  have B0 : Below w.heap.size w w0 := ((Below.refl _ _).alloc (Nat.le_refl _) _).grown hgrow0 (by simp) (fun k h => by cases h)
  have H1 := hide hgrow0
  have H2 := hide ho
  clear hm0 hown0 hgrow0 ho hi hz0 hz1 hz2
  go_wp2
  refine bodyPost_ret (v := .agg #[.slice (some ⟨w.heap.size + 1, 0, none⟩) noTexts.length 42, .slice none ([] : List (Int × ByteArray)).length 0, .int .i64 (-1), .int .i64 (-1)]) (by simp [results, Try.results6, go_sem, c0, c1, c2, c3, noTexts_len]) rfl ⟨_, _, _, _, w.heap.size + 2, rfl, ?_, ?_, by omega, ?_, ?_⟩
  · exact ownsRow_mono (ownsRow_setCell_below (ownsRow_setCell_below (ownsRow_setCell_below (ownsRow_setCell_below (unhide H2) (by simp) _) (by simp) _) (by simp) _) (by simp) _) (by omega)
  · exact World.ownsRow_nil _ _ _ _
  · intro k hk
    have : w.heap.size + 1 = k := Option.some.inj hk
    omega
  · exact (((B0.setCell (by simp) _).setCell (by simp) _).setCell (by simp) _).setCell (by simp) _

end Go.Proofs.Ytmbkjbjmpemgoaa
