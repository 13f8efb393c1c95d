/- Disks that are the same; whether a disk is ok, by the specification. -/
import Derived.Test.YtmbkjbjmpemgoaaDkC
namespace Go.Proofs.Ytmbkjbjmpemgoaa
open Go.RowKit

theorem eqDisk_same (w : World) (u v u' v' : Value) (cs : List ByteArray) (ws : List (Int × ByteArray)) (room left : Int) (hu : ReadsS w u cs) (hv : ReadsW w v ws) (hu' : ReadsS w u' cs) (hv' : ReadsW w v' ws) :
    Calls Try.prog 8 #[.agg #[u, v, .int .i64 room, .int .i64 left], .agg #[u', v', .int .i64 room, .int .i64 left]] w fun e w' => e = .returned (.bool true) ∧ Below w.heap.size w w' := by
  have h1 := fun o o' => eqStringS_same ((w.alloc o).alloc o') u u' cs ((hu.alloc _).alloc _) ((hu'.alloc _).alloc _)
  have H1 := hide h1
  have H2 := hide hv
  have H2' := hide hv'
  clear h1
  go_enter Try.func8, Try.ntmps8
  go_wp2_with fail
  refine (unhide H1 _ _).mono ?_
  rintro e w1 ⟨rfl, hb⟩
  have B1 := (((Below.refl _ _).alloc (Nat.le_refl _) _).alloc (by simp) _).trans (hb.mono (by simp; omega))
  obtain ⟨hc1, hf1⟩ := bcell hb
  go_wp2_with fail
  refine (eqWaitS_same _ _ _ ws ((unhide H2).later B1) ((unhide H2').later B1)).mono ?_
  rintro e w2 ⟨rfl, hb2⟩
  obtain ⟨hc2, hf2⟩ := bcell hb2
  have hz : w.heap.size + 1 < w1.heap.size := by have := hb.size; simp at this; omega
  have cA2 : w2.cell? ⟨w.heap.size, 2, none⟩ = some (.int .i64 room) := (hc2 _ _ (by omega)).trans (by simp [go_sem, hc1])
  have cA3 : w2.cell? ⟨w.heap.size, 3, none⟩ = some (.int .i64 left) := (hc2 _ _ (by omega)).trans (by simp [go_sem, hc1])
  have cB2 : w2.cell? ⟨w.heap.size + 1, 2, none⟩ = some (.int .i64 room) := (hc2 _ _ (by omega)).trans (by simp [go_sem, hc1])
  have cB3 : w2.cell? ⟨w.heap.size + 1, 3, none⟩ = some (.int .i64 left) := (hc2 _ _ (by omega)).trans (by simp [go_sem, hc1])
  clear hc1 hc2 hf1 hf2
  go_wp2
  go_ret
  exact ⟨rfl, B1.trans (hb2.mono B1.size)⟩

end Go.Proofs.Ytmbkjbjmpemgoaa
