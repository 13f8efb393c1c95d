/- A copy of a disk; disks that are the same. -/
import Derived.Test.YtmbkjbjmpemgoaaDkB
import Derived.Deep.RegionHeld
namespace Go.Proofs.Ytmbkjbjmpemgoaa
open Go.RowKit

/-- What a call answers that hands out a disk of its own: its texts below E, its waits from E on. -/
def GivesDisk (w : World) (cs : List ByteArray) (ws : List (Int × ByteArray)) (room left : Int) (e : Ending) (w' : World) : Prop :=
  ∃ ac cc aw cw E, e = .returned (.agg #[.slice ac cs.length cc, .slice aw ws.length cw, .int .i64 room, .int .i64 left]) ∧ OwnS w.heap.size w' (.slice ac cs.length cc) cs ∧ OwnW E w' (.slice aw ws.length cw) ws ∧
    w.heap.size ≤ E ∧ (∀ k, (Value.slice ac cs.length cc).ownBlock = some k → k < E) ∧ Below w.heap.size w w'

theorem toDisk_any (w : World) (vc vw : Value) (cs : List ByteArray) (ws : List (Int × ByteArray)) (room left : Int) (hc : ReadsS w vc cs) (hw : ReadsW w vw ws) (hcl : cs.length ≤ 1048576) (hwl : ws.length ≤ 1048576) :
    Calls Try.prog 13 #[.agg #[vc, vw, .int .i64 room, .int .i64 left]] w (GivesDisk w cs ws room left) := by
  go_enter Try.func13, Try.ntmps13
  go_wp2_with fail
  refine (toStringS_any _ vc cs (((hc.alloc _).alloc _).alloc _) hcl).mono ?_
  rintro e w1 ⟨ac, cc, rfl, hown, hb⟩
  have B1 := ((((Below.refl _ _).alloc (Nat.le_refl _) _).alloc (by simp) _).alloc (by simp; omega) _).trans (hb.mono (by simp; omega))
  obtain ⟨hc1, hf1⟩ := bcell hb
  have hz : w.heap.size + 2 < w1.heap.size := by have := hb.size; simp at this; omega
  have hlt := hown.lt
  go_wp2_with fail
  refine (toWaitS_any _ vw ws (hw.later (B1.setCell (by simp; omega) _)) hwl).mono ?_
  rintro e w2 ⟨aw, cw, rfl, hown2, hb2⟩
  have B2 := (B1.setCell (by simp; omega) _).trans (hb2.mono (by simp; omega))
  have hz2 : w1.heap.size ≤ w2.heap.size := by have := hb2.size; simpa using this
  obtain ⟨hc2, hf2⟩ := bcell hb2
  have hown1 : OwnS _ w2 _ cs := ownsRow_later (ownsRow_setCell_below hown (by simp) _) hb2
  have cA2 : w2.cell? ⟨w.heap.size, 2, none⟩ = some (.int .i64 room) := (hc2 _ _ (by simp; omega)).trans (by simp [go_sem, hc1])
  have cA3 : w2.cell? ⟨w.heap.size, 3, none⟩ = some (.int .i64 left) := (hc2 _ _ (by simp; omega)).trans (by simp [go_sem, hc1])
  have cO0 : w2.cell? ⟨w.heap.size + 1 + 1, 0, none⟩ = some (.slice ac cs.length cc) := (hc2 _ _ (by simp; omega)).trans (by simp [go_sem, hc1])
  have cO1 : w2.cell? ⟨w.heap.size + 1 + 1, 1, none⟩ = some (.slice none 0 0) := (hc2 _ _ (by simp; omega)).trans (by simp [go_sem, hc1])
  have cO2 : w2.cell? ⟨w.heap.size + 1 + 1, 2, none⟩ = some (.int .i64 0) := (hc2 _ _ (by simp; omega)).trans (by simp [go_sem, hc1])
  have cO3 : w2.cell? ⟨w.heap.size + 1 + 1, 3, none⟩ = some (.int .i64 0) := (hc2 _ _ (by simp; omega)).trans (by simp [go_sem, hc1])
  have cR0 : w2.cell? ⟨w.heap.size + 1, 0, none⟩ = some (.slice none 0 0) := (hc2 _ _ (by simp; omega)).trans (by simp [go_sem, hc1])
  have cR1 : w2.cell? ⟨w.heap.size + 1, 1, none⟩ = some (.slice none 0 0) := (hc2 _ _ (by simp; omega)).trans (by simp [go_sem, hc1])
  have cR2 : w2.cell? ⟨w.heap.size + 1, 2, none⟩ = some (.int .i64 0) := (hc2 _ _ (by simp; omega)).trans (by simp [go_sem, hc1])
  have cR3 : w2.cell? ⟨w.heap.size + 1, 3, none⟩ = some (.int .i64 0) := (hc2 _ _ (by simp; omega)).trans (by simp [go_sem, hc1])
  have fO : ∀ o, w2.frozen? ⟨w.heap.size + 1 + 1, o, none⟩ = false := fun o => (hf2 _ _ (by simp; omega)).trans (by simp [go_sem, hf1])
  have fR : ∀ o, w2.frozen? ⟨w.heap.size + 1, o, none⟩ = false := fun o => (hf2 _ _ (by simp; omega)).trans (by simp [go_sem, hf1])
  have hz3 : w.heap.size + 1 + 1 < w2.heap.size := by omega
  clear hc1 hc2 hf1 hf2
  go_wp2
  refine bodyPost_ret (v := .agg #[.slice ac cs.length cc, .slice aw ws.length cw, .int .i64 room, .int .i64 left]) (by simp [results, Try.results13, go_sem, cR0, cR1, cR2, cR3]) rfl ⟨ac, cc, aw, cw, w1.heap.size, rfl, ?_, ?_, ?_, ?_, ?_⟩
  · have h2 : OwnS (w.heap.size + 1 + 1 + 1) w2 _ cs := ownsRow_mono hown1 (by simp)
    exact ownsRow_mono (ownsRow_setCell_below (ownsRow_setCell_below (ownsRow_setCell_below (ownsRow_setCell_below (ownsRow_setCell_below (ownsRow_setCell_below (ownsRow_setCell_below h2 (by simp) _) (by simp) _) (by simp) _) (by simp) _) (by simp) _) (by simp) _) (by simp) _) (by omega)
  · have h2 : OwnW w1.heap.size w2 _ ws := ownsRow_mono hown2 (by simp)
    exact ownsRow_setCell_below (ownsRow_setCell_below (ownsRow_setCell_below (ownsRow_setCell_below (ownsRow_setCell_below (ownsRow_setCell_below (ownsRow_setCell_below h2 (by simp; omega) _) (by simp; omega) _) (by simp; omega) _) (by simp; omega) _) (by simp; omega) _) (by simp; omega) _) (by simp; omega) _
  · omega
  · intro k hk; exact (hlt k hk).2
  · exact ((((((B2.setCell (by simp; omega) _).setCell (by simp; omega) _).setCell (by simp; omega) _).setCell (by simp) _).setCell (by simp) _).setCell (by simp) _).setCell (by simp) _

theorem eqStringS_same (w : World) (u v : Value) (l : List ByteArray) (hu : ReadsS w u l) (hv : ReadsS w v l) :
    Calls Try.prog 17 #[u, v] w fun e w' => e = .returned (.bool true) ∧ Below w.heap.size w w' := by
  obtain ⟨ao, b, off, cap, rfl, hu⟩ := hu
  obtain ⟨ao', b', off', cap', rfl, hv⟩ := hv
  have h1 := hu.le
  have h2 := hu.big
  unfold maxLen at h2
  have hne : ((l.length : Int) != (l.length : Int)) = false := by simp
  go_enter Try.func17, Try.ntmps17
  go_wp2
  go_loopw [5] (fun i wr => ∃ k : Nat, k ≤ l.length ∧ i = .int .i64 k ∧ Below w.heap.size w wr) (fun i _ => l.length - (intOf i).toNat)
  case atStart => exact ⟨0, Nat.zero_le _, rfl, Below.refl _ _⟩
  case round =>
    obtain ⟨k, hk, rfl, hbel⟩ := hrel
    by_cases hlt : k < l.length
    · have hc := (hu.later hbel).cell k hlt
      have hc' := (hv.later hbel).cell k hlt
      have hat := hu.at_ (by omega)
      have hat' := hv.at_ (by omega)
      subst hat hat'
      clear hu hv
      go_wp2
      go_quiet (fail)
      go_wp2
      go_roundw
      case rel => exact ⟨k + 1, by omega, by go_num, below_draws hbel _⟩
      case measure => simp [intOf]; omega
    · go_wp2
      go_ret
      exact ⟨rfl, hbel⟩

theorem eqWait_same (w : World) (a : Int) (t : ByteArray) :
    Calls Try.prog 35 #[.agg #[.int .i64 a, .string t], .agg #[.int .i64 a, .string t]] w fun e w' => e = .returned (.bool true) ∧ Below w.heap.size w w' := by
  go_enter Try.func35, Try.ntmps35
  go_wp2
  go_ret
  exact ⟨rfl, ((Below.refl _ _).alloc (Nat.le_refl _) _).alloc (by simp) _⟩

theorem eqWaitS_same (w : World) (u v : Value) (l : List (Int × ByteArray)) (hu : ReadsW w u l) (hv : ReadsW w v l) :
    Calls Try.prog 18 #[u, v] w fun e w' => e = .returned (.bool true) ∧ Below w.heap.size w w' := by
  obtain ⟨ao, b, off, cap, rfl, hu⟩ := hu
  obtain ⟨ao', b', off', cap', rfl, hv⟩ := hv
  have h1 := hu.le
  have h2 := hu.big
  unfold maxLen at h2
  have hne : ((l.length : Int) != (l.length : Int)) = false := by simp
  go_enter Try.func18, Try.ntmps18
  go_wp2
  go_loopw [5] (fun i wr => ∃ k : Nat, k ≤ l.length ∧ i = .int .i64 k ∧ Below w.heap.size w wr) (fun i _ => l.length - (intOf i).toNat)
  case atStart => exact ⟨0, Nat.zero_le _, rfl, Below.refl _ _⟩
  case round =>
    obtain ⟨k, hk, rfl, hbel⟩ := hrel
    by_cases hlt : k < l.length
    · obtain ⟨hc0, hc1⟩ := (hu.later hbel).cell k hlt
      obtain ⟨hc0', hc1'⟩ := (hv.later hbel).cell k hlt
      have hat := hu.at_ (by omega)
      have hat' := hv.at_ (by omega)
      subst hat hat'
      clear hu hv
      have stab : ∀ w' : World, Below wr.heap.size wr w' → (w'.cell? ⟨b, off + k * 2, none⟩ = some (.int .i64 l[k].1) ∧ w'.cell? ⟨b, off + k * 2 + 1, none⟩ = some (.string l[k].2) ∧ w'.cell? ⟨b', off' + k * 2, none⟩ = some (.int .i64 l[k].1) ∧ w'.cell? ⟨b', off' + k * 2 + 1, none⟩ = some (.string l[k].2)) :=
        fun w' h => ⟨(h.cell (p := ⟨b, off + k * 2, none⟩) (World.block_lt_of_cell? wr _ hc0)).trans hc0, (h.cell (p := ⟨b, off + k * 2 + 1, none⟩) (World.block_lt_of_cell? wr _ hc1)).trans hc1, (h.cell (p := ⟨b', off' + k * 2, none⟩) (World.block_lt_of_cell? wr _ hc0')).trans hc0', (h.cell (p := ⟨b', off' + k * 2 + 1, none⟩) (World.block_lt_of_cell? wr _ hc1')).trans hc1'⟩
      have Stab := hide stab
      clear stab
      go_wp2
      go_region_held (fun w' => w'.cell? ⟨b, off + k * 2, none⟩ = some (.int .i64 l[k].1) ∧ w'.cell? ⟨b, off + k * 2 + 1, none⟩ = some (.string l[k].2) ∧ w'.cell? ⟨b', off' + k * 2, none⟩ = some (.int .i64 l[k].1) ∧ w'.cell? ⟨b', off' + k * 2 + 1, none⟩ = some (.string l[k].2))
        (first | exact unhide Stab _ (Below.refl _ _).drew | (refine unhide Stab _ ?_; assumption))
        (first | (go_at_call 35; refine (eqWait_same _ _ _).mono ?_; rintro e w1 ⟨rfl, b1⟩; have B1 : Below wr.heap.size wr w1 := (Below.refl _ _).drew.trans b1))
      go_wp2
      go_roundw
      case rel => exact ⟨k + 1, by omega, by go_num, hbel.trans (B1.mono hbel.size)⟩
      case measure => simp [intOf]; omega
    · go_wp2
      go_ret
      exact ⟨rfl, hbel⟩

end Go.Proofs.Ytmbkjbjmpemgoaa
