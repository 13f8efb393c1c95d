/- Marks laid into a disk as a whole, and asked for. -/
import Derived.Test.YtmbkjbjmpemgoaaDkM
namespace Go.Proofs.Ytmbkjbjmpemgoaa
open Go.RowKit

/-- Nothing has turned but two rows. -/
structure But2 (w w' : World) (r s : Option Nat) : Prop where
  os : w'.os = w.os
  tape : w'.tape = w.tape
  output : w'.output = w.output
  size : w.heap.size ≤ w'.heap.size
  block : ∀ k, k < w.heap.size → some k ≠ r → some k ≠ s → w'.heap[k]? = w.heap[k]?

theorem But2.of {w w1 w2 : World} {r s : Option Nat} (h : w.grownBy w1 r) (k : w1.grownBy w2 s) : But2 w w2 r s :=
  ⟨k.os.trans h.os, k.tape.trans h.tape, k.output.trans h.output, Nat.le_trans h.size k.size, fun i hi hr hs => (k.block i (Nat.lt_of_lt_of_le hi h.size) hs).trans (h.block i hi hr)⟩
theorem But2.below {w w' : World} {r s : Option Nat} {B : Nat} (h : But2 w w' r s) (hB : B ≤ w.heap.size) (hr : ∀ k, r = some k → B ≤ k) (hs : ∀ k, s = some k → B ≤ k) : Below B w w' :=
  ⟨h.os, h.tape, h.output, h.size, fun k hk => h.block k (by omega) (fun e => by have := hr k e.symm; omega) (fun e => by have := hs k e.symm; omega)⟩
theorem But2.cell {w w' : World} {r s : Option Nat} (h : But2 w w' r s) {p : Addr} (hp : p.block < w.heap.size) (hr : some p.block ≠ r) (hs : some p.block ≠ s) : w'.cell? p = w.cell? p := World.cell?_of_block (w := w) (h.block p.block hp hr hs)
theorem But2.alloc {w w' : World} {r s : Option Nat} {o : Obj} (h : But2 (w.alloc o) w' r s) : But2 w w' r s :=
  ⟨h.os, h.tape, h.output, by have := h.size; simp at this; omega, fun k hk hr hs => (h.block k (by simp; omega) hr hs).trans (Below.heap_alloc _ _ _ hk)⟩

theorem markDisk_any (w : World) (B E : Nat) (vc vw : Value) (cs : List ByteArray) (ws : List (Int × ByteArray)) (room left : Int) (q : Int) (k : Nat) (hq : q = k)
    (hc : OwnS B w vc cs) (hw : OwnW E w vw ws) (hE : ∀ x, vc.ownBlock = some x → x < E) (hcl : cs.length ≤ 1048576) (hwl : ws.length ≤ 1048576) (h0 : 0 < k) (h1 : k ≤ 1048576) :
    Calls Try.prog 9 #[.agg #[vc, vw, .int .i64 room, .int .i64 left], .int .i64 q] w fun e w' => e = .returned (.int .i64 ((k + cs.length + 2 * ws.length : Nat) : Int)) ∧ OwnS B w' vc (smarks k cs.length) ∧ OwnW E w' vw (wmarks (k + cs.length) ws.length) ∧ But2 w w' vc.ownBlock vw.ownBlock := by
  subst hq
  have hC := fun o => markStringS_any (w.alloc o) B vc cs k k rfl (ownsRow_later hc ((Below.refl _ _).alloc (Nat.le_refl _) o)) hcl h0 (by omega)
  have HC := hide hC
  have HW := fun o => hide (ownsRow_later hw ((Below.refl _ _).alloc (Nat.le_refl _) o))
  have ltc := hc.lt
  have ltw := hw.lt
  have sep : vw.ownBlock = none ∨ vw.ownBlock ≠ vc.ownBlock := by
    cases ev : vw.ownBlock with
    | none => exact .inl rfl
    | some y =>
      refine .inr (fun e => ?_)
      have := hE y e.symm
      have := (ltw y ev).1
      omega
  have sep' : vc.ownBlock = none ∨ vc.ownBlock ≠ vw.ownBlock := by
    cases ev : vc.ownBlock with
    | none => exact .inl rfl
    | some y =>
      refine .inr (fun e => ?_)
      have := hE y ev
      have := (ltw y e.symm).1
      omega
  have boxc : some w.heap.size ≠ vc.ownBlock := fun e => by have := (ltc _ e.symm).2; omega
  have SEP := hide sep
  have SEP' := hide sep'
  have BC := hide boxc
  clear hC sep sep' boxc ltc ltw
  obtain ⟨ac, cc, rfl⟩ := ownsRow_shape hc
  obtain ⟨aw, cw, rfl⟩ := ownsRow_shape hw
  go_enter Try.func9, Try.ntmps9
  go_wp2_with fail
  refine (unhide HC _).mono ?_
  rintro e w1 ⟨rfl, hown, hgr⟩
  have hw1 : OwnW E w1 _ ws := World.ownsRow.kept (unhide (HW _)) hgr (unhide SEP)
  have k1 : w1.cell? ⟨w.heap.size, 1, none⟩ = some (.slice aw ws.length cw) := hgr.cell (by simp [go_sem]) (unhide BC)
  go_wp2_with fail
  refine (markWaitS_any w1 E _ ws _ (k + cs.length) (by omega) hw1 hwl (by omega) (by omega)).mono ?_
  rintro e w2 ⟨rfl, hown2, hgr2⟩
  have hc2 : OwnS B w2 _ (smarks k cs.length) := World.ownsRow.kept hown hgr2 (unhide SEP')
  go_wp2
  go_ret
  exact ⟨by first | rfl | (simp; done) | (simp; omega), hc2, hown2, (But2.of hgr hgr2).alloc⟩

theorem heldDisk_any (w : World) (vc vw : Value) (room left : Int) (q : Int) (k n m : Nat) (hq : q = k)
    (hc : ReadsS w vc (smarks k n)) (hw : ReadsW w vw (wmarks (k + n) m)) (hcl : n ≤ 1048576) (hwl : m ≤ 1048576) (h0 : 0 < k) (h1 : k ≤ 1048576) :
    Calls Try.prog 10 #[.agg #[vc, vw, .int .i64 room, .int .i64 left], .int .i64 q] w fun e w' => e = .returned (.int .i64 ((k + n + 2 * m : Nat) : Int)) ∧ Below w.heap.size w w' := by
  subst hq
  have hC := fun o => heldStringS_any (w.alloc o) vc k k n rfl (hc.alloc o) hcl h0 (by omega)
  have HC := hide hC
  have HW := hide hw
  clear hC
  have g1 : decide (((k + n : Nat) : Int) < 0) = false := by simp; omega
  have g2 : decide (((k + n + 2 * m : Nat) : Int) < 0) = false := by simp; omega
  go_enter Try.func10, Try.ntmps10
  go_wp2_with fail
  refine (unhide HC _).mono ?_
  rintro e w1 ⟨rfl, b1⟩
  have k1 : w1.cell? ⟨w.heap.size, 1, none⟩ = some vw := (b1.cell (p := ⟨w.heap.size, 1, none⟩) (by simp)).trans (by simp [go_sem])
  have B1 := ((Below.refl _ _).alloc (Nat.le_refl _) _).trans (b1.mono (by simp))
  go_wp2_with fail
  refine (heldWaitS_any w1 vw _ (k + n) m (by omega) ((unhide HW).later B1) hwl (by omega) (by omega)).mono ?_
  rintro e w2 ⟨rfl, b2⟩
  go_wp2
  go_ret
  exact ⟨by first | rfl | (simp; done) | (simp; omega), B1.trans (b2.mono B1.size)⟩

end Go.Proofs.Ytmbkjbjmpemgoaa
