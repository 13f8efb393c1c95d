/- The program's product of two numbers with signs, by a contract. What numbers answer; l1Big of the specification. A box of a number that stands empty while a call goes on. -/
import Derived.Test.YthnkmjkgcnhlfaaGreatDoorH10
import Derived.Deep.RegionHeld
import Derived.Test.YthnkmjkgcnhlfaaGreatDoorH04
import Derived.Test.YthnkmjkgcnhlfaaGreatDoorH02
import Derived.Test.YthnkmjkgcnhlfaaGreatDoorOkA
namespace Go.Proofs.YthnkmjkgcnhlfaaGreatDoor
open Go.RowKit
set_option maxRecDepth 100000

set_option maxHeartbeats 1000000 in
theorem productOf_any (w : World) (p q : Bool) (u v : Value) (a b : Nat) (hu : Reads w u (L a)) (hv : Reads w v (L b)) (ha : a < 10000 ^ 100) (hb : b < 10000 ^ 100) (z : Int) (hz : z = zof p a * zof q b) :
    Calls Tryz.prog 63 #[.agg #[.bool p, u], .agg #[.bool q, v]] w (GivesBig w (sg z) (L z.natAbs)) := by
  have hz' : z = zof (!(p == q)) (a * b) := by
    subst hz
    unfold zof
    cases p <;> cases q <;> simp <;> grind
  have Hz' := hide hz'
  clear hz hz'
  have C := hide (fun W (h : Below w.heap.size w W) => times_any W _ _ a b (hu.later h) (hv.later h) ha hb)
  clear ha hb
  obtain ⟨ao, b1, off, cap, rfl, hu⟩ := hu
  obtain ⟨ao', b2, off', cap', rfl, hv⟩ := hv
  clear hu hv
  go_enter Tryz.func63, Tryz.ntmps63
  go_wp2
  have W0b : Below w.heap.size w (((w.alloc (.cells #[.bool p, .slice ao (L a).length cap] 25)).alloc (.cells #[.bool q, .slice ao' (L b).length cap'] 25)).alloc (.cells #[.bool false, .slice none 0 0] 25)) := (((Below.refl _ _).alloc (Nat.le_refl _) _).alloc (by simp) _).alloc (by simp; omega) _
  have P0 : (((w.alloc (.cells #[.bool p, .slice ao (L a).length cap] 25)).alloc (.cells #[.bool q, .slice ao' (L b).length cap'] 25)).alloc (.cells #[.bool false, .slice none 0 0] 25)).cell? ⟨w.heap.size, 0, none⟩ = some (.bool p) := by go_simp
  have P0' : (((w.alloc (.cells #[.bool p, .slice ao (L a).length cap] 25)).alloc (.cells #[.bool q, .slice ao' (L b).length cap'] 25)).alloc (.cells #[.bool false, .slice none 0 0] 25)).cell? ⟨w.heap.size, 1, none⟩ = some (.slice ao (L a).length cap) := by go_simp
  have Q0 : (((w.alloc (.cells #[.bool p, .slice ao (L a).length cap] 25)).alloc (.cells #[.bool q, .slice ao' (L b).length cap'] 25)).alloc (.cells #[.bool false, .slice none 0 0] 25)).cell? ⟨w.heap.size + 1, 0, none⟩ = some (.bool q) := by go_simp
  have Q0' : (((w.alloc (.cells #[.bool p, .slice ao (L a).length cap] 25)).alloc (.cells #[.bool q, .slice ao' (L b).length cap'] 25)).alloc (.cells #[.bool false, .slice none 0 0] 25)).cell? ⟨w.heap.size + 1, 1, none⟩ = some (.slice ao' (L b).length cap') := by go_simp
  have RA : (((w.alloc (.cells #[.bool p, .slice ao (L a).length cap] 25)).alloc (.cells #[.bool q, .slice ao' (L b).length cap'] 25)).alloc (.cells #[.bool false, .slice none 0 0] 25)).cell? ⟨w.heap.size + 1 + 1, 0, none⟩ = some (.bool false) := by go_simp
  have RA' : (((w.alloc (.cells #[.bool p, .slice ao (L a).length cap] 25)).alloc (.cells #[.bool q, .slice ao' (L b).length cap'] 25)).alloc (.cells #[.bool false, .slice none 0 0] 25)).cell? ⟨w.heap.size + 1 + 1, 1, none⟩ = some (.slice none 0 0) := by go_simp
  have FA : (((w.alloc (.cells #[.bool p, .slice ao (L a).length cap] 25)).alloc (.cells #[.bool q, .slice ao' (L b).length cap'] 25)).alloc (.cells #[.bool false, .slice none 0 0] 25)).frozen? ⟨w.heap.size + 1 + 1, 0, none⟩ = false := by go_simp
  have FA' : (((w.alloc (.cells #[.bool p, .slice ao (L a).length cap] 25)).alloc (.cells #[.bool q, .slice ao' (L b).length cap'] 25)).alloc (.cells #[.bool false, .slice none 0 0] 25)).frozen? ⟨w.heap.size + 1 + 1, 1, none⟩ = false := by go_simp
  have zA : w.heap.size + 1 + 1 < (((w.alloc (.cells #[.bool p, .slice ao (L a).length cap] 25)).alloc (.cells #[.bool q, .slice ao' (L b).length cap'] 25)).alloc (.cells #[.bool false, .slice none 0 0] 25)).heap.size := by simp
  generalize ((w.alloc (.cells #[.bool p, .slice ao (L a).length cap] 25)).alloc (.cells #[.bool q, .slice ao' (L b).length cap'] 25)).alloc (.cells #[.bool false, .slice none 0 0] 25) = W0 at *
  have stab : ∀ w' : World, Below W0.heap.size W0 w' → (w'.cell? ⟨w.heap.size, 0, none⟩ = some (.bool p) ∧ w'.cell? ⟨w.heap.size, 1, none⟩ = some (.slice ao (L a).length cap) ∧ w'.cell? ⟨w.heap.size + 1, 0, none⟩ = some (.bool q) ∧ w'.cell? ⟨w.heap.size + 1, 1, none⟩ = some (.slice ao' (L b).length cap')) :=
    fun w' h => ⟨cell_later h P0, cell_later h P0', cell_later h Q0, cell_later h Q0'⟩
  have Stab := hide stab
  clear stab
  go_region_held (fun w' => w'.cell? ⟨w.heap.size, 0, none⟩ = some (.bool p) ∧ w'.cell? ⟨w.heap.size, 1, none⟩ = some (.slice ao (L a).length cap) ∧ w'.cell? ⟨w.heap.size + 1, 0, none⟩ = some (.bool q) ∧ w'.cell? ⟨w.heap.size + 1, 1, none⟩ = some (.slice ao' (L b).length cap'))
    (first | exact unhide Stab _ (Below.refl _ _).drew | exact unhide Stab _ (by assumption) | (obtain ⟨s1, s2, s3, s4⟩ := unhide Stab _ BW2; exact ⟨cell_set2 s1 (by omega) _ _, cell_set2 s2 (by omega) _ _, cell_set2 s3 (by omega) _ _, cell_set2 s4 (by omega) _ _⟩))
    (first
      | (go_at_call 84; refine (unhide C _ ?_).mono ?_; exact W0b.drew; rintro e w1 ⟨ao1, cap1, rfl, o1, b1⟩; have R1 := cell_later b1 RA; have R1' := cell_later b1 RA'; have F1 := frozen_later b1 FA zA; have F1' := frozen_later b1 FA' zA; have z1 := lt_later b1 zA; have bb1 := W0b.drew.trans (b1.mono W0b.drew.size); have BW1 : Below W0.heap.size W0 w1 := (Below.refl _ _).drew.trans b1)
      | (go_at_call 65; refine (signed_any _ _ ao1 _ cap1).mono ?_; rintro e w2 ⟨he, b2⟩; obtain ⟨ao3, cap3, e3, o3, bb3⟩ := signed_gives (w := w) (z := z) o1 bb1 b2 (unhide Hz'); rw [e3] at he; subst he; have R2 := cell_later b2 R1; have R2' := cell_later b2 R1'; have F2 := frozen_later b2 F1 z1; have F2' := frozen_later b2 F1' z1; have BW2 : Below W0.heap.size W0 w2 := BW1.trans (b2.mono BW1.size)))
  all_goals
    go_wp2
    refine bodyPost_ret (v := .agg #[.bool (sg z), .slice ao3 (L z.natAbs).length cap3]) (by simp [results, Tryz.results63, go_sem, R2, R2']) rfl ⟨ao3, cap3, rfl, ?_, ?_⟩
    · exact ((o3.setBelow (by exact zA) _).setBelow (by exact zA) _).mono W0b.size
    · exact (bb3.setCell (by simp; omega) _).setCell (by simp; omega) _

end Go.Proofs.YthnkmjkgcnhlfaaGreatDoor

namespace Go.Proofs.YthnkmjkgcnhlfaaGreatDoor
open Go.RowKit
set_option maxRecDepth 100000

/-- Two numbers in their boxes, and a place for the answer. -/
structure Bx (w0 w' : World) (p : Bool) (u : Value) (q : Bool) (v : Value) : Prop where
  below : Below w0.heap.size w0 w'
  a0 : w'.cell? ⟨w0.heap.size, 0, none⟩ = some (.bool p)
  a1 : w'.cell? ⟨w0.heap.size, 1, none⟩ = some u
  b0 : w'.cell? ⟨w0.heap.size + 1, 0, none⟩ = some (.bool q)
  b1 : w'.cell? ⟨w0.heap.size + 1, 1, none⟩ = some v
  r0 : w'.cell? ⟨w0.heap.size + 1 + 1, 0, none⟩ = some (.bool false)
  r1 : w'.cell? ⟨w0.heap.size + 1 + 1, 1, none⟩ = some (.slice none 0 0)
  f0 : w'.frozen? ⟨w0.heap.size + 1 + 1, 0, none⟩ = false
  f1 : w'.frozen? ⟨w0.heap.size + 1 + 1, 1, none⟩ = false
  lt : w0.heap.size + 1 + 1 < w'.heap.size

theorem Bx.later {w0 w w' : World} {p q : Bool} {u v : Value} (h : Bx w0 w p u q v) (k : Below w.heap.size w w') : Bx w0 w' p u q v :=
  ⟨h.below.trans (k.mono h.below.size), cell_later k h.a0, cell_later k h.a1, cell_later k h.b0, cell_later k h.b1, cell_later k h.r0, cell_later k h.r1, frozen_later k h.f0 h.lt, frozen_later k h.f1 h.lt, lt_later k h.lt⟩

theorem Bx.start (w : World) (p q : Bool) (u v : Value) : Bx w (((w.alloc (.cells #[.bool p, u] 25)).alloc (.cells #[.bool q, v] 25)).alloc (.cells #[.bool false, .slice none 0 0] 25)) p u q v :=
  ⟨(((Below.refl _ _).alloc (Nat.le_refl _) _).alloc (by simp) _).alloc (by simp; omega) _, by go_simp, by go_simp, by go_simp, by go_simp, by go_simp, by go_simp, by go_simp, by go_simp, by simp⟩

end Go.Proofs.YthnkmjkgcnhlfaaGreatDoor

namespace Go.Proofs.YthnkmjkgcnhlfaaGreatDoor
open Go.RowKit

end Go.Proofs.YthnkmjkgcnhlfaaGreatDoor
