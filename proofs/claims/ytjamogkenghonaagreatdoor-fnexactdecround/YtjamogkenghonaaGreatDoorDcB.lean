/- A decimal in its box, and the place for an answer behind it. -/
import Derived.Test.YtjamogkenghonaaGreatDoorGb
import Derived.WalkSpells
namespace Go.Proofs.YtjamogkenghonaaGreatDoor
open Go.RowKit

/-- A decimal in its box, and the place for an answer behind it. -/
structure DcBx (w0 w' : World) (p : Bool) (u : Value) (s : Int) : Prop where
  below : Below w0.heap.size w0 w'
  a0 : w'.cell? ⟨w0.heap.size, 0, none⟩ = some (.bool p)
  a1 : w'.cell? ⟨w0.heap.size, 1, none⟩ = some u
  a2 : w'.cell? ⟨w0.heap.size, 2, none⟩ = some (.int .i64 s)
  r0 : w'.cell? ⟨w0.heap.size + 1, 0, none⟩ = some (.bool false)
  r1 : w'.cell? ⟨w0.heap.size + 1, 1, none⟩ = some (.slice none 0 0)
  r2 : w'.cell? ⟨w0.heap.size + 1, 2, none⟩ = some (.int .i64 0)
  f0 : w'.frozen? ⟨w0.heap.size + 1, 0, none⟩ = false
  f1 : w'.frozen? ⟨w0.heap.size + 1, 1, none⟩ = false
  f2 : w'.frozen? ⟨w0.heap.size + 1, 2, none⟩ = false
  lt : w0.heap.size + 1 < w'.heap.size

theorem DcBx.later {w0 w w' : World} {p : Bool} {u : Value} {s : Int} (h : DcBx w0 w p u s) (k : Below w.heap.size w w') : DcBx w0 w' p u s :=
  ⟨h.below.trans (k.mono h.below.size), cell_later k h.a0, cell_later k h.a1, cell_later k h.a2, cell_later k h.r0, cell_later k h.r1, cell_later k h.r2, frozen_later k h.f0 h.lt, frozen_later k h.f1 h.lt, frozen_later k h.f2 h.lt, lt_later k h.lt⟩

theorem DcBx.start (w : World) (p : Bool) (u : Value) (s : Int) : DcBx w ((w.alloc (.cells #[.bool p, u, .int .i64 s] 30)).alloc (.cells #[.bool false, .slice none 0 0, .int .i64 0] 30)) p u s :=
  ⟨((Below.refl _ _).alloc (Nat.le_refl _) _).alloc (by simp) _, by go_simp, by go_simp, by go_simp, by go_simp, by go_simp, by go_simp, by go_simp, by go_simp, by go_simp, by simp⟩

end Go.Proofs.YtjamogkenghonaaGreatDoor
