/- Whether two decimals are the same, whatever comes of it: jtDec by a contract. How long bytes that came in are. What a promise's walk carries from call to call: decimals in boxes, each with its sign, its slice, the list that the slice reads as, and its scale. Boxes for a decimal that stand empty, and are filled. What a promise's walk carries: a box more whose cells were written, and a store into a box made by the law itself. -/
import Derived.Test.YthnkmjkgcnhlfaaGreatDoorH07
import Derived.Test.YthnkmjkgcnhlfaaGreatDoorH08
import Derived.Test.YthnkmjkgcnhlfaaGreatDoorH02
import Derived.OneCell
namespace Go.Proofs.YthnkmjkgcnhlfaaGreatDoor
open Go.RowKit
set_option maxRecDepth 100000

theorem jtBig_any (w : World) (p q : Bool) (u v : Value) (l m : List Int) (hu : Reads w u l) (hv : Reads w v m) :
    Calls Tryz.prog 52 #[.agg #[.bool p, u], .agg #[.bool q, v]] w fun e w' => (∃ b, e = .returned (.bool b)) ∧ Below w.heap.size w w' := by
  have B0 : Below w.heap.size w ((w.alloc (.cells #[.bool p, u] 25)).alloc (.cells #[.bool q, v] 25)) := ((Below.refl _ _).alloc (Nat.le_refl _) _).alloc (by simp) _
  have C := hide (jtInts_any _ u v l m (hu.later B0) (hv.later B0))
  obtain ⟨ao, b, off, cap, rfl, hu⟩ := hu
  obtain ⟨ao', b', off', cap', rfl, hv⟩ := hv
  clear hu hv
  cases hpq : p == q
  · go_enter Tryz.func52, Tryz.ntmps52
    go_wp2
    go_ret
    exact ⟨⟨_, rfl⟩, B0⟩
  · go_enter Tryz.func52, Tryz.ntmps52
    go_wp2_with fail
    refine (unhide C).mono ?_
    rintro e w1 ⟨rfl, b1⟩
    have B1 := B0.trans (b1.mono B0.size)
    clear b1 C B0
    go_wp2
    go_ret
    exact ⟨⟨_, rfl⟩, B1⟩

theorem jtDec_any (w : World) (p q : Bool) (u v : Value) (l m : List Int) (s t : Int) (hu : Reads w u l) (hv : Reads w v m) :
    Calls Tryz.prog 17 #[.agg #[.bool p, u, .int .i64 s], .agg #[.bool q, v, .int .i64 t]] w fun e w' => (∃ b, e = .returned (.bool b)) ∧ Below w.heap.size w w' := by
  have h := fun o o' => jtBig_any ((w.alloc o).alloc o') p q u v l m ((hu.alloc _).alloc _) ((hv.alloc _).alloc _)
  have H := hide h
  obtain ⟨ao, b, off, cap, rfl, hu⟩ := hu
  obtain ⟨ao', b', off', cap', rfl, hv⟩ := hv
  clear h hu hv
  cases hst : s == t
  · go_enter Tryz.func17, Tryz.ntmps17
    go_wp2
    go_ret
    exact ⟨⟨_, rfl⟩, ((Below.refl _ _).alloc (Nat.le_refl _) _).alloc (by simp) _⟩
  · go_enter Tryz.func17, Tryz.ntmps17
    go_wp2_with fail
    refine (unhide H _ _).mono ?_
    rintro e w1 ⟨⟨b, rfl⟩, hb⟩
    go_wp2
    go_ret
    exact ⟨⟨_, rfl⟩, (((Below.refl _ _).alloc (Nat.le_refl _) _).alloc (by simp) _).trans (hb.mono (by simp; omega))⟩

end Go.Proofs.YthnkmjkgcnhlfaaGreatDoor

namespace Go.Proofs.YthnkmjkgcnhlfaaGreatDoor

theorem byt_len {w : World} {v : Value} (h : Byt w v) : ∃ ao n cap, v = .slice ao n cap ∧ n ≤ 9223372036854775807 := by
  obtain ⟨ao, b, off, n, cap, rfl, h1, h2, _⟩ := h
  exact ⟨ao, n, cap, rfl, by omega⟩

end Go.Proofs.YthnkmjkgcnhlfaaGreatDoor

namespace Go.Proofs.YthnkmjkgcnhlfaaGreatDoor
open Go.RowKit

/-- The law began in w; now, in W, each of 'bs' (block, sign, slice, list, scale) stands in its box. -/
structure DS (w W : World) (bs : List (Nat × Bool × Value × List Int × Int)) : Prop where
  below : Below w.heap.size w W
  box : ∀ b ∈ bs, W.cell? ⟨b.1, 0, none⟩ = some (.bool b.2.1) ∧ W.cell? ⟨b.1, 1, none⟩ = some b.2.2.1 ∧ W.cell? ⟨b.1, 2, none⟩ = some (.int .i64 b.2.2.2.2) ∧ Reads W b.2.2.1 b.2.2.2.1 ∧ b.1 < W.heap.size

theorem DS.start {w W : World} (h : Below w.heap.size w W) : DS w W [] := ⟨h, by simp⟩

theorem DS.later {w W W' : World} {bs : List (Nat × Bool × Value × List Int × Int)} (h : DS w W bs) (k : Below W.heap.size W W') : DS w W' bs :=
  ⟨h.below.trans (k.mono h.below.size), fun b hb => ⟨cell_later k (h.box b hb).1, cell_later k (h.box b hb).2.1, cell_later k (h.box b hb).2.2.1, (h.box b hb).2.2.2.1.later k, Nat.lt_of_lt_of_le (h.box b hb).2.2.2.2 k.size⟩⟩

theorem DS.add {w W : World} {bs : List (Nat × Bool × Value × List Int × Int)} (h : DS w W bs) (g : Bool) (v : Value) (l : List Int) (s : Int) (hr : Reads W v l) :
    DS w (W.alloc (.cells #[.bool g, v, .int .i64 s] 27)) (bs ++ [(W.heap.size, g, v, l, s)]) := by
  have k : Below W.heap.size W (W.alloc (.cells #[.bool g, v, .int .i64 s] 27)) := (Below.refl _ _).alloc (Nat.le_refl _) _
  refine ⟨(h.later k).below, fun b hb => ?_⟩
  rcases List.mem_append.1 hb with hb | hb
  · exact (h.later k).box b hb
  · simp at hb
    subst hb
    exact ⟨by simp, by simp, by simp, hr.later k, by simp⟩

theorem DS.less {w W : World} {bs bs' : List (Nat × Bool × Value × List Int × Int)} (h : DS w W bs) (k : ∀ b ∈ bs', b ∈ bs) : DS w W bs' := ⟨h.below, fun b hb => h.box b (k b hb)⟩

end Go.Proofs.YthnkmjkgcnhlfaaGreatDoor

namespace Go.Proofs.YthnkmjkgcnhlfaaGreatDoor
open Go.RowKit

/-- A box for a decimal that stands empty. -/
structure EDb (w : World) (k : Nat) : Prop where
  c0 : w.cell? ⟨k, 0, none⟩ = some (.bool false)
  c1 : w.cell? ⟨k, 1, none⟩ = some (.slice none 0 0)
  c2 : w.cell? ⟨k, 2, none⟩ = some (.int .i64 0)
  f0 : w.frozen? ⟨k, 0, none⟩ = false
  f1 : w.frozen? ⟨k, 1, none⟩ = false
  f2 : w.frozen? ⟨k, 2, none⟩ = false
  lt : k < w.heap.size

theorem EDb.later {w w' : World} {k : Nat} (h : EDb w k) (b : Below w.heap.size w w') : EDb w' k :=
  ⟨cell_later b h.c0, cell_later b h.c1, cell_later b h.c2, frozen_later b h.f0 h.lt, frozen_later b h.f1 h.lt, frozen_later b h.f2 h.lt, lt_later b h.lt⟩

theorem EDb.new (X : World) : EDb (X.alloc (.cells #[.bool false, .slice none 0 0, .int .i64 0] 27)) X.heap.size :=
  ⟨by go_simp, by go_simp, by go_simp, by go_simp, by go_simp, by go_simp, by simp⟩

theorem EDb.alloc {X w' : World} (b : Below (X.alloc (.cells #[.bool false, .slice none 0 0, .int .i64 0] 27)).heap.size (X.alloc (.cells #[.bool false, .slice none 0 0, .int .i64 0] 27)) w') : EDb w' X.heap.size := (EDb.new X).later b

theorem EDb.drew {X w' : World} (b : Below (X.alloc (.cells #[.bool false, .slice none 0 0, .int .i64 0] 27)).drew.heap.size (X.alloc (.cells #[.bool false, .slice none 0 0, .int .i64 0] 27)).drew w') : EDb w' X.heap.size :=
  ((EDb.new X).later (Below.refl _ _).drew).later b

/-- A box that stood empty is filled. -/
theorem Stt.set3 {w w1 : World} {cs : List (Nat × Nat × Value)} {os : List (Nat × Nat × Value × List Int)} (h : Stt w w1 cs os) {k : Nat} {x y z a b c : Value} (h0 : w1.cell? ⟨k, 0, none⟩ = some a) (h1 : w1.cell? ⟨k, 1, none⟩ = some b) (h2 : w1.cell? ⟨k, 2, none⟩ = some c)
    (hk : w.heap.size ≤ k) (hcs : ∀ c ∈ cs, c.1 ≠ k) (hos : ∀ o ∈ os, k < o.1 ∨ o.2.1 ≤ k) :
    Stt w (((w1.setCell ⟨k, 0, none⟩ x).setCell ⟨k, 1, none⟩ y).setCell ⟨k, 2, none⟩ z) (cs ++ [(k, 0, x), (k, 1, y), (k, 2, z)]) os := by
  have hh : ∀ j, j ≠ k → (((w1.setCell ⟨k, 0, none⟩ x).setCell ⟨k, 1, none⟩ y).setCell ⟨k, 2, none⟩ z).heap[j]? = w1.heap[j]? := by
    intro j hj
    rw [Below.heap_setCell _ _ _ _ (by exact hj), Below.heap_setCell _ _ _ _ (by exact hj), Below.heap_setCell _ _ _ _ (by exact hj)]
  refine ⟨((h.below.setCell (by exact hk) _).setCell (by exact hk) _).setCell (by exact hk) _, fun c hm => ?_, fun o hm => ?_⟩
  · rcases List.mem_append.1 hm with hm | hm
    · exact (World.cell?_of_block (a := ⟨c.1, c.2.1, none⟩) (hh c.1 (hcs c hm))).trans (h.cells c hm)
    · simp at hm
      rcases hm with rfl | rfl | rfl
      · go_simp
      · go_simp
      · go_simp
  · obtain ⟨q1, q2, q3, q4⟩ := h.owns o hm
    refine ⟨World.ownsRow.kept (row := some k) q1 ⟨rfl, rfl, rfl, by simp, fun j _ hj => hh j (fun e => hj (by rw [e]))⟩ ?_, q2, by simpa using q3, q4⟩
    cases hb : o.2.2.1.ownBlock with
    | none => exact .inl rfl
    | some j =>
      refine .inr (fun e => ?_)
      obtain rfl := Option.some.inj e
      have a := (q1.lt j hb).1
      have b := q2 j hb
      have := hos o hm
      omega

/-- A box that was made behind wb is filled. -/
theorem Stt.fill3 {w wb w5 : World} {cs : List (Nat × Nat × Value)} {os : List (Nat × Nat × Value × List Int)} {n : Nat × Nat × Value × List Int} (Sb : Stt w wb cs os) (S5 : Stt w w5 cs (os ++ [n])) {k : Nat} (E : EDb w5 k) (hk : wb.heap.size ≤ k) (hn : k < n.1) (x y z : Value) :
    Stt w (((w5.setCell ⟨k, 0, none⟩ x).setCell ⟨k, 1, none⟩ y).setCell ⟨k, 2, none⟩ z) (cs ++ [(k, 0, x), (k, 1, y), (k, 2, z)]) (os ++ [n]) := by
  refine S5.set3 E.c0 E.c1 E.c2 (Nat.le_trans Sb.below.size hk) (fun c hc => Nat.ne_of_lt (Nat.lt_of_lt_of_le (World.block_lt_of_cell? _ _ (Sb.cells c hc)) hk)) ?_
  intro o ho
  rcases List.mem_append.1 ho with ho | ho
  · exact .inr (Nat.le_trans (Sb.owns o ho).2.2.1 hk)
  · simp at ho
    subst ho
    exact .inl hn

end Go.Proofs.YthnkmjkgcnhlfaaGreatDoor

namespace Go.Proofs.YthnkmjkgcnhlfaaGreatDoor
open Go.RowKit

/-- A box more, by what its cells hold now. -/
theorem DS.plus {w W : World} {bs : List (Nat × Bool × Value × List Int × Int)} (h : DS w W bs) {b : Nat} {g : Bool} {v : Value} {l : List Int} {s : Int}
    (h0 : W.cell? ⟨b, 0, none⟩ = some (.bool g)) (h1 : W.cell? ⟨b, 1, none⟩ = some v) (h2 : W.cell? ⟨b, 2, none⟩ = some (.int .i64 s)) (hr : Reads W v l) (hb : b < W.heap.size) :
    DS w W (bs ++ [(b, g, v, l, s)]) := by
  refine ⟨h.below, fun x hx => ?_⟩
  rcases List.mem_append.1 hx with hx | hx
  · exact h.box x hx
  · simp at hx
    subst hx
    exact ⟨h0, h1, h2, hr, hb⟩

/-- A list of one's own stands over stores of signs into the box that was made ahead of it and into the one behind it. -/
theorem Own.signs {B : Nat} {W : World} {v : Value} {l : List Int} (h : Own B W v l) (a : Addr) (ha : a.block < B) (o : Obj) (x y : Value) :
    Reads (((W.alloc o).setCell a x).setCell ⟨W.heap.size, 0, none⟩ y) v l := by
  have h1 : Own B ((W.alloc o).setCell a x) v l := (h.later ((Below.refl _ _).alloc (Nat.le_refl _) _)).setBelow ha x
  have h2 : Own B (((W.alloc o).setCell a x).setCell ⟨W.heap.size, 0, none⟩ y) v l :=
    ownsRow_setCell_other h1 (fun e => by have := (h.lt _ e).2; simp at this) y
  exact h2.reads

/-- A box that was made behind H, and stood empty, is filled. -/
theorem DS.fill {w H W : World} {bs : List (Nat × Bool × Value × List Int × Int)} (h : DS w H bs) (k : Below H.heap.size H W) {b B : Nat} (e : EDb W b) (hb : H.heap.size ≤ b) {v : Value} {l : List Int} (o : Own B W v l) (hB : b < B) (g : Bool) (s : Int) :
    DS w (((W.setCell ⟨b, 0, none⟩ (.bool g)).setCell ⟨b, 1, none⟩ v).setCell ⟨b, 2, none⟩ (.int .i64 s)) (bs ++ [(b, g, v, l, s)]) := by
  have e0 := e.c0
  have e1 := e.c1
  have e2 := e.c2
  have hl := e.lt
  refine (h.later (((k.setCell (p := ⟨b, 0, none⟩) hb (.bool g)).setCell (p := ⟨b, 1, none⟩) hb v).setCell (p := ⟨b, 2, none⟩) hb (.int .i64 s))).plus (by go_simp) (by go_simp) (by go_simp) ?_ (by simpa using hl)
  exact (((o.setBelow (a := ⟨b, 0, none⟩) hB _).setBelow (a := ⟨b, 1, none⟩) hB _).setBelow (a := ⟨b, 2, none⟩) hB _).reads

end Go.Proofs.YthnkmjkgcnhlfaaGreatDoor
