/- Drawn decimals that may be none: l14AnyDec by a contract. The place for a decimal, made first, while a reader that was made later goes on. A decimal, a scale and a way of rounding are drawn: DrawDecRound by a contract. A box of three cells beside what a law's walk carries. A decimal is the same as itself: jtDec by a contract. -/
import Derived.Test.YthnkmjkgcnhlfaaGreatDoorH06
import Derived.Test.YthnkmjkgcnhlfaaGreatDoorAny0
import Derived.Test.YthnkmjkgcnhlfaaGreatDoorH07
namespace Go.Proofs.YthnkmjkgcnhlfaaGreatDoor
open Go.RowKit
set_option maxRecDepth 100000

theorem EDR.set {w W : World} {R : Nat} (h : EDR w W R) {a : Addr} (ha : w.heap.size < a.block) (v : Value) : EDR w (W.setCell a v) R := by
  have hb := Below.heap_setCell W a v w.heap.size (by omega)
  exact ⟨grown_set h.grown (by omega) _, (World.cell?_of_block (w := W) (a := ⟨w.heap.size, 0, none⟩) hb).trans h.c0, (World.cell?_of_block (w := W) (a := ⟨w.heap.size, 1, none⟩) hb).trans h.c1, (World.cell?_of_block (w := W) (a := ⟨w.heap.size, 2, none⟩) hb).trans h.c2,
    (World.frozen?_of_block (w := W) (a := ⟨w.heap.size, 0, none⟩) hb).trans h.f0, (World.frozen?_of_block (w := W) (a := ⟨w.heap.size, 1, none⟩) hb).trans h.f1, (World.frozen?_of_block (w := W) (a := ⟨w.heap.size, 2, none⟩) hb).trans h.f2, by simpa using h.lt, h.hR⟩

/-- A decimal that is drawn, in a box at B1, while the reader goes on. -/
structure AnyD (w W : World) (R B1 p : Nat) (pg : Bool) (l : List Int) (s : Value) (sc : Int) : Prop where
  edr : EDR w W R
  c0 : W.cell? ⟨B1, 0, none⟩ = some (.bool pg)
  c1 : W.cell? ⟨B1, 1, none⟩ = some s
  c2 : W.cell? ⟨B1, 2, none⟩ = some (.int .i64 sc)
  f0 : W.frozen? ⟨B1, 0, none⟩ = false
  f1 : W.frozen? ⟨B1, 1, none⟩ = false
  f2 : W.frozen? ⟨B1, 2, none⟩ = false
  lt : B1 < W.heap.size
  own : Own (w.heap.size + 1) W s l
  ne : s.ownBlock ≠ some B1
  rd : RD W R p
  hB : w.heap.size < B1

/-- Whatever leaves all blocks alone but the reader's. -/
theorem AnyD.pick {w W W' : World} {R B1 p q : Nat} {pg : Bool} {l : List Int} {s : Value} {sc : Int} (h : AnyD w W R B1 p pg l s sc) (g : W.grownBy W' (some R)) (r : RD W' R q) : AnyD w W' R B1 q pg l s sc := by
  have hR := h.edr.hR
  have hB := h.hB
  have hb := g.block B1 h.lt (by simp; omega)
  exact ⟨h.edr.later g, (World.cell?_of_block (w := W) (a := ⟨B1, 0, none⟩) hb).trans h.c0, (World.cell?_of_block (w := W) (a := ⟨B1, 1, none⟩) hb).trans h.c1, (World.cell?_of_block (w := W) (a := ⟨B1, 2, none⟩) hb).trans h.c2,
    (World.frozen?_of_block (w := W) (a := ⟨B1, 0, none⟩) hb).trans h.f0, (World.frozen?_of_block (w := W) (a := ⟨B1, 1, none⟩) hb).trans h.f1, (World.frozen?_of_block (w := W) (a := ⟨B1, 2, none⟩) hb).trans h.f2,
    Nat.lt_of_lt_of_le h.lt g.size, h.own.grown g (by omega), h.ne, r, h.hB⟩

/-- Another scale in the box. -/
theorem AnyD.scale {w W : World} {R B1 p : Nat} {pg : Bool} {l : List Int} {s : Value} {sc : Int} (h : AnyD w W R B1 p pg l s sc) (x : Int) : AnyD w (W.setCell ⟨B1, 2, none⟩ (.int .i64 x)) R B1 p pg l s x := by
  have hR := h.edr.hR
  have hB := h.hB
  exact ⟨h.edr.set hB _, by simp [go_sem, h.c0], by simp [go_sem, h.c1], by simp [go_sem, h.c2], by simp [h.f0], by simp [h.f1], by simp [h.f2], by simpa using h.lt, h.own.setOther (by simpa using h.ne) _, h.ne, h.rd.set (by simp; omega) _, hB⟩

/-- Another number in the box. -/
theorem AnyD.num {w W W' : World} {R B1 p q : Nat} {pg pg' : Bool} {l l' : List Int} {s s' : Value} {sc : Int} (h : AnyD w W R B1 p pg l s sc) (g : W.grownBy W' (some R)) (r : RD W' R q) (o : Own W.heap.size W' s' l') :
    AnyD w ((W'.setCell ⟨B1, 0, none⟩ (.bool pg')).setCell ⟨B1, 1, none⟩ s') R B1 q pg' l' s' sc := by
  have k := h.pick g r
  have hR := h.edr.hR
  have hB := h.hB
  have hlt := h.lt
  have hne : s'.ownBlock ≠ some B1 := fun e => by
    have := (o.lt _ e).1
    omega
  have o' : Own (w.heap.size + 1) W' s' l' := o.mono (by omega)
  exact ⟨(k.edr.set hB _).set hB _, by simp [go_sem, k.c0], by simp [go_sem, k.c1], by simp [go_sem, k.c2], by simp [k.f0], by simp [k.f1], by simp [k.f2], by simpa using k.lt, (o'.setOther (by simpa using hne) _).setOther (by simpa using hne) _, hne, (k.rd.set (by simp; omega) _).set (by simp; omega) _, hB⟩

/-- What a drawing call answers that hands out a decimal, ok or not. -/
def DrawsAnyD (w : World) (R p k : Nat) (e : Ending) (w' : World) : Prop :=
  ∃ (pg : Bool) (l : List Int) (sc : Int) (ao : Option Addr) (cap q : Nat), e = .returned (.agg #[.bool pg, .slice ao l.length cap, .int .i64 sc]) ∧ l.length ≤ 17 ∧ Own w.heap.size w' (.slice ao l.length cap) l ∧ RD w' R q ∧ q ≤ p + k ∧ w.grownBy w' (some R)

theorem AnyD.gives {w W : World} {R B1 p q k : Nat} {pg : Bool} {l : List Int} {ao : Option Addr} {cap : Nat} {sc : Int} (h : AnyD w W R B1 q pg l (.slice ao l.length cap) sc) (hl : l.length ≤ 17) (hq : q ≤ p + k) :
    DrawsAnyD w R p k (.returned (.agg #[.bool pg, .slice ao l.length cap, .int .i64 sc])) (((W.setCell ⟨w.heap.size, 0, none⟩ (.bool pg)).setCell ⟨w.heap.size, 1, none⟩ (.slice ao l.length cap)).setCell ⟨w.heap.size, 2, none⟩ (.int .i64 sc)) := by
  have hR := h.edr.hR
  exact ⟨pg, l, sc, ao, cap, q, rfl, hl, (((h.own.setBelow (by simp) _).setBelow (by simp) _).setBelow (by simp) _).mono (by omega), ((h.rd.set (by exact hR) _).set (by exact hR) _).set (by exact hR) _, hq, grown_set (grown_set (grown_set h.edr.grown (by exact Nat.le_refl _) _) (by exact Nat.le_refl _) _) (by exact Nat.le_refl _) _⟩

set_option maxHeartbeats 2000000 in
theorem l14AnyDec_any (w : World) (R p : Nat) (hr : RD w R p) (hp : p ≤ 70000) :
    Calls Tryz.prog 66 #[.pointer (some ⟨R, 0, none⟩)] w (DrawsAnyD w R p 500) := by
  have hR := hr.lt
  have K0 : EDR w _ R := EDR.start hR
  have r0 := hr.alloc (.cells #[.bool false, .slice none 0 0, .int .i64 0] 27)
  have C := hide (l14Dec_any _ R p r0 (by omega))
  clear r0 hr
  go_enter Tryz.func66, Tryz.ntmps66
  go_wp2_with fail
  refine (unhide C).mono ?_
  rintro e w1 ⟨z, sc, ao, cap, q, rfl, hz, hsc, oz, r1, hq, g1⟩
  have K1 := K0.later g1
  simp only [World.size_alloc] at oz
  have hk1 := K1.lt
  have A1 : AnyD w (w1.alloc (.cells #[.bool (sg z), .slice ao (L z.natAbs).length cap, .int .i64 sc] 27)) R w1.heap.size q (sg z) (L z.natAbs) (.slice ao (L z.natAbs).length cap) sc := by
    refine ⟨K1.later (grown_alloc _ _ _), by go_simp, by go_simp, by go_simp, by go_simp, by go_simp, by go_simp, by simp, oz.later ((Below.refl _ _).alloc (Nat.le_refl _) _), ?_, r1.alloc _, hk1⟩
    intro e
    have := (oz.lt _ e).2
    omega
  clear C K0 K1 oz r1 g1
  generalize L z.natAbs = l at *
  generalize sg z = pg at *
  go_wp2_with fail
  refine (pick_any _ R _ 30 A1.rd (by omega) (by omega) (by omega)).mono ?_
  rintro e w2 ⟨x, rfl, hx, r2, g2⟩
  have A2 := A1.pick g2 r2
  clear A1 r2 g2
  generalize w1.heap.size = B1 at *
  have hl : l.length ≤ 17 := by omega
  by_cases h0 : x = 0
  · subst h0
    have C1 := hide (one_lit w2 R (q + 1) [-1, 13, 4611686018427387904] _ rfl A2.rd (by omega) (by simp) (by simp))
    go_wp2_with fail
    refine (unhide C1).mono ?_
    rintro e w3 ⟨y, rfl, -, r3, g3⟩
    have A3 := A2.pick g3 r3
    have A4 := A3.scale y
    obtain ⟨⟨-, d0, d1, d2, e0, e1, e2, dl, -⟩, k0, k1, k2, kf0, kf1, kf2, kl, -, -, -, kB⟩ := id A3
    clear C1 A2 A3 r3 g3
    go_wp2
    refine bodyPost_ret (v := .agg #[.bool pg, .slice ao l.length cap, .int .i64 y]) (by simp [results, Tryz.results66, go_sem, d0, d1, d2]) rfl ?_
    exact A4.gives hl (by omega)
  by_cases h1 : x = 1
  · subst h1
    have C1 := hide (l14Big_any w2 R (q + 1) 31 A2.rd (by omega) (by omega) (by omega))
    go_wp2_with fail
    refine (unhide C1).mono ?_
    rintro e w3 ⟨z3, a3, c3, q3, rfl, hz3, o3, r3, hq3, g3⟩
    have A3 := A2.pick g3 r3
    have A4 := A2.num (pg' := sg z3) g3 r3 o3
    obtain ⟨⟨-, d0, d1, d2, e0, e1, e2, dl, -⟩, k0, k1, k2, kf0, kf1, kf2, kl, -, -, -, kB⟩ := id A3
    clear C1 A2 A3 r3 g3 o3 h0
    go_wp2
    refine bodyPost_ret (v := .agg #[.bool (sg z3), .slice a3 (L z3.natAbs).length c3, .int .i64 sc]) (by simp [results, Tryz.results66, go_sem, d0, d1, d2]) rfl ?_
    exact A4.gives (by omega) (by omega)
  by_cases h2 : x = 2
  · subst h2
    have C1 := hide (l14AnyBig_any w2 R (q + 1) A2.rd (by omega))
    go_wp2_with fail
    refine (unhide C1).mono ?_
    rintro e w3 ⟨pg3, l3, a3, c3, q3, rfl, hl3, o3, r3, hq3, g3⟩
    have A3 := A2.pick g3 r3
    have A4 := A2.num (pg' := pg3) g3 r3 o3
    obtain ⟨⟨-, d0, d1, d2, e0, e1, e2, dl, -⟩, k0, k1, k2, kf0, kf1, kf2, kl, -, -, -, kB⟩ := id A3
    clear C1 A2 A3 r3 g3 o3 h0 h1
    go_wp2
    refine bodyPost_ret (v := .agg #[.bool pg3, .slice a3 l3.length c3, .int .i64 sc]) (by simp [results, Tryz.results66, go_sem, d0, d1, d2]) rfl ?_
    exact A4.gives hl3 (by omega)
  · have y0' : ((x : Int) == 0) = false := by rw [beq_eq_false_iff_ne]; omega
    have y1' : ((x : Int) == 1) = false := by rw [beq_eq_false_iff_ne]; omega
    have y2' : ((x : Int) == 2) = false := by rw [beq_eq_false_iff_ne]; omega
    obtain ⟨⟨-, d0, d1, d2, e0, e1, e2, dl, -⟩, k0, k1, k2, kf0, kf1, kf2, kl, -, -, -, kB⟩ := id A2
    go_wp2
    refine bodyPost_ret (v := .agg #[.bool pg, .slice ao l.length cap, .int .i64 sc]) (by simp [results, Tryz.results66, go_sem, d0, d1, d2]) rfl ?_
    exact A2.gives hl (by omega)

end Go.Proofs.YthnkmjkgcnhlfaaGreatDoor

namespace Go.Proofs.YthnkmjkgcnhlfaaGreatDoor
open Go.RowKit

structure EdY (w0 w : World) : Prop where
  below : Below w0.heap.size w0 w
  c0 : w.cell? ⟨w0.heap.size, 0, none⟩ = some (.bool false)
  c1 : w.cell? ⟨w0.heap.size, 1, none⟩ = some (.slice none 0 0)
  c2 : w.cell? ⟨w0.heap.size, 2, none⟩ = some (.int .i64 0)
  f0 : w.frozen? ⟨w0.heap.size, 0, none⟩ = false
  f1 : w.frozen? ⟨w0.heap.size, 1, none⟩ = false
  f2 : w.frozen? ⟨w0.heap.size, 2, none⟩ = false
  lt : w0.heap.size < w.heap.size

theorem EdY.later {w0 w w' : World} (h : EdY w0 w) (b : Below w.heap.size w w') : EdY w0 w' :=
  ⟨h.below.trans (b.mono h.below.size), cell_later b h.c0, cell_later b h.c1, cell_later b h.c2, frozen_later b h.f0 h.lt, frozen_later b h.f1 h.lt, frozen_later b h.f2 h.lt, lt_later b h.lt⟩
theorem EdY.start (w : World) : EdY w (w.alloc (.cells #[.bool false, .slice none 0 0, .int .i64 0] 27)) :=
  ⟨(Below.refl _ _).alloc (Nat.le_refl _) _, by go_simp, by go_simp, by go_simp, by go_simp, by go_simp, by go_simp, by simp⟩

theorem EdY.grown {w0 w w' : World} {R : Nat} (h : EdY w0 w) (hR : w0.heap.size < R) (g : w.grownBy w' (some R)) : EdY w0 w' := by
  have hlt := h.lt
  have gb : Below (w0.heap.size + 1) w w' := ⟨g.os, g.tape, g.output, g.size, fun k hk => g.block k (by omega) (by intro e; simp at e; omega)⟩
  have hb : w'.heap[w0.heap.size]? = w.heap[w0.heap.size]? := gb.block _ (by omega)
  exact ⟨h.below.trans (gb.mono (by omega)), (World.cell?_of_block (w := w) (a := ⟨w0.heap.size, 0, none⟩) hb).trans h.c0, (World.cell?_of_block (w := w) (a := ⟨w0.heap.size, 1, none⟩) hb).trans h.c1, (World.cell?_of_block (w := w) (a := ⟨w0.heap.size, 2, none⟩) hb).trans h.c2,
    (World.frozen?_of_block (w := w) (a := ⟨w0.heap.size, 0, none⟩) hb).trans h.f0, (World.frozen?_of_block (w := w) (a := ⟨w0.heap.size, 1, none⟩) hb).trans h.f1, (World.frozen?_of_block (w := w) (a := ⟨w0.heap.size, 2, none⟩) hb).trans h.f2, Nat.lt_of_lt_of_le hlt g.size⟩

end Go.Proofs.YthnkmjkgcnhlfaaGreatDoor

namespace Go.Proofs.YthnkmjkgcnhlfaaGreatDoor
open Go.RowKit
set_option maxRecDepth 100000

set_option maxHeartbeats 2000000 in
theorem drawDecRound_any (w : World) (v : Value) (h : Byt w v) :
    Calls Tryz.prog 36 #[v] w fun e w' => ∃ (pg : Bool) (l : List Int) (sc t m : Int) (ao : Option Addr) (cap : Nat), e = .returned (.tuple #[.agg #[.bool pg, .slice ao l.length cap, .int .i64 sc], .int .i64 t, .int .i64 m]) ∧ l.length ≤ 17 ∧ Own w.heap.size w' (.slice ao l.length cap) l ∧ Below w.heap.size w w' := by
  have K0 := EdY.start w
  have C0 := hide (fun W (b : Below w.heap.size w W) => l1Open_any W v (h.later b))
  go_enter Tryz.func36, Tryz.ntmps36
  go_wp2_with fail
  refine (unhide C0 _ K0.below).mono ?_
  rintro e w1 ⟨rfl, r1, b1, z1⟩
  have K1 := K0.later b1
  simp only [World.size_alloc] at r1 z1
  clear C0 K0 b1
  have hR1 := r1.lt
  have C2 := hide (l14AnyDec_any w1 _ 0 r1 (by omega))
  go_wp2_with fail
  refine (unhide C2).mono ?_
  rintro e w2 ⟨pg, l, sc, ao, cap, q, rfl, hl, o2, r2, hq, g2⟩
  have K2 := K1.grown (by omega) g2
  clear C2 K1 r1 g2
  go_wp2_with fail
  refine (pick_any w2 _ q 15 r2 (by omega) (by omega) (by omega)).mono ?_
  rintro e w3 ⟨x, rfl, hx, r3, g3⟩
  have K3 := K2.grown (by omega) g3
  have o3 := o2.grown g3 (by omega)
  have C3 := hide (one_lit w3 _ (q + 1) [0, 1, 2, 6, 12, (x : Int) - 1] _ rfl r3 (by omega) (by simp) (by simp))
  clear K2 r2 g3 o2
  go_wp2_with fail
  refine (unhide C3).mono ?_
  rintro e w4 ⟨t, rfl, -, r4, g4⟩
  have K4 := K3.grown (by omega) g4
  have o4 := o3.grown g4 (by omega)
  clear C3 K3 r3 g4 o3
  go_wp2_with fail
  refine (pick_any w4 _ (q + 1 + 1) 9 r4 (by omega) (by omega) (by omega)).mono ?_
  rintro e w5 ⟨m, rfl, hm, r5, g5⟩
  have K5 := K4.grown (by omega) g5
  have o5 := o4.grown g5 (by omega)
  have o6 : Own (w.heap.size + 1) w5 _ l := o5.mono (by omega)
  clear K4 r4 r5 g5 o4 o5
  obtain ⟨kb, kc0, kc1, kc2, kf0, kf1, kf2, kl⟩ := id K5
  go_wp2
  refine bodyPost_ret (v := .tuple #[.agg #[.bool pg, .slice ao l.length cap, .int .i64 sc], .int .i64 t, .int .i64 m]) (by simp [results, Tryz.results36, go_sem, kc0, kc1, kc2]) rfl ?_
  exact ⟨pg, l, sc, t, m, ao, cap, rfl, hl, (((o6.setBelow (by simp) _).setBelow (by simp) _).setBelow (by simp) _).mono (by omega), ((kb.setCell (by simp) _).setCell (by simp) _).setCell (by simp) _⟩

end Go.Proofs.YthnkmjkgcnhlfaaGreatDoor

namespace Go.Proofs.YthnkmjkgcnhlfaaGreatDoor
open Go.RowKit

/-- A box more, of three cells. -/
theorem Stt.box3 {w w1 : World} {cs : List (Nat × Nat × Value)} {os : List (Nat × Nat × Value × List Int)} (h : Stt w w1 cs os) (x y z : Value) (t : TypeId) :
    Stt w (w1.alloc (.cells #[x, y, z] t)) (cs ++ [(w1.heap.size, 0, x), (w1.heap.size, 1, y), (w1.heap.size, 2, z)]) os := by
  have k : Below w1.heap.size w1 (w1.alloc (.cells #[x, y, z] t)) := (Below.refl _ _).alloc (Nat.le_refl _) _
  refine ⟨(h.later k).below, fun c hm => ?_, (h.later k).owns⟩
  rcases List.mem_append.1 hm with hm | hm
  · exact (h.later k).cells c hm
  · simp at hm
    rcases hm with rfl | rfl | rfl <;> simp

end Go.Proofs.YthnkmjkgcnhlfaaGreatDoor

namespace Go.Proofs.YthnkmjkgcnhlfaaGreatDoor
open Go.RowKit
set_option maxRecDepth 100000

theorem jtDec_same (w : World) (p : Bool) (u v : Value) (l : List Int) (s : Int) (hu : Reads w u l) (hv : Reads w v l) :
    Calls Tryz.prog 17 #[.agg #[.bool p, u, .int .i64 s], .agg #[.bool p, v, .int .i64 s]] w fun e w' => e = .returned (.bool true) ∧ Below w.heap.size w w' := by
  have h := fun o o' => jtBig_same ((w.alloc o).alloc o') p u v l ((hu.alloc _).alloc _) ((hv.alloc _).alloc _)
  have H := hide h
  clear h
  have e0 : (s == s) = true := by simp
  go_enter Tryz.func17, Tryz.ntmps17
  go_wp2_with fail
  refine (unhide H _ _).mono ?_
  rintro e w1 ⟨rfl, hb⟩
  go_wp2
  go_ret
  exact ⟨rfl, (((Below.refl _ _).alloc (Nat.le_refl _) _).alloc (by simp) _).trans (hb.mono (by simp; omega))⟩

end Go.Proofs.YthnkmjkgcnhlfaaGreatDoor
