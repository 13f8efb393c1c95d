/- Boxes and lists beside a reader; two numbers drawn. Drawn numbers that may be none: l14AnyBig by a contract. Drawn decimals that may be none: l14AnyDec by a contract. -/
import Derived.Test.YtdklikicngmkbaaGreatDoorH02
import Derived.Test.YtdklikicngmkbaaGreatDoorH05
import Derived.Deep.RegionLaw
import Derived.Deep.AppendLies
namespace Go.Proofs.YtdklikicngmkbaaGreatDoor
open Go.RowKit


/-- A box that stands empty, and its cells. -/
structure BX (w : World) (B : Nat) : Prop where
  c0 : w.cell? ⟨B, 0, none⟩ = some (.bool false)
  c1 : w.cell? ⟨B, 1, none⟩ = some (.slice none 0 0)
  f0 : w.frozen? ⟨B, 0, none⟩ = false
  f1 : w.frozen? ⟨B, 1, none⟩ = false
  lt : B < w.heap.size

theorem BX.grown {w w' : World} {B : Nat} {r : Option Nat} (h : BX w B) (g : w.grownBy w' r) (hne : some B ≠ r) : BX w' B := by
  have hb := g.block B h.lt hne
  exact ⟨(World.cell?_of_block (w := w) (a := ⟨B, 0, none⟩) hb).trans h.c0, (World.cell?_of_block (w := w) (a := ⟨B, 1, none⟩) hb).trans h.c1,
    (World.frozen?_of_block (w := w) (a := ⟨B, 0, none⟩) hb).trans h.f0, (World.frozen?_of_block (w := w) (a := ⟨B, 1, none⟩) hb).trans h.f1, Nat.lt_of_lt_of_le h.lt g.size⟩

theorem Own.grown {B : Nat} {w w' : World} {v : Value} {l : List Int} (h : Own B w v l) {R : Nat} (g : w.grownBy w' (some R)) (hR : R < B) : Own B w' v l := by
  refine World.ownsRow.kept h g ?_
  cases hk : v.ownBlock with
  | none => exact .inl rfl
  | some k =>
    refine .inr ?_
    have := (h.lt k hk).1
    simp
    omega

/-- What a call answers that draws two numbers that are ok. -/
def DrawsTwo (w : World) (e : Ending) (w' : World) : Prop :=
  ∃ (a b : Int) (ao : Option Addr) (ca : Nat) (bo : Option Addr) (cb : Nat), e = .returned (.tuple #[.agg #[.bool (sg a), .slice ao (L a.natAbs).length ca], .agg #[.bool (sg b), .slice bo (L b.natAbs).length cb]]) ∧ (L a.natAbs).length ≤ 16 ∧ (L b.natAbs).length ≤ 16 ∧
    Own w.heap.size w' (.slice ao (L a.natAbs).length ca) (L a.natAbs) ∧ Own w.heap.size w' (.slice bo (L b.natAbs).length cb) (L b.natAbs) ∧ Below w.heap.size w w'

theorem draw64 {w : World} {R p : Nat} (hr : RD w R p) (hp : p ≤ 90000) : Calls Tryz.prog 100 #[.pointer (some ⟨R, 0, none⟩), .int .i64 64] w (Draws w R p 200) := l14Big_any w R p 64 hr hp (by omega) (by omega)

theorem draw33 {w : World} {R p : Nat} (hr : RD w R p) (hp : p ≤ 90000) : Calls Tryz.prog 100 #[.pointer (some ⟨R, 0, none⟩), .int .i64 33] w (Draws w R p 200) := l14Big_any w R p 33 hr hp (by omega) (by omega)

end Go.Proofs.YtdklikicngmkbaaGreatDoor

namespace Go.Proofs.YtdklikicngmkbaaGreatDoor
open Go.RowKit


/-- One element more at the end of an owned list; nothing but that list's block is written. -/
theorem wpList_pushG {wr : World} {ops : Array Oper} {rest : List Oper} {o : Oper} {a : Act} {Q : Exit → Act → World → Prop}
    (hg : o.guard = none) (s x : Operand) (t : TypeId) (hop : o.op = Op.call { callee := Callee.builtin Builtin.append, args := #[s, x], argTypes := #[t, t] })
    (ht : Tryz.prog.underlying t = some (.slice 3)) (B : Nat) (v : Value) (l : List Int) (y : Int) (hown : Own B wr v l) (hs : a.eval s = v) (hx : a.eval x = .slice (some ⟨wr.heap.size, 0, none⟩) 1 1)
    (hlen : l.length ≤ 8000000) (hB : B ≤ wr.heap.size)
    (hK : ∀ g cap w', Own B w' (.slice (some ⟨g, 0, none⟩) (l.length + 1) cap) (l ++ [y]) → wr.grownBy w' v.ownBlock → l.length + 1 ≤ cap → cap ≤ 9223372036854775807 → B ≤ g → g < w'.heap.size →
      wpList Tryz.prog ops Q rest (a.put o.dst (.slice (some ⟨g, 0, none⟩) (l.length + 1) cap)) w') :
    wpList Tryz.prog ops Q (o :: rest) a (wr.alloc (.cells #[.int .i64 y] 3)) := by
  obtain ⟨i0, hi, hz0, hz1, hz2⟩ := info_parts Tryz.info3
  refine wpList_append_own _ hg s x t hop B 3 i0 (.int .i64 0) 1 8 ht hi hz0 hz1 hz2 rfl (by decide) v l.length (ints l) hs (World.ownsRow.alloc hown _) ⟨wr.heap.size, 0, none⟩ 1 1 [.int .i64 y] hx rfl (cell_one_new _ _ _) (by intro u hu; simp at hu; subst hu; rfl) (by unfold maxLen; omega) (by omega) (by simp; omega) ?_
  intro v' w' hown' hgrow' _
  have hO : Own B w' v' (l ++ [y]) := by
    unfold Own
    rw [ints_app, List.length_append]
    exact hown'
  have hb : wr.grownBy w' v.ownBlock := grown_trans (grown_alloc wr _ _) hgrow'
  rcases hO.split with ⟨_, h0⟩ | ⟨g, cap, rfl, hBg, hgs, hcap, hm⟩
  · simp at h0
  · rw [List.length_append] at hO hcap ⊢
    exact hK g cap w' hO hb hcap hm hBg hgs

theorem step_pushG {W : World} {ops : Array Oper} {o : Oper} {a : Act} {K : Act → World → Prop} {Q : Exit → Act → World → Prop} {E : Prop} (hgd : o.guard = none) (s x : Operand) (t : TypeId)
    (ho : o.op = .call { callee := .builtin .append, args := #[s, x], argTypes := #[t, t] }) (ht : Tryz.prog.underlying t = some (.slice 3)) (B : Nat) (v : Value) (l : List Int) (y : Int) (hown : Own B W v l) (hs : a.eval s = v)
    (g0 : Nat) (hx : a.eval x = .slice (some ⟨g0, 0, none⟩) 1 1) (hc : W.cell? ⟨g0, 0, none⟩ = some (.int .i64 y)) (hlen : l.length ≤ 8000000) (hB : B ≤ W.heap.size)
    (h : ∀ g cap w', Own B w' (.slice (some ⟨g, 0, none⟩) (l.length + 1) cap) (l ++ [y]) → W.grownBy w' v.ownBlock → K (a.put o.dst (.slice (some ⟨g, 0, none⟩) (l.length + 1) cap)) w') :
    if Region.wanted o (yielded ops a.tmps) = true then Oper.wp Tryz.prog o a W K Q else E := by
  obtain ⟨i0, hi, hz0, hz1, hz2⟩ := info_parts Tryz.info3
  refine step_append_lies _ hgd s x t ho B 3 i0 (.int .i64 0) 1 8 ht hi hz0 hz1 hz2 rfl (by decide) v l.length (ints l) hs hown ⟨g0, 0, none⟩ 1 1 [.int .i64 y] hx rfl ?_ (by intro u hu; simp at hu; subst hu; rfl) (by decide) (by unfold maxLen; omega) (by omega) hB _ rfl ?_
  · intro j u hu
    have hj : j = 0 := by
      have := (List.getElem?_eq_some_iff.1 hu).1
      simpa using this
    subst hj
    simp at hu
    subst hu
    simpa [Addr.add] using hc
  · intro g cap w' h1 h2 _ _
    refine h g cap w' ?_ h2
    unfold Own
    rw [ints_app, List.length_append]
    exact h1

theorem lit_one (w : World) (y : Int) : (w.alloc (.cells #[.int .i64 y] 3)).cell? ⟨w.heap.size, 0, none⟩ = some (.int .i64 y) := by simp [go_sem]

/-- A number that is drawn, in a box at B1, while the reader goes on. -/
structure AnyB (w W : World) (R B1 p : Nat) (pg : Bool) (l : List Int) (s : Value) : Prop where
  ebr : EBR w W R
  c0 : W.cell? ⟨B1, 0, none⟩ = some (.bool pg)
  c1 : W.cell? ⟨B1, 1, none⟩ = some s
  f1 : W.frozen? ⟨B1, 1, none⟩ = false
  lt : B1 < W.heap.size
  own : Own (w.heap.size + 1) W s l
  ne : s.ownBlock ≠ some B1
  rd : RD W R p
  hB : w.heap.size < B1

/-- Whatever leaves all blocks alone but the reader's. -/
theorem AnyB.pick {w W W' : World} {R B1 p q : Nat} {pg : Bool} {l : List Int} {s : Value} (h : AnyB w W R B1 p pg l s) (g : W.grownBy W' (some R)) (r : RD W' R q) : AnyB w W' R B1 q pg l s := by
  have hR := h.ebr.hR
  have hB := h.hB
  have hb := g.block B1 h.lt (by simp; omega)
  exact ⟨h.ebr.later g, (World.cell?_of_block (w := W) (a := ⟨B1, 0, none⟩) hb).trans h.c0, (World.cell?_of_block (w := W) (a := ⟨B1, 1, none⟩) hb).trans h.c1, (World.frozen?_of_block (w := W) (a := ⟨B1, 1, none⟩) hb).trans h.f1,
    Nat.lt_of_lt_of_le h.lt g.size, h.own.grown g (by omega), h.ne, r, h.hB⟩

theorem AnyB.later {w W W' : World} {R B1 p : Nat} {pg : Bool} {l : List Int} {s : Value} (h : AnyB w W R B1 p pg l s) (b : Below W.heap.size W W') : AnyB w W' R B1 p pg l s :=
  h.pick (grown_below b) (h.rd.later b)

/-- Another list in the box. -/
theorem AnyB.push {w W W' : World} {R B1 p : Nat} {pg : Bool} {l : List Int} {s : Value} {y : Int} {g cap : Nat} (h : AnyB w W R B1 p pg l s) (k : W.grownBy W' s.ownBlock) (o : Own (w.heap.size + 1) W' (.slice (some ⟨g, 0, none⟩) (l.length + 1) cap) (l ++ [y])) :
    AnyB w (W'.setCell ⟨B1, 1, none⟩ (.slice (some ⟨g, 0, none⟩) (l.length + 1) cap)) R B1 p pg (l ++ [y]) (.slice (some ⟨g, 0, none⟩) (l.length + 1) cap) ∧ W'.frozen? ⟨B1, 1, none⟩ = false ∧ W'.cell? ⟨B1, 1, none⟩ = some s ∧ B1 < W'.heap.size ∧ EBR w W' R ∧ W'.cell? ⟨B1, 0, none⟩ = some (.bool pg) := by
  have hR := h.ebr.hR
  have hB := h.hB
  have hlow : ∀ i, i ≤ w.heap.size → i < W.heap.size → W'.heap[i]? = W.heap[i]? := by
    intro i hi hw
    refine k.block i hw ?_
    intro e
    have := (h.own.lt i e.symm).1
    omega
  have hb := k.block B1 h.lt (fun e => h.ne e.symm)
  have c0 : W'.cell? ⟨B1, 0, none⟩ = some (.bool pg) := (World.cell?_of_block (w := W) (a := ⟨B1, 0, none⟩) hb).trans h.c0
  have c1 : W'.cell? ⟨B1, 1, none⟩ = some s := (World.cell?_of_block (w := W) (a := ⟨B1, 1, none⟩) hb).trans h.c1
  have f1 : W'.frozen? ⟨B1, 1, none⟩ = false := (World.frozen?_of_block (w := W) (a := ⟨B1, 1, none⟩) hb).trans h.f1
  have hlt : B1 < W'.heap.size := Nat.lt_of_lt_of_le h.lt k.size
  have hne : g ≠ B1 := by
    intro e
    subst e
    have := o.cellAt (i := 0) (by simp)
    rw [c0] at this
    cases this
  have hlt0 := h.ebr.lt
  have hE : EBR w W' R := by
    have hb0 := hlow w.heap.size (Nat.le_refl _) hlt0
    exact ⟨⟨k.os.trans h.ebr.grown.os, k.tape.trans h.ebr.grown.tape, k.output.trans h.ebr.grown.output, Nat.le_trans h.ebr.grown.size k.size, fun i hi hr => (hlow i (Nat.le_of_lt hi) (Nat.lt_trans hi hlt0)).trans (h.ebr.grown.block i hi hr)⟩,
      (World.cell?_of_block (w := W) (a := ⟨w.heap.size, 0, none⟩) hb0).trans h.ebr.c0, (World.cell?_of_block (w := W) (a := ⟨w.heap.size, 1, none⟩) hb0).trans h.ebr.c1,
      (World.frozen?_of_block (w := W) (a := ⟨w.heap.size, 0, none⟩) hb0).trans h.ebr.f0, (World.frozen?_of_block (w := W) (a := ⟨w.heap.size, 1, none⟩) hb0).trans h.ebr.f1, Nat.lt_of_lt_of_le hlt0 k.size, hR⟩
  have hrd : RD W' R p := h.rd.keep k.size (fun i hi => hlow i (by omega) (by omega))
  refine ⟨⟨?_, ?_, ?_, ?_, by simpa using hlt, ?_, by simp [Value.ownBlock]; exact hne, hrd.set (by simp; omega) _, hB⟩, f1, c1, hlt, hE, c0⟩
  · refine ⟨grown_set hE.grown (by simp; omega) _, ?_, ?_, ?_, ?_, by simpa using hE.lt, hR⟩
    · exact (World.cell?_of_block (w := W') (a := ⟨w.heap.size, 0, none⟩) (Below.heap_setCell W' ⟨B1, 1, none⟩ _ w.heap.size (by simp; omega))).trans hE.c0
    · exact (World.cell?_of_block (w := W') (a := ⟨w.heap.size, 1, none⟩) (Below.heap_setCell W' ⟨B1, 1, none⟩ _ w.heap.size (by simp; omega))).trans hE.c1
    · exact (World.frozen?_of_block (w := W') (a := ⟨w.heap.size, 0, none⟩) (Below.heap_setCell W' ⟨B1, 1, none⟩ _ w.heap.size (by simp; omega))).trans hE.f0
    · exact (World.frozen?_of_block (w := W') (a := ⟨w.heap.size, 1, none⟩) (Below.heap_setCell W' ⟨B1, 1, none⟩ _ w.heap.size (by simp; omega))).trans hE.f1
  · simp [go_sem, c0]
  · simp [go_sem, c1]
  · simp [f1]
  · exact o.setOther (by simp [Value.ownBlock]; exact hne) _

/-- What a drawing call answers that hands out a number, ok or not. -/
def DrawsAny (w : World) (R p k : Nat) (e : Ending) (w' : World) : Prop :=
  ∃ (pg : Bool) (l : List Int) (ao : Option Addr) (cap q : Nat), e = .returned (.agg #[.bool pg, .slice ao l.length cap]) ∧ l.length ≤ 17 ∧ Own w.heap.size w' (.slice ao l.length cap) l ∧ RD w' R q ∧ q ≤ p + k ∧ w.grownBy w' (some R)

theorem AnyB.gives {w W : World} {R B1 p q k : Nat} {pg : Bool} {l : List Int} {ao : Option Addr} {cap n : Nat} (h : AnyB w W R B1 q pg l (.slice ao n cap)) (hn : n = l.length) (hl : n ≤ 17) (hq : q ≤ p + k) :
    DrawsAny w R p k (.returned (.agg #[.bool pg, .slice ao n cap])) ((W.setCell ⟨w.heap.size, 0, none⟩ (.bool pg)).setCell ⟨w.heap.size, 1, none⟩ (.slice ao n cap)) := by
  subst hn
  exact ⟨pg, l, ao, cap, q, rfl, hl, ((h.own.setBelow (by simp) _).setBelow (by simp) _).mono (by omega), (h.rd.set (by exact h.ebr.hR) _).set (by exact h.ebr.hR) _, hq, grown_set (grown_set h.ebr.grown (by exact Nat.le_refl _) _) (by exact Nat.le_refl _) _⟩

set_option maxHeartbeats 1000000 in
set_option maxRecDepth 100000 in
theorem l14AnyBig_any (w : World) (R p : Nat) (hr : RD w R p) (hp : p ≤ 80000) :
    Calls Tryz.prog 101 #[.pointer (some ⟨R, 0, none⟩)] w (DrawsAny w R p 210) := by
  have hR := hr.lt
  have K0 : EBR w _ R := EBR.start hR
  have r0 := hr.alloc (.cells #[.bool false, .slice none 0 0] 25)
  have C := hide (draw64 r0 (by omega))
  clear r0 hr
  go_enter Tryz.func101, Tryz.ntmps101
  go_wp2_with fail
  refine (unhide C).mono ?_
  rintro e w1 ⟨z, ao, cap, q, rfl, hz, oz, r1, hq, g1⟩
  have K1 := K0.later g1
  simp only [World.size_alloc] at oz
  have hk1 := K1.lt
  have A1 : AnyB w (w1.alloc (.cells #[.bool (sg z), .slice ao (L z.natAbs).length cap] 25)) R w1.heap.size q (sg z) (L z.natAbs) (.slice ao (L z.natAbs).length cap) := by
    refine ⟨K1.later (grown_alloc _ _ _), by go_simp, by go_simp, by go_simp, by simp, oz.later ((Below.refl _ _).alloc (Nat.le_refl _) _), ?_, r1.alloc _, hk1⟩
    intro e
    have := (oz.lt _ e).2
    omega
  clear C K0 K1 oz r1 g1
  generalize L z.natAbs = l at *
  generalize sg z = pg at *
  go_wp2_with fail
  refine (pick_any _ R _ 30 A1.rd (by omega) (by omega) (by omega)).mono ?_
  rintro e w2 ⟨x, rfl, hx, r2, g2⟩
  have A2 := A1.pick g2 r2
  clear A1 r2 g2
  generalize w1.heap.size = B1 at *
  have hl : l.length ≤ 8000000 := by omega
  have hsz2 := A2.lt
  obtain ⟨⟨kg, kr0, kr1, kf0, kf1, kl, _⟩, k0, k1, kf, kz, ko, kn, krd, kB⟩ := id A2
  have KO := hide ko
  have shape := ko.split
  clear ko kn krd kg
  by_cases h2 : x = 2
  · subst h2
    go_wp2
    refine bodyPost_ret (v := .agg #[.bool true, .slice none 0 0]) (by simp [results, Tryz.results101, go_sem, kr0, kr1]) rfl ?_
    exact ⟨true, [], none, 0, q + 1, rfl, by simp, Own.nil _ _, (A2.rd.set (by exact hR) _).set (by exact hR) _, by omega, grown_set (grown_set A2.ebr.grown (by exact Nat.le_refl _) _) (by exact Nat.le_refl _) _⟩
  by_cases h0 : x = 0
  · subst h0
    clear h2
    rcases shape with ⟨e1, hz0⟩ | ⟨g, capo', e1, hBg, hgs, hcapo, hmo⟩
    all_goals
      simp only [Value.slice.injEq] at e1
      obtain ⟨rfl, hz2, rfl⟩ := e1
      clear hz2
      (try (clear hz0))
      go_wp2_with (at_builtin; refine wpList_pushG rfl _ _ 23 rfl Tryz.underlying23 (w.heap.size + 1) _ l _ (unhide KO) rfl rfl hl (by omega) ?_; intro g1 cap1 w3 hown1 hg1 hc1 hm1 hBg1 hgs1; obtain ⟨A3, f3, c3, l3, ⟨kg', kr0', kr1', kf0', kf1', kl', _⟩, d3⟩ := A2.push hg1 hown1)
      refine bodyPost_ret (v := .agg #[.bool pg, .slice (some ⟨g1, 0, none⟩) (l.length + 1) cap1]) (by simp [results, Tryz.results101, go_sem, kr0', kr1']) rfl ?_
      exact A3.gives (by simp) (by omega) (by omega)
  by_cases h3 : x = 3
  · subst h3
    clear h2 h0
    clear shape KO k1 k0 kf hsz2 kr0 kr1 kf0 kf1 kl kz
    have hl17 : l.length ≤ 17 := by omega
    go_wp2
    go_loopw [30] (fun _ wr => ∃ (l2 : List Int) (ao2 : Option Addr) (cap2 : Nat), l2.length ≤ 17 ∧ AnyB w wr R B1 (q + 1) pg l2 (.slice ao2 l2.length cap2)) (fun _ wr => match wr.cell? ⟨B1, 1, none⟩ with | some (.slice _ n _) => 17 - n | _ => 0)
    case atStart => exact ⟨l, ao, cap, hl17, A2⟩
    case round =>
      obtain ⟨l2, ao2, cap2, hl3, A5⟩ := hrel
      obtain ⟨⟨kg, kr0, kr1, kf0, kf1, kl, _⟩, k0, k1, kf, kz, ko, kn, krd, kB2⟩ := id A5
      have KO2 := hide ko
      have shape := ko.split
      have hl2 : l2.length ≤ 8000000 := by omega
      clear ko kn krd kg A2
      by_cases hlt : l2.length < 17
      · rcases shape with ⟨e1, hz0⟩ | ⟨g, capo', e1, hBg, hgs, hcapo, hmo⟩
        all_goals
          simp only [Value.slice.injEq] at e1
          obtain ⟨rfl, hz2, rfl⟩ := e1
          clear hz2
          (try (clear hz0))
          go_wp2_with (at_builtin; refine wpList_pushG rfl _ _ 23 rfl Tryz.underlying23 (w.heap.size + 1) _ l2 _ (unhide KO2) rfl rfl hl2 (by omega) ?_; intro g1 cap1 w3 hown1 hg1 hc1 hm1 hBg1 hgs1; obtain ⟨A3, f3, c3, l3, ⟨kg', kr0', kr1', kf0', kf1', kl', _⟩, d3⟩ := A5.push hg1 hown1)
          go_roundw
          case rel => exact ⟨l2 ++ [1], some ⟨g1, 0, none⟩, cap1, by simp; omega, by rw [List.length_append]; exact A3⟩
          case measure =>
            rw [A3.c1]
            simp only [k1]
            omega
      · go_wp2
        refine bodyPost_ret (v := .agg #[.bool pg, .slice ao2 l2.length cap2]) (by simp [results, Tryz.results101, go_sem, kr0, kr1]) rfl ?_
        exact A5.gives rfl hl3 (by omega)
  by_cases h1 : x = 1
  · subst h1
    clear h2 h0 h3 shape KO
    have bA : Below w2.heap.size w2 (w2.drew.alloc (.cells #[.int .i64 10000, .int .i64 (-1)] 3)) := ((Below.refl _ _).drew).alloc (Nat.le_refl _) _
    have A2d := A2.later bA
    have hRl := A2.rd.lt
    have hlit : Reads (w2.drew.alloc (.cells #[.int .i64 10000, .int .i64 (-1)] 3)) (.slice (some ⟨w2.heap.size, 0, none⟩) 2 2) [10000, -1] := reads_lit w2.drew [10000, -1] _ rfl (by simp)
    have C1 := hide (one_any _ R (q + 1) _ _ A2d.rd (by omega) hlit (by simp) (by simp) (fun b hb => by
      obtain ⟨o, n', c, e⟩ := hb
      simp at e
      omega))
    clear hlit bA hRl A2
    go_wp2
    go_region_law (first
      | (refine step_pushG (by rfl) _ _ 23 (by rfl) Tryz.underlying23 (w.heap.size + 1) (.slice ao l.length cap) l zz (unhide JO) (by rfl) w3.heap.size (by rfl) (unhide hcn) hl (unhide hBw) ?_; intro g1 cap1 w4 hown1 hg1; obtain ⟨A4, f4, c4, l4, ⟨kg', kr0', kr1', kf0', kf1', kl', _⟩, d4⟩ := (unhide A3x).push hg1 hown1)
      | (go_simp; go_at_call 57; refine (unhide C1).mono ?_; rintro e w3 ⟨zz, rfl, hzz, r3, g3⟩; have A3 := A2d.pick g3 r3; have A3x := hide (A3.later ((Below.refl _ _).alloc (Nat.le_refl _) (.cells #[.int .i64 zz] 3))); have JO := hide (unhide A3x).own; have jc1 := A3.c1; have jz := A3.lt; have hcn := hide (lit_one w3 zz); have hBw := hide (unhide A3x).ebr.lt; clear hzz r3 g3))
    all_goals
      clear k0 k1 kf kz kr0 kr1 kf0 kf1 kl A2d C1 A3 A3x JO jc1 jz hcn hBw
      go_wp2
      refine bodyPost_ret (v := .agg #[.bool pg, .slice (some ⟨g1, 0, none⟩) (l.length + 1) cap1]) (by simp [results, Tryz.results101, go_sem, kr0', kr1']) rfl ?_
      exact A4.gives (by simp) (by omega) (by omega)
  · go_wp2
    refine bodyPost_ret (v := .agg #[.bool pg, .slice ao l.length cap]) (by simp [results, Tryz.results101, go_sem, kr0, kr1]) rfl ?_
    exact A2.gives rfl (by omega) (by omega)

end Go.Proofs.YtdklikicngmkbaaGreatDoor

namespace Go.Proofs.YtdklikicngmkbaaGreatDoor
open Go.RowKit
set_option maxRecDepth 100000

theorem EDR.set {w W : World} {R : Nat} (h : EDR w W R) {a : Addr} (ha : w.heap.size < a.block) (v : Value) : EDR w (W.setCell a v) R := by
  have hb := Below.heap_setCell W a v w.heap.size (by omega)
  exact ⟨grown_set h.grown (by omega) _, (World.cell?_of_block (w := W) (a := ⟨w.heap.size, 0, none⟩) hb).trans h.c0, (World.cell?_of_block (w := W) (a := ⟨w.heap.size, 1, none⟩) hb).trans h.c1, (World.cell?_of_block (w := W) (a := ⟨w.heap.size, 2, none⟩) hb).trans h.c2,
    (World.frozen?_of_block (w := W) (a := ⟨w.heap.size, 0, none⟩) hb).trans h.f0, (World.frozen?_of_block (w := W) (a := ⟨w.heap.size, 1, none⟩) hb).trans h.f1, (World.frozen?_of_block (w := W) (a := ⟨w.heap.size, 2, none⟩) hb).trans h.f2, by simpa using h.lt, h.hR⟩

/-- A decimal that is drawn, in a box at B1, while the reader goes on. -/
structure AnyD (w W : World) (R B1 p : Nat) (pg : Bool) (l : List Int) (s : Value) (sc : Int) : Prop where
  edr : EDR w W R
  c0 : W.cell? ⟨B1, 0, none⟩ = some (.bool pg)
  c1 : W.cell? ⟨B1, 1, none⟩ = some s
  c2 : W.cell? ⟨B1, 2, none⟩ = some (.int .i64 sc)
  f0 : W.frozen? ⟨B1, 0, none⟩ = false
  f1 : W.frozen? ⟨B1, 1, none⟩ = false
  f2 : W.frozen? ⟨B1, 2, none⟩ = false
  lt : B1 < W.heap.size
  own : Own (w.heap.size + 1) W s l
  ne : s.ownBlock ≠ some B1
  rd : RD W R p
  hB : w.heap.size < B1

/-- Whatever leaves all blocks alone but the reader's. -/
theorem AnyD.pick {w W W' : World} {R B1 p q : Nat} {pg : Bool} {l : List Int} {s : Value} {sc : Int} (h : AnyD w W R B1 p pg l s sc) (g : W.grownBy W' (some R)) (r : RD W' R q) : AnyD w W' R B1 q pg l s sc := by
  have hR := h.edr.hR
  have hB := h.hB
  have hb := g.block B1 h.lt (by simp; omega)
  exact ⟨h.edr.later g, (World.cell?_of_block (w := W) (a := ⟨B1, 0, none⟩) hb).trans h.c0, (World.cell?_of_block (w := W) (a := ⟨B1, 1, none⟩) hb).trans h.c1, (World.cell?_of_block (w := W) (a := ⟨B1, 2, none⟩) hb).trans h.c2,
    (World.frozen?_of_block (w := W) (a := ⟨B1, 0, none⟩) hb).trans h.f0, (World.frozen?_of_block (w := W) (a := ⟨B1, 1, none⟩) hb).trans h.f1, (World.frozen?_of_block (w := W) (a := ⟨B1, 2, none⟩) hb).trans h.f2,
    Nat.lt_of_lt_of_le h.lt g.size, h.own.grown g (by omega), h.ne, r, h.hB⟩

/-- Another scale in the box. -/
theorem AnyD.scale {w W : World} {R B1 p : Nat} {pg : Bool} {l : List Int} {s : Value} {sc : Int} (h : AnyD w W R B1 p pg l s sc) (x : Int) : AnyD w (W.setCell ⟨B1, 2, none⟩ (.int .i64 x)) R B1 p pg l s x := by
  have hR := h.edr.hR
  have hB := h.hB
  exact ⟨h.edr.set hB _, by simp [go_sem, h.c0], by simp [go_sem, h.c1], by simp [go_sem, h.c2], by simp [h.f0], by simp [h.f1], by simp [h.f2], by simpa using h.lt, h.own.setOther (by simpa using h.ne) _, h.ne, h.rd.set (by simp; omega) _, hB⟩

/-- Another number in the box. -/
theorem AnyD.num {w W W' : World} {R B1 p q : Nat} {pg pg' : Bool} {l l' : List Int} {s s' : Value} {sc : Int} (h : AnyD w W R B1 p pg l s sc) (g : W.grownBy W' (some R)) (r : RD W' R q) (o : Own W.heap.size W' s' l') :
    AnyD w ((W'.setCell ⟨B1, 0, none⟩ (.bool pg')).setCell ⟨B1, 1, none⟩ s') R B1 q pg' l' s' sc := by
  have k := h.pick g r
  have hR := h.edr.hR
  have hB := h.hB
  have hlt := h.lt
  have hne : s'.ownBlock ≠ some B1 := fun e => by
    have := (o.lt _ e).1
    omega
  have o' : Own (w.heap.size + 1) W' s' l' := o.mono (by omega)
  exact ⟨(k.edr.set hB _).set hB _, by simp [go_sem, k.c0], by simp [go_sem, k.c1], by simp [go_sem, k.c2], by simp [k.f0], by simp [k.f1], by simp [k.f2], by simpa using k.lt, (o'.setOther (by simpa using hne) _).setOther (by simpa using hne) _, hne, (k.rd.set (by simp; omega) _).set (by simp; omega) _, hB⟩

/-- What a drawing call answers that hands out a decimal, ok or not. -/
def DrawsAnyD (w : World) (R p k : Nat) (e : Ending) (w' : World) : Prop :=
  ∃ (pg : Bool) (l : List Int) (sc : Int) (ao : Option Addr) (cap q : Nat), e = .returned (.agg #[.bool pg, .slice ao l.length cap, .int .i64 sc]) ∧ l.length ≤ 17 ∧ Own w.heap.size w' (.slice ao l.length cap) l ∧ RD w' R q ∧ q ≤ p + k ∧ w.grownBy w' (some R)

theorem AnyD.gives {w W : World} {R B1 p q k : Nat} {pg : Bool} {l : List Int} {ao : Option Addr} {cap : Nat} {sc : Int} (h : AnyD w W R B1 q pg l (.slice ao l.length cap) sc) (hl : l.length ≤ 17) (hq : q ≤ p + k) :
    DrawsAnyD w R p k (.returned (.agg #[.bool pg, .slice ao l.length cap, .int .i64 sc])) (((W.setCell ⟨w.heap.size, 0, none⟩ (.bool pg)).setCell ⟨w.heap.size, 1, none⟩ (.slice ao l.length cap)).setCell ⟨w.heap.size, 2, none⟩ (.int .i64 sc)) := by
  have hR := h.edr.hR
  exact ⟨pg, l, sc, ao, cap, q, rfl, hl, (((h.own.setBelow (by simp) _).setBelow (by simp) _).setBelow (by simp) _).mono (by omega), ((h.rd.set (by exact hR) _).set (by exact hR) _).set (by exact hR) _, hq, grown_set (grown_set (grown_set h.edr.grown (by exact Nat.le_refl _) _) (by exact Nat.le_refl _) _) (by exact Nat.le_refl _) _⟩

set_option maxHeartbeats 2000000 in
theorem l14AnyDec_any (w : World) (R p : Nat) (hr : RD w R p) (hp : p ≤ 70000) :
    Calls Tryz.prog 58 #[.pointer (some ⟨R, 0, none⟩)] w (DrawsAnyD w R p 500) := by
  have hR := hr.lt
  have K0 : EDR w _ R := EDR.start hR
  have r0 := hr.alloc (.cells #[.bool false, .slice none 0 0, .int .i64 0] 27)
  have C := hide (l14Dec_any _ R p r0 (by omega))
  clear r0 hr
  go_enter Tryz.func58, Tryz.ntmps58
  go_wp2_with fail
  refine (unhide C).mono ?_
  rintro e w1 ⟨z, sc, ao, cap, q, rfl, hz, hsc, oz, r1, hq, g1⟩
  have K1 := K0.later g1
  simp only [World.size_alloc] at oz
  have hk1 := K1.lt
  have A1 : AnyD w (w1.alloc (.cells #[.bool (sg z), .slice ao (L z.natAbs).length cap, .int .i64 sc] 27)) R w1.heap.size q (sg z) (L z.natAbs) (.slice ao (L z.natAbs).length cap) sc := by
    refine ⟨K1.later (grown_alloc _ _ _), by go_simp, by go_simp, by go_simp, by go_simp, by go_simp, by go_simp, by simp, oz.later ((Below.refl _ _).alloc (Nat.le_refl _) _), ?_, r1.alloc _, hk1⟩
    intro e
    have := (oz.lt _ e).2
    omega
  clear C K0 K1 oz r1 g1
  generalize L z.natAbs = l at *
  generalize sg z = pg at *
  go_wp2_with fail
  refine (pick_any _ R _ 30 A1.rd (by omega) (by omega) (by omega)).mono ?_
  rintro e w2 ⟨x, rfl, hx, r2, g2⟩
  have A2 := A1.pick g2 r2
  clear A1 r2 g2
  generalize w1.heap.size = B1 at *
  have hl : l.length ≤ 17 := by omega
  by_cases h0 : x = 0
  · subst h0
    have C1 := hide (one_lit w2 R (q + 1) [-1, 13, 4611686018427387904] _ rfl A2.rd (by omega) (by simp) (by simp))
    go_wp2_with fail
    refine (unhide C1).mono ?_
    rintro e w3 ⟨y, rfl, -, r3, g3⟩
    have A3 := A2.pick g3 r3
    have A4 := A3.scale y
    obtain ⟨⟨-, d0, d1, d2, e0, e1, e2, dl, -⟩, k0, k1, k2, kf0, kf1, kf2, kl, -, -, -, kB⟩ := id A3
    clear C1 A2 A3 r3 g3
    go_wp2
    refine bodyPost_ret (v := .agg #[.bool pg, .slice ao l.length cap, .int .i64 y]) (by simp [results, Tryz.results58, go_sem, d0, d1, d2]) rfl ?_
    exact A4.gives hl (by omega)
  by_cases h1 : x = 1
  · subst h1
    have C1 := hide (l14Big_any w2 R (q + 1) 31 A2.rd (by omega) (by omega) (by omega))
    go_wp2_with fail
    refine (unhide C1).mono ?_
    rintro e w3 ⟨z3, a3, c3, q3, rfl, hz3, o3, r3, hq3, g3⟩
    have A3 := A2.pick g3 r3
    have A4 := A2.num (pg' := sg z3) g3 r3 o3
    obtain ⟨⟨-, d0, d1, d2, e0, e1, e2, dl, -⟩, k0, k1, k2, kf0, kf1, kf2, kl, -, -, -, kB⟩ := id A3
    clear C1 A2 A3 r3 g3 o3 h0
    go_wp2
    refine bodyPost_ret (v := .agg #[.bool (sg z3), .slice a3 (L z3.natAbs).length c3, .int .i64 sc]) (by simp [results, Tryz.results58, go_sem, d0, d1, d2]) rfl ?_
    exact A4.gives (by omega) (by omega)
  by_cases h2 : x = 2
  · subst h2
    have C1 := hide (l14AnyBig_any w2 R (q + 1) A2.rd (by omega))
    go_wp2_with fail
    refine (unhide C1).mono ?_
    rintro e w3 ⟨pg3, l3, a3, c3, q3, rfl, hl3, o3, r3, hq3, g3⟩
    have A3 := A2.pick g3 r3
    have A4 := A2.num (pg' := pg3) g3 r3 o3
    obtain ⟨⟨-, d0, d1, d2, e0, e1, e2, dl, -⟩, k0, k1, k2, kf0, kf1, kf2, kl, -, -, -, kB⟩ := id A3
    clear C1 A2 A3 r3 g3 o3 h0 h1
    go_wp2
    refine bodyPost_ret (v := .agg #[.bool pg3, .slice a3 l3.length c3, .int .i64 sc]) (by simp [results, Tryz.results58, go_sem, d0, d1, d2]) rfl ?_
    exact A4.gives hl3 (by omega)
  · have y0' : ((x : Int) == 0) = false := by rw [beq_eq_false_iff_ne]; omega
    have y1' : ((x : Int) == 1) = false := by rw [beq_eq_false_iff_ne]; omega
    have y2' : ((x : Int) == 2) = false := by rw [beq_eq_false_iff_ne]; omega
    obtain ⟨⟨-, d0, d1, d2, e0, e1, e2, dl, -⟩, k0, k1, k2, kf0, kf1, kf2, kl, -, -, -, kB⟩ := id A2
    go_wp2
    refine bodyPost_ret (v := .agg #[.bool pg, .slice ao l.length cap, .int .i64 sc]) (by simp [results, Tryz.results58, go_sem, d0, d1, d2]) rfl ?_
    exact A2.gives hl (by omega)

end Go.Proofs.YtdklikicngmkbaaGreatDoor
