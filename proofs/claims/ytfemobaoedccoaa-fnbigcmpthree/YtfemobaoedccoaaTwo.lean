/- Two drawn numbers: l14TwoBigs by a contract. -/
import Derived.Test.YtfemobaoedccoaaDrT0
import Derived.Deep.RegionHeld3
namespace Go.Proofs.Ytfemobaoedccoaa
open Go.RowKit

/-- All elements of a list behind those of an owned one, at a step of a region that draws. -/
theorem step_allG {W : World} {ops : Array Oper} {o : Oper} {a : Act} {K : Act → World → Prop} {Q : Exit → Act → World → Prop} {E : Prop} (hgd : o.guard = none) (s x : Operand) (t : TypeId)
    (ho : o.op = .call { callee := .builtin .append, args := #[s, x], argTypes := #[t, t] }) (ht : Try.prog.underlying t = some (.slice 3)) (B : Nat) (v : Value) (hown : Own B W v []) (hs : a.eval s = v)
    (u : Value) (m : List Int) (hr : Reads W u m) (hx : a.eval x = u) (hlen : m.length ≤ 8000000) (hB : B ≤ W.heap.size)
    (h : ∀ ao cap w', Own B w' (.slice ao m.length cap) m → W.grownBy w' v.ownBlock → K (a.put o.dst (.slice ao m.length cap)) w') :
    if Region.wanted o (yielded ops a.tmps) = true then Oper.wp Try.prog o a W K Q else E := by
  have hw : Region.wanted o (yielded ops a.tmps) = true := by simp [Region.wanted, hgd]
  rw [if_pos hw]
  obtain ⟨i0, hi, hz0, hz1, hz2⟩ := info_parts Try.info3
  have shape : ∀ v' w', Own B w' v' m → W.grownBy w' v.ownBlock → K (a.put o.dst v') w' := by
    intro v' w' h1 h2
    have h1' := h1
    rcases h1.split with ⟨rfl, h0⟩ | ⟨g, cap, rfl, _⟩
    · subst h0
      exact h none 0 w' h1' h2
    · exact h _ cap w' h1' h2
  obtain ⟨ao, b, off, cap, rfl, hr⟩ := hr
  cases ao with
  | none =>
    have hc := hr.nil rfl
    have hl := hr.le
    have hm : m = [] := List.length_eq_zero_iff.1 (by omega)
    subst hm
    have hrun := run_append_owned_none (P := Try.prog) (w := W) B t o.type 3 i0 1 ht hi v 0 (ints []) hown
    have hx' : a.eval x = .slice none 0 0 := by rw [hx, hc]; rfl
    unfold Oper.wp execOp
    simp only [ho, resolve, invoke, builtin, Sem.run_bind, Sem.run_pure, Result.andThen_ok, List.map_toArray, List.map_cons, List.map_nil, hs, hx', hrun]
    exact shape v W hown (World.grownBy.refl _ _)
  | some ad =>
    refine wp_append_own _ s x t ho B 3 i0 (.int .i64 0) 1 8 ht hi hz0 hz1 hz2 rfl (by decide) v 0 (ints []) hs hown ad m.length cap (ints m) hx (by simp [ints]) ?_ (ints_oneCell _ _) (by unfold maxLen; omega) (by omega) hB ?_
    · intro j y hj
      have hjm : j < m.length := by
        have := (List.getElem?_eq_some_iff.1 hj).1
        simpa [ints] using this
      obtain rfl := Option.some.inj (hr.at_ (by omega))
      rw [ints_at hjm] at hj
      obtain rfl := Option.some.inj hj
      rw [Addr.add_lit]
      exact hr.cell j hjm
    · intro v' w' hown' hgrow' _
      refine shape v' w' ?_ hgrow'
      rw [Nat.zero_add] at hown'
      exact hown'

theorem BX.set2 {w : World} {b c : Nat} (h : BX w b) (hne : b ≠ c) (u u' : Value) : BX ((w.setCell ⟨c, 0, none⟩ u).setCell ⟨c, 1, none⟩ u') b := by
  have e : ((w.setCell ⟨c, 0, none⟩ u).setCell ⟨c, 1, none⟩ u').heap[b]? = w.heap[b]? := by
    rw [Below.heap_setCell _ _ _ _ (by exact hne), Below.heap_setCell _ _ _ _ (by exact hne)]
  exact ⟨(World.cell?_of_block (a := ⟨b, 0, none⟩) e).trans h.c0, (World.cell?_of_block (a := ⟨b, 1, none⟩) e).trans h.c1, (World.frozen?_of_block (a := ⟨b, 0, none⟩) e).trans h.f0, (World.frozen?_of_block (a := ⟨b, 1, none⟩) e).trans h.f1, by simpa using h.lt⟩

set_option maxHeartbeats 2000000 in
theorem twoBigs_any (w : World) (v : Value) (h : Byt w v) : Calls Try.prog 60 #[v] w (DrawsTwoAny w) := by
  have B0 : Below w.heap.size w ((w.alloc (.cells #[.bool false, .slice none 0 0] 25)).alloc (.cells #[.bool false, .slice none 0 0] 25)) := ((Below.refl _ _).alloc (Nat.le_refl _) _).alloc (by simp) _
  have X0 : BX ((w.alloc (.cells #[.bool false, .slice none 0 0] 25)).alloc (.cells #[.bool false, .slice none 0 0] 25)) w.heap.size := ⟨by go_simp, by go_simp, by go_simp, by go_simp, by simp; omega⟩
  have Y0 : BX ((w.alloc (.cells #[.bool false, .slice none 0 0] 25)).alloc (.cells #[.bool false, .slice none 0 0] 25)) (w.heap.size + 1) := ⟨by go_simp, by go_simp, by go_simp, by go_simp, by simp⟩
  have C := hide (l1Open_any _ v (h.later B0))
  have hsz : ((w.alloc (.cells #[.bool false, .slice none 0 0] 25)).alloc (.cells #[.bool false, .slice none 0 0] 25)).heap.size = w.heap.size + 2 := by simp
  clear h
  go_enter Try.func60, Try.ntmps60
  go_wp2_with fail
  refine (unhide C).mono ?_
  rintro e w1 ⟨rfl, r1, b1, y1⟩
  have B1 := B0.trans (b1.mono B0.size)
  have X1 := X0.grown (r := none) (grown_below b1) (by simp)
  have Y1 := Y0.grown (r := none) (grown_below b1) (by simp)
  rw [hsz] at r1 y1
  simp only [hsz]
  clear C b1 B0 X0 Y0 hsz
  obtain ⟨R, hR⟩ : ∃ R, R = w.heap.size + 2 := ⟨_, rfl⟩
  simp only [← hR] at r1 y1 ⊢
  have hR1 : w.heap.size + 1 < R := by omega
  clear hR
  have hRw := r1.lt
  have HRW := hide r1.lt
  go_wp2_with fail
  refine (l14AnyBig_any _ R _ r1 (by omega)).mono ?_
  rintro e w2 ⟨p, l, ao, ca, k, rfl, hl, oa, r2, hk, g2⟩
  have B2 := B1.grown g2 B1.size (by intro k hk; simp at hk; omega)
  have X2 := X1.grown g2 (by simp; omega)
  have Y2 := Y1.grown g2 (by simp; omega)
  have hsz2 := g2.size
  have LTA := hide (fun k hk => (oa.lt k hk).2)
  clear g2 r1 y1 B1 X1 Y1
  have al2 : Below w2.heap.size w2 (w2.alloc (.cells #[.bool p, .slice ao l.length ca] 25)) := (Below.refl _ _).alloc (Nat.le_refl _) _
  have zw2 : R < w2.heap.size := r2.lt
  have hw12 : w1.heap.size ≤ w2.heap.size := hsz2
  have c0 : (w2.alloc (.cells #[.bool p, .slice ao l.length ca] 25)).cell? ⟨w2.heap.size, 0, none⟩ = some (.bool p) := by go_simp
  have c1 : (w2.alloc (.cells #[.bool p, .slice ao l.length ca] 25)).cell? ⟨w2.heap.size, 1, none⟩ = some (.slice ao l.length ca) := by go_simp
  have sz3 : (w2.alloc (.cells #[.bool p, .slice ao l.length ca] 25)).heap.size = w2.heap.size + 1 := World.size_alloc _ _
  have Ba := B2.trans (al2.mono B2.size)
  have Xa := X2.grown (r := none) (grown_below al2) (by simp)
  have Ya := Y2.grown (r := none) (grown_below al2) (by simp)
  have ra := r2.later al2
  have oaa := oa.later al2
  go_wp2_with fail
  clear al2 B2 X2 Y2 r2 oa
  generalize w2.alloc (.cells #[.bool p, .slice ao l.length ca] 25) = wa at *
  refine (l14AnyBig_any _ R _ ra (by omega)).mono ?_
  rintro e w3 ⟨q, m, bo, cb, k', rfl, hm, ob, r3, hk', g3⟩
  have B3 := Ba.grown g3 Ba.size (by intro k hk; simp at hk; omega)
  have X3 := Xa.grown g3 (by simp; omega)
  have Y3 := Ya.grown g3 (by simp; omega)
  have oa3 := oaa.grown g3 (by omega)
  have sz4 := g3.size
  have d0 : w3.cell? ⟨w2.heap.size, 0, none⟩ = some (.bool p) := (World.cell?_of_block (w := wa) (a := ⟨w2.heap.size, 0, none⟩) (g3.block w2.heap.size (by omega) (by simp; omega))).trans c0
  have d1 : w3.cell? ⟨w2.heap.size, 1, none⟩ = some (.slice ao l.length ca) := (World.cell?_of_block (w := wa) (a := ⟨w2.heap.size, 1, none⟩) (g3.block w2.heap.size (by omega) (by simp; omega))).trans c1
  clear g3 ra Ba Xa Ya oaa c0 c1
  have al3 : Below w3.heap.size w3 (w3.alloc (.cells #[.bool q, .slice bo m.length cb] 25)) := (Below.refl _ _).alloc (Nat.le_refl _) _
  have zw3 : R < w3.heap.size := r3.lt
  have c0 : (w3.alloc (.cells #[.bool q, .slice bo m.length cb] 25)).cell? ⟨w3.heap.size, 0, none⟩ = some (.bool q) := by go_simp
  have c1 : (w3.alloc (.cells #[.bool q, .slice bo m.length cb] 25)).cell? ⟨w3.heap.size, 1, none⟩ = some (.slice bo m.length cb) := by go_simp
  have f0 : ∀ o, (w3.alloc (.cells #[.bool q, .slice bo m.length cb] 25)).frozen? ⟨w3.heap.size, o, none⟩ = false := fun o => by go_simp
  have sz5 : (w3.alloc (.cells #[.bool q, .slice bo m.length cb] 25)).heap.size = w3.heap.size + 1 := World.size_alloc _ _
  have Bb := B3.trans (al3.mono B3.size)
  have Xb := X3.grown (r := none) (grown_below al3) (by simp)
  have Yb := Y3.grown (r := none) (grown_below al3) (by simp)
  have rb := r3.later al3
  have oab := oa3.later al3
  have obb := ob.later al3
  have e0 := cell_later al3 d0
  have e1 := cell_later al3 d1
  go_wp2_with fail
  clear al3 B3 X3 Y3 r3 oa3 ob d0 d1
  generalize w3.alloc (.cells #[.bool q, .slice bo m.length cb] 25) = wb at *
  refine (pick_any _ R _ 6 rb (by omega) (by omega) (by omega)).mono ?_
  rintro e w4 ⟨x, rfl, hx, r4, g4⟩
  have B4 := Bb.grown g4 Bb.size (by intro k hk; simp at hk; omega)
  have X4 := Xb.grown g4 (by simp; omega)
  have Y4 := Yb.grown g4 (by simp; omega)
  have oa4 := oab.grown g4 (by omega)
  have ob4 := obb.grown g4 (by omega)
  have sz6 := g4.size
  have a0 : w4.cell? ⟨w2.heap.size, 0, none⟩ = some (.bool p) := (World.cell?_of_block (w := wb) (a := ⟨w2.heap.size, 0, none⟩) (g4.block w2.heap.size (by omega) (by simp; omega))).trans e0
  have a1 : w4.cell? ⟨w2.heap.size, 1, none⟩ = some (.slice ao l.length ca) := (World.cell?_of_block (w := wb) (a := ⟨w2.heap.size, 1, none⟩) (g4.block w2.heap.size (by omega) (by simp; omega))).trans e1
  have u0 : w4.cell? ⟨w3.heap.size, 0, none⟩ = some (.bool q) := (World.cell?_of_block (w := wb) (a := ⟨w3.heap.size, 0, none⟩) (g4.block w3.heap.size (by omega) (by simp; omega))).trans c0
  have u1 : w4.cell? ⟨w3.heap.size, 1, none⟩ = some (.slice bo m.length cb) := (World.cell?_of_block (w := wb) (a := ⟨w3.heap.size, 1, none⟩) (g4.block w3.heap.size (by omega) (by simp; omega))).trans c1
  have uf : ∀ o, w4.frozen? ⟨w3.heap.size, o, none⟩ = false := fun o => (World.frozen?_of_block (w := wb) (a := ⟨w3.heap.size, o, none⟩) (g4.block w3.heap.size (by omega) (by simp; omega))).trans (f0 o)
  have zA : w2.heap.size < w4.heap.size := by omega
  have zB : w3.heap.size < w4.heap.size := by omega
  clear g4 rb Bb Xb Yb oab obb c0 c1 e0 e1 f0 r4
  have i0 := X4.c0
  have i1 := X4.c1
  have i2 := X4.f0
  have i3 := X4.f1
  have j0 := Y4.c0
  have j1 := Y4.c1
  have j2 := Y4.f0
  have j3 := Y4.f1
  have n1 : ¬ (w2.heap.size = w.heap.size) := by omega
  have n2 : ¬ (w2.heap.size = w.heap.size + 1) := by omega
  have n3 : ¬ (w3.heap.size = w.heap.size) := by omega
  have n4 : ¬ (w3.heap.size = w.heap.size + 1) := by omega
  by_cases hx0 : x = 0
  · have hxb : ((x : Int) == 0) = true := by simp [hx0]
    clear hx0
    have hE : Own w4.heap.size (w4.drew.alloc (.cells #[] 3)) (.slice (some ⟨w4.heap.size, 0, none⟩) 0 0) [] := own_empty w4.drew (Nat.le_refl _)
    have hrd : Reads (w4.drew.alloc (.cells #[] 3)) (.slice ao l.length ca) l := (oa4.reads.later (Below.refl _ _).drew).alloc _
    have HE := hide hE
    have HRD := hide hrd
    have hl8 : l.length ≤ 8000000 := by omega
    have hBB : w4.heap.size ≤ (w4.drew.alloc (.cells #[] 3)).heap.size := by have : w4.drew.heap.size = w4.heap.size := rfl; rw [World.size_alloc]; omega
    have HBB := hide hBB
    clear hE hrd hBB
    have HK := hide (fun (w5 : World) (hg : (w4.drew.alloc (.cells #[] 3)).grownBy w5 (Value.slice (some ⟨w4.heap.size, 0, none⟩) 0 0).ownBlock) => ((((Below.refl w4.heap.size w4).drew).alloc (Nat.le_refl _) (.cells #[] 3)).grown hg (by rw [World.size_alloc]; have : w4.drew.heap.size = w4.heap.size := rfl; omega) (fun k hk => by simp [Value.ownBlock] at hk; omega) : Below w4.heap.size w4 w5))
    have HX := hide X4
    have HY := hide Y4
    have HA := hide oa4
    have HB4 := hide B4
    go_wp2_with fail
    clear X4 Y4 oa4 B4 ob4 i0 i1 i2 i3 j0 j1 j2 j3
    have N5 := hide (show w2.heap.size ≠ w3.heap.size by omega)
    have N1 := hide n1
    have N2 := hide n2
    have N3 := hide n3
    have N4 := hide n4
    have M1 := hide hR1
    have M2 := hide zw2
    have M3 := hide sz4
    have M4 := hide sz5
    have M5 := hide sz6
    have M6 := hide sz3
    have M7 := hide zw3
    clear n1 n2 n3 n4 hR1 zw2 sz4 sz5 sz6 sz3 zw3 hsz2 hw12 hRw hk hk' hx hxb
    cases p
    · have stab : ∀ w' : World, Below w4.heap.size w4 w' → (w'.cell? ⟨w2.heap.size, 0, none⟩ = some (.bool false) ∧ w'.cell? ⟨w2.heap.size, 1, none⟩ = some (.slice ao l.length ca)) := fun w' h => ⟨cell_later h a0, cell_later h a1⟩
      have Stab := hide stab
      clear stab
      go_region_held3 (fun w' => w'.cell? ⟨w2.heap.size, 0, none⟩ = some (.bool false) ∧ w'.cell? ⟨w2.heap.size, 1, none⟩ = some (.slice ao l.length ca))
        (first | exact unhide Stab _ (Below.refl _ _).drew | exact unhide Stab _ ((Below.refl _ _).drew.alloc (Nat.le_refl _) _) | exact unhide Stab _ B45 | (obtain ⟨s1, s2⟩ := unhide Stab _ B45; exact ⟨cell_set2 s1 (unhide N5) _ _, cell_set2 s2 (unhide N5) _ _⟩))
        (first
          | (refine step_allG (by rfl) _ _ 23 (by rfl) Try.underlying23 w4.heap.size (.slice (some ⟨w4.heap.size, 0, none⟩) 0 0) (unhide HE) (by rfl) (.slice ao l.length ca) l (unhide HRD) (by rfl) hl8 (unhide HBB) ?_; intro ao5 ca5 w5 ho5 hg5; have B45 := unhide HK _ hg5; have u0' := cell_later B45 u0; have u1' := cell_later B45 u1; have uf' := (fun o => (B45.frozen (p := ⟨w3.heap.size, o, none⟩) zB).trans (uf o)); have zB' := Nat.lt_of_lt_of_le zB B45.size))
      have M := unhide M1
      have m2 := unhide M2
      have m3 := unhide M3
      have m4 := unhide M4
      have m6 := unhide M6
      have m7 := unhide M7
      have n5 := unhide N5
      obtain ⟨s1, s2⟩ := unhide Stab _ B45
      have a0 := cell_set2 s1 n5 (.bool (decide (0 < l.length))) (.slice ao5 l.length ca5)
      have a1 := cell_set2 s2 n5 (.bool (decide (0 < l.length))) (.slice ao5 l.length ca5)
      have X6 := ((unhide HX).grown (r := none) (grown_below B45) (by simp)).set2 (show w.heap.size ≠ w3.heap.size by omega) (.bool (decide (0 < l.length))) (.slice ao5 l.length ca5)
      have Y6 := ((unhide HY).grown (r := none) (grown_below B45) (by simp)).set2 (show w.heap.size + 1 ≠ w3.heap.size by omega) (.bool (decide (0 < l.length))) (.slice ao5 l.length ca5)
      have B6 := (((unhide HB4).trans (B45.mono (unhide HB4).size)).setCell (p := ⟨w3.heap.size, 0, none⟩) (by simp only; omega) (.bool (decide (0 < l.length)))).setCell (p := ⟨w3.heap.size, 1, none⟩) (by simp only; omega) (.slice ao5 l.length ca5)
      have oa6 := (((unhide HA).later B45).setOther (a := ⟨w3.heap.size, 0, none⟩) (fun e => by have this := unhide LTA _ e; simp only at this; omega) (.bool (decide (0 < l.length)))).setOther (a := ⟨w3.heap.size, 1, none⟩) (fun e => by have this := unhide LTA _ e; simp only at this; omega) (.slice ao5 l.length ca5)
      have ob6 := (ho5.setBelow (a := ⟨w3.heap.size, 0, none⟩) zB (.bool (decide (0 < l.length)))).setBelow (a := ⟨w3.heap.size, 1, none⟩) zB (.slice ao5 l.length ca5)
      have u0 : ((w5.setCell ⟨w3.heap.size, 0, none⟩ (.bool (decide (0 < l.length)))).setCell ⟨w3.heap.size, 1, none⟩ (.slice ao5 l.length ca5)).cell? ⟨w3.heap.size, 0, none⟩ = some (.bool (decide (0 < l.length))) := by simp [go_sem, u0']
      have u1 : ((w5.setCell ⟨w3.heap.size, 0, none⟩ (.bool (decide (0 < l.length)))).setCell ⟨w3.heap.size, 1, none⟩ (.slice ao5 l.length ca5)).cell? ⟨w3.heap.size, 1, none⟩ = some (.slice ao5 l.length ca5) := by simp [go_sem, u1']
      generalize (w5.setCell ⟨w3.heap.size, 0, none⟩ (.bool (decide (0 < l.length)))).setCell ⟨w3.heap.size, 1, none⟩ (.slice ao5 l.length ca5) = W6 at *
      clear Stab HE HRD HBB HK HX HY HA HB4 s1 s2 u0' u1' uf' zB' uf B45 hg5 ho5
      have n1 := unhide N1
      have n2 := unhide N2
      have n3 := unhide N3
      have n4 := unhide N4
      have hRw1 := unhide HRW
      have i0 := X6.c0
      have i1 := X6.c1
      have i2 := X6.f0
      have i3 := X6.f1
      have j0 := Y6.c0
      have j1 := Y6.c1
      have j2 := Y6.f0
      have j3 := Y6.f1
      go_wp2_with fail
      go_region
      go_wp2
      refine bodyPost_ret (v := .tuple #[.agg #[.bool false, .slice ao l.length ca], .agg #[.bool (decide (0 < l.length)), .slice ao5 l.length ca5]]) (by simp [results, Try.results60, go_sem, i0, i1, j0, j1]) rfl ?_
      refine ⟨false, decide (0 < l.length), l, l, ao, ca, ao5, ca5, rfl, hl, hl, ?_, ?_, ?_⟩
      · exact (((((oa6.setBelow (by simp only; omega) _).setBelow (by simp only; omega) _).setBelow (by simp only; omega) _).setBelow (by simp only; omega) _).later (Below.refl _ _).drew).mono (by omega)
      · exact (((((ob6.setBelow (by simp only; omega) _).setBelow (by simp only; omega) _).setBelow (by simp only; omega) _).setBelow (by simp only; omega) _).later (Below.refl _ _).drew).mono (by omega)
      · exact ((((B6.setCell (by simp) _).setCell (by simp) _).setCell (by simp) _).setCell (by simp) _).drew
    · have stab : ∀ w' : World, Below w4.heap.size w4 w' → (w'.cell? ⟨w2.heap.size, 0, none⟩ = some (.bool true) ∧ w'.cell? ⟨w2.heap.size, 1, none⟩ = some (.slice ao l.length ca)) := fun w' h => ⟨cell_later h a0, cell_later h a1⟩
      have Stab := hide stab
      clear stab
      refine wp_region_held_drew (S := (fun w' => w'.cell? ⟨w2.heap.size, 0, none⟩ = some (.bool true) ∧ w'.cell? ⟨w2.heap.size, 1, none⟩ = some (.slice ao l.length ca))) (by kernel_rfl) (unhide Stab _ (Below.refl _ _).drew) (fun hHeld => ?_)
      refine wpAnyH_take (i := 0) (oi := { dst := some 16, op := Op.fieldAddr 25 (Operand.tmp 5) 0, type := 0, pos := "l14_draw.go:105", after := #[], guard := none }) (v := .pointer (some ⟨w2.heap.size, 0, none⟩)) rfl (by kernel_rfl) (by kernel_rfl) (by kernel_rfl) (fun _ _ _ h => h) (Or.inl ⟨by rfl, ?_⟩) hHeld ?_
      · intro w hSw
        obtain ⟨s1, s2⟩ := hSw
        go_simp
      (try simp only [Act.put, List.setIfInBounds_toArray, List.set_cons_zero, List.set_cons_succ])
      refine wpAnyH_take (i := 1) (oi := { dst := some 17, op := Op.load 4 (Operand.tmp 16), type := 4, pos := "l14_draw.go:105", after := #[{ on := 0, ground := Ground.data }], guard := none }) (v := .bool true) rfl (by kernel_rfl) (by kernel_rfl) (by kernel_rfl) (fun _ _ _ h => h) (Or.inl ⟨by rfl, ?_⟩) hHeld ?_
      · intro w hSw
        obtain ⟨s1, s2⟩ := hSw
        go_simp
      (try simp only [Act.put, List.setIfInBounds_toArray, List.set_cons_zero, List.set_cons_succ])
      refine wpAnyH_take (i := 2) (oi := { dst := some 18, op := Op.unOp UnOp.not 4 (Operand.tmp 17), type := 4, pos := "l14_draw.go:105", after := #[{ on := 1, ground := Ground.data }], guard := none }) (v := .bool false) rfl (by kernel_rfl) (by kernel_rfl) (by kernel_rfl) (fun _ _ _ h => h) (Or.inl ⟨by rfl, ?_⟩) hHeld ?_
      · intro w hSw
        obtain ⟨s1, s2⟩ := hSw
        go_simp
      (try simp only [Act.put, List.setIfInBounds_toArray, List.set_cons_zero, List.set_cons_succ])
      refine wpAnyH_take (i := 3) (oi := { dst := some 19, op := Op.move (Operand.tmp 18), type := 4, pos := "l14_draw.go:105", after := #[{ on := 2, ground := Ground.data }], guard := none }) (v := .bool false) rfl (by kernel_rfl) (by kernel_rfl) (by kernel_rfl) (fun _ _ _ h => h) (Or.inl ⟨by rfl, ?_⟩) hHeld ?_
      · intro w hSw
        obtain ⟨s1, s2⟩ := hSw
        go_simp
      (try simp only [Act.put, List.setIfInBounds_toArray, List.set_cons_zero, List.set_cons_succ])
      refine wpAnyH_take (i := 4) (oi := { dst := some 20, op := Op.fieldAddr 25 (Operand.tmp 5) 1, type := 0, pos := "l14_draw.go:105", after := #[{ on := 3, ground := Ground.guard }], guard := some (3, true) }) (v := undef) rfl (by kernel_rfl) (by kernel_rfl) (by kernel_rfl) (fun _ _ _ h => h) (Or.inr ⟨by rfl, rfl⟩) hHeld ?_
      (try simp only [Act.put, List.setIfInBounds_toArray, List.set_cons_zero, List.set_cons_succ])
      refine wpAnyH_take (i := 5) (oi := { dst := some 21, op := Op.load 23 (Operand.tmp 20), type := 23, pos := "l14_draw.go:105", after := #[{ on := 4, ground := Ground.data }, { on := 3, ground := Ground.guard }], guard := some (3, true) }) (v := undef) rfl (by kernel_rfl) (by kernel_rfl) (by kernel_rfl) (fun _ _ _ h => h) (Or.inr ⟨by rfl, rfl⟩) hHeld ?_
      (try simp only [Act.put, List.setIfInBounds_toArray, List.set_cons_zero, List.set_cons_succ])
      refine wpAnyH_take (i := 6) (oi := { dst := some 22, op := Op.call { callee := Callee.builtin Builtin.len, args := #[Operand.tmp 21], argTypes := #[23] }, type := 3, pos := "l14_draw.go:105", after := #[{ on := 5, ground := Ground.data }, { on := 3, ground := Ground.guard }], guard := some (3, true) }) (v := undef) rfl (by kernel_rfl) (by kernel_rfl) (by kernel_rfl) (fun _ _ _ h => h) (Or.inr ⟨by rfl, rfl⟩) hHeld ?_
      (try simp only [Act.put, List.setIfInBounds_toArray, List.set_cons_zero, List.set_cons_succ])
      refine wpAnyH_take (i := 7) (oi := { dst := some 23, op := Op.binOp BinOp.gtr 3 (Operand.tmp 22) (Operand.const (Value.int IntKind.i64 0)) 3, type := 4, pos := "l14_draw.go:105", after := #[{ on := 6, ground := Ground.data }, { on := 3, ground := Ground.guard }], guard := some (3, true) }) (v := undef) rfl (by kernel_rfl) (by kernel_rfl) (by kernel_rfl) (fun _ _ _ h => h) (Or.inr ⟨by rfl, rfl⟩) hHeld ?_
      (try simp only [Act.put, List.setIfInBounds_toArray, List.set_cons_zero, List.set_cons_succ])
      refine wpAnyH_take (i := 8) (oi := { dst := some 24, op := Op.pick (Operand.tmp 19) (Operand.tmp 23) (Operand.const (Value.bool false)), type := 4, pos := "l14_draw.go:105", after := #[{ on := 3, ground := Ground.data }, { on := 7, ground := Ground.data }], guard := none }) (v := .bool false) rfl (by kernel_rfl) (by kernel_rfl) (by kernel_rfl) (fun _ _ _ h => h) (Or.inl ⟨by rfl, ?_⟩) hHeld ?_
      · intro w hSw
        obtain ⟨s1, s2⟩ := hSw
        go_simp
      (try simp only [Act.put, List.setIfInBounds_toArray, List.set_cons_zero, List.set_cons_succ])
      refine wpAnyH_take (i := 10) (oi := { dst := some 26, op := Op.fieldAddr 25 (Operand.tmp 5) 1, type := 0, pos := "l14_draw.go:105", after := #[], guard := none }) (v := .pointer (some ⟨w2.heap.size, 1, none⟩)) rfl (by kernel_rfl) (by kernel_rfl) (by kernel_rfl) (fun _ _ _ h => h) (Or.inl ⟨by rfl, ?_⟩) hHeld ?_
      · intro w hSw
        obtain ⟨s1, s2⟩ := hSw
        go_simp
      (try simp only [Act.put, List.setIfInBounds_toArray, List.set_cons_zero, List.set_cons_succ])
      refine wpAnyH_take (i := 11) (oi := { dst := some 27, op := Op.load 23 (Operand.tmp 26), type := 23, pos := "l14_draw.go:105", after := #[{ on := 10, ground := Ground.data }], guard := none }) (v := .slice ao l.length ca) rfl (by kernel_rfl) (by kernel_rfl) (by kernel_rfl) (fun _ _ _ h => h) (Or.inl ⟨by rfl, ?_⟩) hHeld ?_
      · intro w hSw
        obtain ⟨s1, s2⟩ := hSw
        go_simp
      (try simp only [Act.put, List.setIfInBounds_toArray, List.set_cons_zero, List.set_cons_succ])
      refine wpAnyH_ready (rs := [9]) (by kernel_rfl) (by simp) ?_
      refine AllReadyH.cons (o := { dst := some 25, op := Op.buildSlice 23 0 #[], type := 23, pos := "l14_draw.go:105", after := #[], guard := none }) rfl (fun K hK => ?_) AllReadyH.nil
      go_simp
      refine hK.out _ _ (unhide Stab _ ((Below.refl _ _).drew.alloc (Nat.le_refl _) _)) (fun hHeld => ?_)
      clear hK K
      (try simp only [Act.put, List.setIfInBounds_toArray, List.set_cons_zero, List.set_cons_succ])
      refine wpAnyH_ready (rs := [12]) (by kernel_rfl) (by simp) ?_
      refine AllReadyH.cons (o := { dst := some 28, op := Op.call { callee := Callee.builtin Builtin.append, args := #[Operand.tmp 25, Operand.tmp 27], argTypes := #[23, 23] }, type := 23, pos := "l14_draw.go:105", after := #[{ on := 9, ground := Ground.data }, { on := 11, ground := Ground.data }, { on := 3, ground := Ground.chain }], guard := none }) rfl (fun K hK => ?_) AllReadyH.nil
      refine step_allG (by rfl) _ _ 23 (by rfl) Try.underlying23 w4.heap.size (.slice (some ⟨w4.heap.size, 0, none⟩) 0 0) (unhide HE) (by rfl) (.slice ao l.length ca) l (unhide HRD) (by rfl) hl8 (unhide HBB) ?_
      intro ao5 ca5 w5 ho5 hg5
      have B45 := unhide HK _ hg5
      have u0' := cell_later B45 u0
      have u1' := cell_later B45 u1
      have uf' := (fun o => (B45.frozen (p := ⟨w3.heap.size, o, none⟩) zB).trans (uf o))
      have zB' := Nat.lt_of_lt_of_le zB B45.size
      refine hK.out _ _ (unhide Stab _ B45) (fun hHeld => ?_)
      clear hK K
      (try simp only [Act.put, List.setIfInBounds_toArray, List.set_cons_zero, List.set_cons_succ])
      refine wpAnyH_take (i := 13) (oi := { dst := some 29, op := Op.build 25 #[(0, Operand.tmp 24), (1, Operand.tmp 28)], type := 25, pos := "l14_draw.go:105", after := #[{ on := 8, ground := Ground.data }, { on := 12, ground := Ground.data }], guard := none }) (v := .agg #[.bool false, .slice ao5 l.length ca5]) rfl (by kernel_rfl) (by kernel_rfl) (by kernel_rfl) (fun _ _ _ h => h) (Or.inl ⟨by rfl, ?_⟩) hHeld ?_
      · intro w hSw
        obtain ⟨s1, s2⟩ := hSw
        go_simp
      (try simp only [Act.put, List.setIfInBounds_toArray, List.set_cons_zero, List.set_cons_succ])
      refine wpAnyH_ready (rs := [14]) (by kernel_rfl) (by simp) ?_
      refine AllReadyH.cons (o := { dst := none, op := Op.store 25 (Operand.tmp 6) (Operand.tmp 29), type := 0, pos := "l14_draw.go:105", after := #[{ on := 13, ground := Ground.data }, { on := 12, ground := Ground.chain }, { on := 0, ground := Ground.phase }, { on := 1, ground := Ground.phase }, { on := 2, ground := Ground.phase }, { on := 3, ground := Ground.phase }, { on := 4, ground := Ground.phase }, { on := 5, ground := Ground.phase }, { on := 6, ground := Ground.phase }, { on := 7, ground := Ground.phase }, { on := 8, ground := Ground.phase }, { on := 9, ground := Ground.phase }, { on := 10, ground := Ground.phase }, { on := 11, ground := Ground.phase }, { on := 12, ground := Ground.phase }, { on := 13, ground := Ground.phase }], guard := none }) rfl (fun K hK => ?_) AllReadyH.nil
      go_simp
      refine hK.out _ _ (by obtain ⟨s1, s2⟩ := unhide Stab _ B45; exact ⟨cell_set2 s1 (unhide N5) _ _, cell_set2 s2 (unhide N5) _ _⟩) (fun hHeld => ?_)
      clear hK K
      (try simp only [Act.put, List.setIfInBounds_toArray, List.set_cons_zero, List.set_cons_succ])
      refine wpAnyH_done (by kernel_rfl) ?_ _
      have M := unhide M1
      have m2 := unhide M2
      have m3 := unhide M3
      have m4 := unhide M4
      have m6 := unhide M6
      have m7 := unhide M7
      have n5 := unhide N5
      obtain ⟨s1, s2⟩ := unhide Stab _ B45
      have a0 := cell_set2 s1 n5 (.bool (false)) (.slice ao5 l.length ca5)
      have a1 := cell_set2 s2 n5 (.bool (false)) (.slice ao5 l.length ca5)
      have X6 := ((unhide HX).grown (r := none) (grown_below B45) (by simp)).set2 (show w.heap.size ≠ w3.heap.size by omega) (.bool (false)) (.slice ao5 l.length ca5)
      have Y6 := ((unhide HY).grown (r := none) (grown_below B45) (by simp)).set2 (show w.heap.size + 1 ≠ w3.heap.size by omega) (.bool (false)) (.slice ao5 l.length ca5)
      have B6 := (((unhide HB4).trans (B45.mono (unhide HB4).size)).setCell (p := ⟨w3.heap.size, 0, none⟩) (by simp only; omega) (.bool (false))).setCell (p := ⟨w3.heap.size, 1, none⟩) (by simp only; omega) (.slice ao5 l.length ca5)
      have oa6 := (((unhide HA).later B45).setOther (a := ⟨w3.heap.size, 0, none⟩) (fun e => by have this := unhide LTA _ e; simp only at this; omega) (.bool (false))).setOther (a := ⟨w3.heap.size, 1, none⟩) (fun e => by have this := unhide LTA _ e; simp only at this; omega) (.slice ao5 l.length ca5)
      have ob6 := (ho5.setBelow (a := ⟨w3.heap.size, 0, none⟩) zB (.bool (false))).setBelow (a := ⟨w3.heap.size, 1, none⟩) zB (.slice ao5 l.length ca5)
      have u0 : ((w5.setCell ⟨w3.heap.size, 0, none⟩ (.bool (false))).setCell ⟨w3.heap.size, 1, none⟩ (.slice ao5 l.length ca5)).cell? ⟨w3.heap.size, 0, none⟩ = some (.bool (false)) := by simp [go_sem, u0']
      have u1 : ((w5.setCell ⟨w3.heap.size, 0, none⟩ (.bool (false))).setCell ⟨w3.heap.size, 1, none⟩ (.slice ao5 l.length ca5)).cell? ⟨w3.heap.size, 1, none⟩ = some (.slice ao5 l.length ca5) := by simp [go_sem, u1']
      generalize (w5.setCell ⟨w3.heap.size, 0, none⟩ (.bool (false))).setCell ⟨w3.heap.size, 1, none⟩ (.slice ao5 l.length ca5) = W6 at *
      clear Stab HE HRD HBB HK HX HY HA HB4 s1 s2 u0' u1' uf' zB' uf B45 hg5 ho5
      have n1 := unhide N1
      have n2 := unhide N2
      have n3 := unhide N3
      have n4 := unhide N4
      have hRw1 := unhide HRW
      have i0 := X6.c0
      have i1 := X6.c1
      have i2 := X6.f0
      have i3 := X6.f1
      have j0 := Y6.c0
      have j1 := Y6.c1
      have j2 := Y6.f0
      have j3 := Y6.f1
      go_wp2_with fail
      go_region
      go_wp2
      refine bodyPost_ret (v := .tuple #[.agg #[.bool true, .slice ao l.length ca], .agg #[.bool (false), .slice ao5 l.length ca5]]) (by simp [results, Try.results60, go_sem, i0, i1, j0, j1]) rfl ?_
      refine ⟨true, false, l, l, ao, ca, ao5, ca5, rfl, hl, hl, ?_, ?_, ?_⟩
      · exact (((((oa6.setBelow (by simp only; omega) _).setBelow (by simp only; omega) _).setBelow (by simp only; omega) _).setBelow (by simp only; omega) _).later (Below.refl _ _).drew).mono (by omega)
      · exact (((((ob6.setBelow (by simp only; omega) _).setBelow (by simp only; omega) _).setBelow (by simp only; omega) _).setBelow (by simp only; omega) _).later (Below.refl _ _).drew).mono (by omega)
      · exact ((((B6.setCell (by simp) _).setCell (by simp) _).setCell (by simp) _).setCell (by simp) _).drew
  · have hxb : ((x : Int) == 0) = false := by simp [hx0]
    clear hx0
    go_wp2_with fail
    go_region
    go_wp2
    refine bodyPost_ret (v := .tuple #[.agg #[.bool p, .slice ao l.length ca], .agg #[.bool q, .slice bo m.length cb]]) (by simp [results, Try.results60, go_sem, i0, i1, j0, j1]) rfl ?_
    refine ⟨p, q, l, m, ao, ca, bo, cb, rfl, hl, hm, ?_, ?_, ?_⟩
    · exact (((((oa4.setBelow (by simp only; omega) _).setBelow (by simp only; omega) _).setBelow (by simp only; omega) _).setBelow (by simp only; omega) _).later (Below.refl _ _).drew).mono (by omega)
    · exact (((((ob4.setBelow (by simp only; omega) _).setBelow (by simp only; omega) _).setBelow (by simp only; omega) _).setBelow (by simp only; omega) _).later (Below.refl _ _).drew).mono (by omega)
    · exact ((((B4.setCell (by simp) _).setCell (by simp) _).setCell (by simp) _).setCell (by simp) _).drew

end Go.Proofs.Ytfemobaoedccoaa
