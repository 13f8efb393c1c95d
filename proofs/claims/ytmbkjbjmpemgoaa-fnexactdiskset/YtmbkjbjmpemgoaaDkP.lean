/- A copy of a disk, by the program and by the specification. -/
import Derived.Test.YtmbkjbjmpemgoaaDbx
import Derived.Laws.AppendOwnNone
import Derived.WalkSpells
namespace Go.Proofs.Ytmbkjbjmpemgoaa
open Go.RowKit

theorem strs_one (l : List ByteArray) : ∀ u ∈ strs l, u.oneCell' = true := by
  intro u hu
  simp only [strs, List.mem_map] at hu
  obtain ⟨s, _, rfl⟩ := hu
  rfl
theorem wts_one : ∀ (l : List (Int × ByteArray)), ∀ u ∈ wts l, u.oneCell' = true
  | [], u, hu => by cases hu
  | p :: l, u, hu => by
    rw [wts_cons] at hu
    simp only [List.mem_cons] at hu
    rcases hu with rfl | rfl | hu
    · rfl
    · rfl
    · exact wts_one l u hu

/-- All texts behind none. -/
theorem wpList_allS {wr : World} {ops : Array Oper} {rest : List Oper} {o : Oper} {a : Act} {Q : Exit → Act → World → Prop}
    (hg : o.guard = none) (s x : Operand) (t : TypeId) (hop : o.op = Op.call { callee := Callee.builtin Builtin.append, args := #[s, x], argTypes := #[t, t] })
    (ht : Try.prog.underlying t = some (.slice 9)) (B : Nat) (v : Value) (hown : OwnS B wr v []) (hs : a.eval s = v) (u : Value) (m : List ByteArray) (hr : ReadsS wr u m) (hx : a.eval x = u)
    (hlen : m.length ≤ 1048576) (hB : B ≤ wr.heap.size)
    (hK : ∀ ao cap w', OwnS B w' (.slice ao m.length cap) m → Below B wr w' → wpList Try.prog ops Q rest (a.put o.dst (.slice ao m.length cap)) w') :
    wpList Try.prog ops Q (o :: rest) a wr := by
  obtain ⟨i0, hi, hz0, hz1, hz2⟩ := info_parts Try.infoS
  have shape : ∀ v' w', OwnS B w' v' m → Below B wr w' → wpList Try.prog ops Q rest (a.put o.dst v') w' := by
    intro v' w' h1 h2
    obtain ⟨ao, cap, rfl⟩ := ownsRow_shape h1
    exact hK ao cap w' h1 h2
  obtain ⟨ao, b, off, cap, rfl, hr⟩ := hr
  cases ao with
  | none =>
    have hc := hr.nil rfl
    have hl := hr.le
    have hm : m = [] := List.length_eq_zero_iff.1 (by omega)
    subst hm
    exact wpList_append_own_none hg s x t hop B 9 i0 1 ht hi v 0 [] hs hown (by rw [hx, hc]; rfl) (shape v wr hown (Below.refl _ _))
  | some ad =>
    refine wpList_append_own _ hg s x t hop B 9 i0 (.string ByteArray.empty) 1 16 ht hi hz0 hz1 hz2 rfl (by decide) v 0 [] hs hown ad m.length cap (strs m) hx (by simp [strs]) ?_ (strs_one _) (by unfold maxLen; omega) (by omega) hB ?_
    · intro j y hj
      have hjm : j < m.length := by
        have := (List.getElem?_eq_some_iff.1 hj).1
        simpa [strs] using this
      obtain rfl := Option.some.inj (hr.at_ (by omega))
      rw [strs_at hjm] at hj
      obtain rfl := Option.some.inj hj
      rw [Addr.add_lit]
      exact hr.cell j hjm
    · intro v' w' hown' hgrow' _
      refine shape v' w' ?_ ((Below.refl B wr).grown hgrow' hB (fun k hk => (hown.lt k hk).1))
      rw [Nat.zero_add, List.nil_append] at hown'
      exact hown'

/-- All waits behind none. -/
theorem wpList_allW {wr : World} {ops : Array Oper} {rest : List Oper} {o : Oper} {a : Act} {Q : Exit → Act → World → Prop}
    (hg : o.guard = none) (s x : Operand) (t : TypeId) (hop : o.op = Op.call { callee := Callee.builtin Builtin.append, args := #[s, x], argTypes := #[t, t] })
    (ht : Try.prog.underlying t = some (.slice 48)) (B : Nat) (v : Value) (hown : OwnW B wr v []) (hs : a.eval s = v) (u : Value) (m : List (Int × ByteArray)) (hr : ReadsW wr u m) (hx : a.eval x = u)
    (hlen : m.length ≤ 1048576) (hB : B ≤ wr.heap.size)
    (hK : ∀ ao cap w', OwnW B w' (.slice ao m.length cap) m → Below B wr w' → wpList Try.prog ops Q rest (a.put o.dst (.slice ao m.length cap)) w') :
    wpList Try.prog ops Q (o :: rest) a wr := by
  obtain ⟨i0, hi, hz0, hz1, hz2⟩ := info_parts Try.infoW
  have shape : ∀ v' w', OwnW B w' v' m → Below B wr w' → wpList Try.prog ops Q rest (a.put o.dst v') w' := by
    intro v' w' h1 h2
    obtain ⟨ao, cap, rfl⟩ := ownsRow_shape h1
    exact hK ao cap w' h1 h2
  obtain ⟨ao, b, off, cap, rfl, hr⟩ := hr
  cases ao with
  | none =>
    have hc := hr.nil rfl
    have hl := hr.le
    have hm : m = [] := List.length_eq_zero_iff.1 (by omega)
    subst hm
    exact wpList_append_own_none hg s x t hop B 48 i0 2 ht hi v 0 [] hs hown (by rw [hx, hc]; rfl) (shape v wr hown (Below.refl _ _))
  | some ad =>
    refine wpList_append_own _ hg s x t hop B 48 i0 (.agg #[.int .i64 0, .string ByteArray.empty]) 2 24 ht hi hz0 hz1 hz2 rfl (by decide) v 0 [] hs hown ad m.length cap (wts m) hx (wts_len m) ?_ (wts_one _) (by unfold maxLen; omega) (by omega) hB ?_
    · intro j y hj
      have hjm : j < m.length * 2 := by
        have := (List.getElem?_eq_some_iff.1 hj).1
        rwa [wts_len] at this
      obtain rfl := Option.some.inj (hr.at_ (by omega))
      rw [Addr.add_lit]
      have hi2 : j / 2 < m.length := by omega
      obtain ⟨k0, k1⟩ := wts_at hi2
      obtain ⟨c0, c1⟩ := hr.cell (j / 2) hi2
      rcases Nat.mod_two_eq_zero_or_one j with e | e
      · rw [show j / 2 * 2 = j by omega] at k0 c0
        rw [k0] at hj
        obtain rfl := Option.some.inj hj
        exact c0
      · rw [show j / 2 * 2 + 1 = j by omega] at k1
        rw [Nat.add_assoc, show j / 2 * 2 + 1 = j by omega] at c1
        rw [k1] at hj
        obtain rfl := Option.some.inj hj
        exact c1
    · intro v' w' hown' hgrow' _
      refine shape v' w' ?_ ((Below.refl B wr).grown hgrow' hB (fun k hk => (hown.lt k hk).1))
      rw [Nat.zero_add, List.nil_append] at hown'
      exact hown'

theorem DBox.set0 {w : World} {b : Nat} {vc vw x : Value} {room left : Int} (h : DBox w b vc vw room left) : DBox (w.setCell ⟨b, 0, none⟩ x) b x vw room left := by
  obtain ⟨c0, c1, c2, c3⟩ := h
  constructor <;> simp [go_sem, c0, c1, c2, c3]
theorem DBox.set1 {w : World} {b : Nat} {vc vw x : Value} {room left : Int} (h : DBox w b vc vw room left) : DBox (w.setCell ⟨b, 1, none⟩ x) b vc x room left := by
  obtain ⟨c0, c1, c2, c3⟩ := h
  constructor <;> simp [go_sem, c0, c1, c2, c3]
theorem DBox.other {w : World} {b b' o : Nat} {vc vw x : Value} {room left : Int} (h : DBox w b vc vw room left) (hn : b ≠ b') : DBox (w.setCell ⟨b', o, none⟩ x) b vc vw room left := by
  have e : ∀ k, (w.setCell ⟨b', o, none⟩ x).cell? ⟨b, k, none⟩ = w.cell? ⟨b, k, none⟩ := fun k => World.cell?_of_block (Below.heap_setCell _ _ _ _ hn)
  obtain ⟨c0, c1, c2, c3⟩ := h
  exact ⟨(e 0).trans c0, (e 1).trans c1, (e 2).trans c2, (e 3).trans c3⟩
/-- A box may be written into. -/
def Free (w : World) (b : Nat) : Prop := b < w.heap.size ∧ ∀ o, w.frozen? ⟨b, o, none⟩ = false
theorem Free.later {w w' : World} {b : Nat} (h : Free w b) (k : Below w.heap.size w w') : Free w' b := ⟨Nat.lt_of_lt_of_le h.1 k.size, fun o => (k.frozen (p := ⟨b, o, none⟩) h.1).trans (h.2 o)⟩
theorem Free.new (w : World) (cs : Array Value) (t : TypeId) : Free (w.alloc (.cells cs t)) w.heap.size := ⟨by simp, fun o => by simp [go_sem]⟩
theorem Free.set {w : World} {b b' o : Nat} {x : Value} (h : Free w b) : Free (w.setCell ⟨b', o, none⟩ x) b := ⟨by simpa using h.1, fun p => by have := h.2 p; simpa [go_sem] using this⟩

theorem diskCopy_any (w : World) (vc vw : Value) (cs : List ByteArray) (ws : List (Int × ByteArray)) (room left : Int) (hc : ReadsS w vc cs) (hw : ReadsW w vw ws) (hcl : cs.length ≤ 1048576) (hwl : ws.length ≤ 1048576) :
    Calls Try.prog 34 #[.agg #[vc, vw, .int .i64 room, .int .i64 left]] w (GivesDisk w cs ws room left) := by
  have HC := hide (fun W (h : Below w.heap.size w W) => hc.later h)
  have HW := hide (fun W (h : Below w.heap.size w W) => hw.later h)
  obtain ⟨ao, b, off, cap, rfl, -⟩ := hc
  obtain ⟨ao', b', off', cap', rfl, -⟩ := hw
  go_enter Try.func34, Try.ntmps34
  have A0 := (DBox.new w (.slice ao cs.length cap) (.slice ao' ws.length cap') room left 25).later ((Below.refl _ _).alloc (Nat.le_refl _) (.cells #[.slice none 0 0, .slice none 0 0, .int .i64 0, .int .i64 0] 25))
  have R0 := DBox.new (w.alloc (.cells #[.slice ao cs.length cap, .slice ao' ws.length cap', .int .i64 room, .int .i64 left] 25)) (.slice none 0 0) (.slice none 0 0) 0 0 25
  have F0 := (Free.new w #[.slice ao cs.length cap, .slice ao' ws.length cap', .int .i64 room, .int .i64 left] 25).later ((Below.refl _ _).alloc (Nat.le_refl _) (.cells #[.slice none 0 0, .slice none 0 0, .int .i64 0, .int .i64 0] 25))
  have E0 := Free.new (w.alloc (.cells #[.slice ao cs.length cap, .slice ao' ws.length cap', .int .i64 room, .int .i64 left] 25)) #[.slice none 0 0, .slice none 0 0, .int .i64 0, .int .i64 0] 25
  rw [World.size_alloc] at R0 E0
  go_wp2_with (first
    | (at_builtin; refine wpList_allS rfl _ _ 22 rfl Try.underlying22 _ _ (World.ownsRow_nil _ _ _ _) rfl _ cs (unhide HC _ (((Below.refl _ _).alloc (Nat.le_refl _) _).alloc (by simp) _)) rfl hcl (Nat.le_refl _) ?_; intro ac cc w1 o1 b1
       have A1 := A0.later b1
       have R1 := R0.later b1
       have F1 := F0.later b1
       have E1 := E0.later b1
       obtain ⟨a0, a1, a2, a3⟩ := id A1
       obtain ⟨f0, f1⟩ := id F1
       have B1 : Below w.heap.size w w1 := (((Below.refl _ _).alloc (Nat.le_refl _) _).alloc (by simp) _).trans (b1.mono (by simp <;> omega))
       have lt1 := o1.lt
       clear A0 R0 F0 E0 b1)
    | (at_builtin; refine wpList_allW rfl _ _ 23 rfl Try.underlying23 _ _ (World.ownsRow_nil _ _ _ _) rfl _ ws (unhide HW _ (B1.setCell (Nat.le_refl _) _)) rfl hwl (Nat.le_refl _) ?_; intro aw cw w2 o2 b2
       have O1 : OwnS _ w2 _ cs := ownsRow_later (ownsRow_setCell_below o1 (by simp <;> omega) _) b2
       obtain ⟨cA0, cA1, cA2, cA3⟩ := (A1.set0 (x := .slice ac cs.length cc)).later b2
       obtain ⟨cR0, cR1, cR2, cR3⟩ := (R1.other (o := 0) (x := .slice ac cs.length cc) (Nat.succ_ne_self _)).later b2
       obtain ⟨zA, fA⟩ := F1.set.later b2
       obtain ⟨zR, fR⟩ := E1.set.later b2
       have B2 := (B1.setCell (p := ⟨w.heap.size, 0, none⟩) (Nat.le_refl _) (.slice ac cs.length cc)).trans (b2.mono (by simpa using B1.size))
       have hz1 := B1.size
       have hlt : w.heap.size + 1 < w1.heap.size := E1.1
       clear a0 a1 a2 a3 f0 f1 A1 R1 F1 E1 B1 b2 o1))
  refine bodyPost_ret (v := .agg #[.slice ac cs.length cc, .slice aw ws.length cw, .int .i64 room, .int .i64 left]) (by simp [results, Try.results34, go_sem, cR0, cR1, cR2, cR3]) rfl ⟨ac, cc, aw, cw, w1.heap.size, rfl, ?_, ?_, ?_, ?_, ?_⟩
  · have h2 : OwnS (w.heap.size + 1 + 1) w2 _ cs := ownsRow_mono O1 (by simp)
    exact ownsRow_mono (ownsRow_setCell_below (ownsRow_setCell_below (ownsRow_setCell_below (ownsRow_setCell_below (ownsRow_setCell_below h2 (by simp <;> omega) _) (by simp) _) (by simp) _) (by simp) _) (by simp) _) (by omega)
  · have h2 : OwnW w1.heap.size w2 _ ws := ownsRow_mono o2 (by simp)
    exact ownsRow_setCell_below (ownsRow_setCell_below (ownsRow_setCell_below (ownsRow_setCell_below (ownsRow_setCell_below h2 (by simp <;> omega) _) (by simp <;> omega) _) (by simp <;> omega) _) (by simp <;> omega) _) (by simp <;> omega) _
  · omega
  · intro k hk; exact (lt1 k hk).2
  · exact ((((B2.setCell (by simp) _).setCell (by simp) _).setCell (by simp) _).setCell (by simp) _).setCell (by simp) _

theorem DBox.upto {w w' : World} {b B : Nat} {vc vw : Value} {room left : Int} (h : DBox w b vc vw room left) (k : Below B w w') (hb : b < B) : DBox w' b vc vw room left :=
  ⟨(k.cell (p := ⟨b, 0, none⟩) hb).trans h.c0, (k.cell (p := ⟨b, 1, none⟩) hb).trans h.c1, (k.cell (p := ⟨b, 2, none⟩) hb).trans h.c2, (k.cell (p := ⟨b, 3, none⟩) hb).trans h.c3⟩
theorem Free.upto {w w' : World} {b B : Nat} (h : Free w b) (k : Below B w w') (hb : b < B) : Free w' b := ⟨Nat.lt_of_lt_of_le h.1 k.size, fun o => (k.frozen (p := ⟨b, o, none⟩) hb).trans (h.2 o)⟩
theorem ownsRow_upto {B B' : Nat} {e : TypeId} {k : Nat} {v : Value} {n : Nat} {xs : List Value} {w w' : World} (h : w.ownsRow B e k v n xs) (hb : Below B' w w') (hl : ∀ x, v.ownBlock = some x → x < B') : w'.ownsRow B e k v n xs := by
  obtain ⟨h1, h2⟩ := h
  refine ⟨h1, ?_⟩
  rcases h2 with h2 | ⟨g, cap, cur, rfl, hB, hg, hr⟩
  · exact .inl h2
  · exact .inr ⟨g, cap, cur, rfl, hB, by rw [hb.block g (hl g rfl)]; exact hg, hr⟩

theorem own_emptyS (w : World) {B : Nat} (h : B ≤ w.heap.size) : OwnS B (w.alloc (.cells #[] 9)) (.slice (some ⟨w.heap.size, 0, none⟩) 0 0) [] :=
  World.ownsRow_made w #[] 0 h (by simp [maxLen]) rfl
theorem own_emptyW (w : World) {B : Nat} (h : B ≤ w.heap.size) : OwnW B (w.alloc (.cells #[] 48)) (.slice (some ⟨w.heap.size, 0, none⟩) 0 0) [] :=
  World.ownsRow_made w #[] 0 h (by simp [maxLen]) rfl

theorem l7Copy_any (w : World) (vc vw : Value) (cs : List ByteArray) (ws : List (Int × ByteArray)) (room left : Int) (hc : ReadsS w vc cs) (hw : ReadsW w vw ws) (hcl : cs.length ≤ 1048576) (hwl : ws.length ≤ 1048576) :
    Calls Try.prog 33 #[.agg #[vc, vw, .int .i64 room, .int .i64 left]] w (GivesDisk w cs ws room left) := by
  have HC := hide (fun W (h : Below w.heap.size w W) => hc.later h)
  have HW := hide (fun W (h : Below w.heap.size w W) => hw.later h)
  obtain ⟨ao, b, off, cap, rfl, -⟩ := hc
  obtain ⟨ao', b', off', cap', rfl, -⟩ := hw
  have hE : OwnS (w.heap.size + 1 + 1 + 1) ((((w.alloc (.cells #[.slice ao cs.length cap, .slice ao' ws.length cap', .int .i64 room, .int .i64 left] 25)).alloc (.cells #[.slice none 0 0, .slice none 0 0, .int .i64 0, .int .i64 0] 25)).alloc (.cells #[.slice ao cs.length cap, .slice ao' ws.length cap', .int .i64 room, .int .i64 left] 25)).alloc (.cells #[] 9)) (.slice (some ⟨w.heap.size + 1 + 1 + 1, 0, none⟩) 0 0) [] := by
    have := own_emptyS (((w.alloc (.cells #[.slice ao cs.length cap, .slice ao' ws.length cap', .int .i64 room, .int .i64 left] 25)).alloc (.cells #[.slice none 0 0, .slice none 0 0, .int .i64 0, .int .i64 0] 25)).alloc (.cells #[.slice ao cs.length cap, .slice ao' ws.length cap', .int .i64 room, .int .i64 left] 25)) (B := w.heap.size + 1 + 1 + 1) (by simp)
    rw [World.size_alloc, World.size_alloc, World.size_alloc] at this
    exact this
  have bD := (Below.refl _ w).alloc (Nat.le_refl _) (.cells #[.slice ao cs.length cap, .slice ao' ws.length cap', .int .i64 room, .int .i64 left] 25)
  have R0 := DBox.new (w.alloc (.cells #[.slice ao cs.length cap, .slice ao' ws.length cap', .int .i64 room, .int .i64 left] 25)) (.slice none 0 0) (.slice none 0 0) 0 0 25
  have E0 := Free.new (w.alloc (.cells #[.slice ao cs.length cap, .slice ao' ws.length cap', .int .i64 room, .int .i64 left] 25)) #[.slice none 0 0, .slice none 0 0, .int .i64 0, .int .i64 0] 25
  have O0 := DBox.new ((w.alloc (.cells #[.slice ao cs.length cap, .slice ao' ws.length cap', .int .i64 room, .int .i64 left] 25)).alloc (.cells #[.slice none 0 0, .slice none 0 0, .int .i64 0, .int .i64 0] 25)) (.slice ao cs.length cap) (.slice ao' ws.length cap') room left 25
  have F0 := Free.new ((w.alloc (.cells #[.slice ao cs.length cap, .slice ao' ws.length cap', .int .i64 room, .int .i64 left] 25)).alloc (.cells #[.slice none 0 0, .slice none 0 0, .int .i64 0, .int .i64 0] 25)) #[.slice ao cs.length cap, .slice ao' ws.length cap', .int .i64 room, .int .i64 left] 25
  have A0 := DBox.new w (.slice ao cs.length cap) (.slice ao' ws.length cap') room left 25
  rw [World.size_alloc] at R0 E0
  rw [World.size_alloc, World.size_alloc] at O0 F0
  have al := fun (W : World) (o : Obj) => (Below.refl W.heap.size W).alloc (Nat.le_refl _) o
  have A1 := ((A0.later (al _ (.cells #[.slice none 0 0, .slice none 0 0, .int .i64 0, .int .i64 0] 25))).later (al _ (.cells #[.slice ao cs.length cap, .slice ao' ws.length cap', .int .i64 room, .int .i64 left] 25))).later (al _ (.cells #[] 9))
  have R1 := (R0.later (al _ (.cells #[.slice ao cs.length cap, .slice ao' ws.length cap', .int .i64 room, .int .i64 left] 25))).later (al _ (.cells #[] 9))
  have E1 := (E0.later (al _ (.cells #[.slice ao cs.length cap, .slice ao' ws.length cap', .int .i64 room, .int .i64 left] 25))).later (al _ (.cells #[] 9))
  have O1 := O0.later (al _ (.cells #[] 9))
  have F1 := F0.later (al _ (.cells #[] 9))
  have B0 : Below w.heap.size w ((((w.alloc (.cells #[.slice ao cs.length cap, .slice ao' ws.length cap', .int .i64 room, .int .i64 left] 25)).alloc (.cells #[.slice none 0 0, .slice none 0 0, .int .i64 0, .int .i64 0] 25)).alloc (.cells #[.slice ao cs.length cap, .slice ao' ws.length cap', .int .i64 room, .int .i64 left] 25)).alloc (.cells #[] 9)) := (((bD.alloc (by simp) _).alloc (by simp <;> omega) _).alloc (by simp <;> omega) _)
  have KA := hide A1
  have KR := hide R1
  have KE := hide E1
  have KO := hide O1
  have KF := hide F1
  clear al bD A0 R0 E0 O0 F0 A1 R1 E1 O1 F1
  have lz : w.heap.size + 1 + 1 + 1 + 1 = ((((w.alloc (.cells #[.slice ao cs.length cap, .slice ao' ws.length cap', .int .i64 room, .int .i64 left] 25)).alloc (.cells #[.slice none 0 0, .slice none 0 0, .int .i64 0, .int .i64 0] 25)).alloc (.cells #[.slice ao cs.length cap, .slice ao' ws.length cap', .int .i64 room, .int .i64 left] 25)).alloc (.cells #[] 9)).heap.size := by simp
  have LZ := hide lz
  clear lz
  go_enter Try.func33, Try.ntmps33
  go_wp2_with (first
    | (at_builtin; refine wpList_allS rfl _ _ 22 rfl Try.underlying22 _ _ hE rfl _ cs (unhide HC _ B0) rfl hcl (by rw [← unhide LZ]; omega) ?_; intro ac cc w1 o1 b1
       have A1 := (unhide KA).upto b1 (by omega)
       have R1 := hide ((unhide KR).upto b1 (by omega))
       have E1 := hide ((unhide KE).upto b1 (by omega))
       have O1 := (unhide KO).upto b1 (by omega)
       have F1 := (unhide KF).upto b1 (by omega)
       have B1 := B0.trans (b1.mono (by omega))
       obtain ⟨-, a1, -, -⟩ := id A1
       obtain ⟨u0, u1, u2, u3⟩ := id O1
       obtain ⟨f0, f1⟩ := id F1
       have lt1 := o1.lt
       have hz1 : w.heap.size + 1 + 1 < w1.heap.size := F1.1
       have hz0 : w.heap.size < w1.heap.size := (by omega)
       have hE2 : OwnW w1.heap.size ((w1.setCell ⟨w.heap.size + 1 + 1, 0, none⟩ (.slice ac cs.length cc)).alloc (.cells #[] 48)) (.slice (some ⟨w1.heap.size, 0, none⟩) 0 0) [] := (by
         have := own_emptyW (w1.setCell ⟨w.heap.size + 1 + 1, 0, none⟩ (.slice ac cs.length cc)) (B := w1.heap.size) (by simp)
         simpa using this)
       have HE2 := hide hE2
       clear hE2 b1 B0 hE KA KR KE KO KF)
    | (at_builtin; refine wpList_allW rfl _ _ 23 rfl Try.underlying23 _ _ (unhide HE2) rfl _ ws (unhide HW _ ((B1.setCell (by simp <;> omega) _).alloc (by simpa using B1.size) _)) rfl hwl (by simp) ?_; intro aw cw w2 o2 b2
       have al := fun (W : World) (o : Obj) => (Below.refl W.heap.size W).alloc (Nat.le_refl _) o
       have OC : OwnS _ w2 _ cs := ownsRow_upto (ownsRow_later (ownsRow_setCell_below o1 (by simp) _) (al _ _)) b2 (fun x hx => (lt1 x hx).2)
       obtain ⟨cO0, cO1, cO2, cO3⟩ := ((O1.set0 (x := .slice ac cs.length cc)).later (al _ _)).upto b2 (by omega)
       obtain ⟨cR0, cR1, cR2, cR3⟩ := (((unhide R1).other (o := 0) (x := .slice ac cs.length cc) (by omega)).later (al _ _)).upto b2 (by omega)
       obtain ⟨zO, fO⟩ := (F1.set.later (al _ _)).upto b2 (by omega)
       obtain ⟨zR, fR⟩ := ((unhide E1).set.later (al _ _)).upto b2 (by omega)
       have B2 := ((B1.setCell (p := ⟨w.heap.size + 1 + 1, 0, none⟩) (by simp <;> omega) (.slice ac cs.length cc)).alloc (by simpa using B1.size) (.cells #[] 48)).trans (b2.mono (by omega))
       clear al a1 u0 u1 u2 u3 f0 f1 A1 R1 E1 O1 F1 B1 b2 o1 HE2))
  refine bodyPost_ret (v := .agg #[.slice ac cs.length cc, .slice aw ws.length cw, .int .i64 room, .int .i64 left]) (by simp [results, Try.results33, go_sem, cR0, cR1, cR2, cR3]) rfl ⟨ac, cc, aw, cw, w1.heap.size, rfl, ?_, ?_, ?_, ?_, ?_⟩
  · exact ownsRow_mono (ownsRow_setCell_below (ownsRow_setCell_below (ownsRow_setCell_below (ownsRow_setCell_below (ownsRow_setCell_below OC (by simp) _) (by simp <;> omega) _) (by simp <;> omega) _) (by simp <;> omega) _) (by simp <;> omega) _) (by omega)
  · exact ownsRow_setCell_below (ownsRow_setCell_below (ownsRow_setCell_below (ownsRow_setCell_below (ownsRow_setCell_below o2 (by simp; omega) _) (by simp; omega) _) (by simp; omega) _) (by simp; omega) _) (by simp; omega) _
  · omega
  · intro k hk; exact (lt1 k hk).2
  · exact ((((B2.setCell (by simp <;> omega) _).setCell (by simp) _).setCell (by simp) _).setCell (by simp) _).setCell (by simp) _

end Go.Proofs.Ytmbkjbjmpemgoaa
