/- The law on DiskNew, walked. -/
import Derived.Test.YtmbkjbjmpemgoaaDkD
import Derived.Test.YtmbkjbjmpemgoaaDkO
import Derived.Test.YtmbkjbjmpemgoaaDkR
namespace Go.Proofs.Ytmbkjbjmpemgoaa
open Go.RowKit

set_option maxHeartbeats 1000000 in
theorem xDiskNew_walk (w : World) :
    Calls Try.prog 3 #[] w fun e w' => e = .returned (.bool true) ∧ Below w.heap.size w w' := by
  obtain ⟨cs, ws, room, left, CI, CS, hsc, hsw, hcl, hwl⟩ : ∃ (cs : List ByteArray) (ws : List (Int × ByteArray)) (room left : Int), (∀ W, Calls Try.prog 7 #[] W (GivesDisk W cs ws room left)) ∧ (∀ W, Calls Try.prog 6 #[] W (GivesDisk W cs ws room left)) ∧
      (∀ i (h : i < cs.length), cs[i].size ≤ maxLen) ∧ (∀ i (h : i < ws.length), ws[i].2.size ≤ maxLen) ∧ cs.length ≤ 1048576 ∧ ws.length ≤ 1048576 :=
    ⟨noTexts, [], -1, -1, implDiskNew_any, specDiskNew_any, noTexts_siz, fun i h => by simp at h, by rw [noTexts_len]; omega, by simp⟩
  have HSC := hide hsc
  have HSW := hide hsw
  clear hsc hsw
  go_enter Try.func3, Try.ntmps3
  go_wp2_with fail
  refine (CS _).mono ?_
  rintro e w1 ⟨a1, c1, aw1, cw1, E1, rfl, o1, q1, -, -, B1⟩
  have W1 := DBox.new w1 (.slice a1 cs.length c1) (.slice aw1 ws.length cw1) room left 25
  have b1 := (Below.refl w1.heap.size w1).alloc (Nat.le_refl _) (.cells #[.slice a1 cs.length c1, .slice aw1 ws.length cw1, .int .i64 room, .int .i64 left] 25)
  have OW1 := ownsRow_later o1 b1
  have QW1 := ownsRow_later q1 b1
  have sW : ∀ k, (Value.slice a1 cs.length c1).ownBlock = some k → k < w1.heap.size := fun k hk => (o1.lt k hk).2
  have sV : ∀ k, (Value.slice aw1 ws.length cw1).ownBlock = some k → k < w1.heap.size := fun k hk => (q1.lt k hk).2
  have B1' := B1.trans (b1.mono B1.size)
  have B1s := B1.size
  clear o1 q1
  go_wp2_with fail
  refine (CI _).mono ?_
  rintro e w2 ⟨a2, c2, aw2, cw2, E2, rfl, o2, q2, le2, lt2, b2⟩
  have b3 := (Below.refl w2.heap.size w2).alloc (Nat.le_refl _) (.cells #[.slice a2 cs.length c2, .slice aw2 ws.length cw2, .int .i64 room, .int .i64 left] 25)
  have W2 := (W1.later b2).later b3
  have G2 := DBox.new w2 (.slice a2 cs.length c2) (.slice aw2 ws.length cw2) room left 25
  have B2 := (B1'.trans (b2.mono B1'.size)).trans (b3.mono (Nat.le_trans B1'.size b2.size))
  have OW2 : OwnS w.heap.size _ _ cs := ownsRow_later (ownsRow_later OW1 b2) b3
  have QW2 : OwnW E1 _ _ ws := ownsRow_later (ownsRow_later QW1 b2) b3
  have O2 : OwnS (w1.heap.size + 1) _ _ cs := ownsRow_mono (ownsRow_later o2 b3) (by simp)
  have Q2 : OwnW E2 _ _ ws := ownsRow_later q2 b3
  have le2' : w1.heap.size + 1 ≤ E2 := by simpa using le2
  have ltG : w2.heap.size < (w2.alloc (.cells #[.slice a2 cs.length c2, .slice aw2 ws.length cw2, .int .i64 room, .int .i64 left] 25)).heap.size := by simp
  have ltW : w1.heap.size < w2.heap.size := by have := b2.size; simp at this; omega
  have sC : ∀ k, (Value.slice a2 cs.length c2).ownBlock = some k → w1.heap.size < k ∧ k < w2.heap.size := fun k hk => by have := o2.lt k hk; simp at this; omega
  have sQ : ∀ k, (Value.slice aw2 ws.length cw2).ownBlock = some k → w1.heap.size < k ∧ k < w2.heap.size := fun k hk => by have := q2.lt k hk; omega
  obtain ⟨p0, p1, p2, p3⟩ := W1.later b2
  clear b1 B1 B1' b2 b3 o2 q2 W1 OW1 QW1 le2
  go_wp2_with fail
  have RG2 := O2.reads (unhide HSC)
  have RH2 := Q2.reads (unhide HSW)
  refine (eqDisk_same _ _ _ _ _ cs ws room left RG2 RH2 (OW2.reads (unhide HSC)) (QW2.reads (unhide HSW))).mono ?_
  rintro e w4 ⟨rfl, b4⟩
  clear p0 p1 p2 p3 RG2 RH2
  have W4 := W2.later b4
  have G4 := G2.later b4
  have B4 := B2.trans (b4.mono B2.size)
  have OW4 := ownsRow_later OW2 b4
  have QW4 := ownsRow_later QW2 b4
  have O4 := ownsRow_later O2 b4
  have Q4 := ownsRow_later Q2 b4
  have ltG4 : w2.heap.size < w4.heap.size := G4.lt
  clear W2 G2 B2 OW2 QW2 O2 Q2 b4 ltG
  obtain ⟨x0, x1, x2, x3⟩ := id G4
  go_wp2_with fail
  refine (markDisk_any w4 (w1.heap.size + 1) E2 _ _ cs ws room left _ 1 rfl O4 Q4 lt2 hcl hwl (by omega) (by omega)).mono ?_
  rintro e w5 ⟨rfl, O5, Q5, u5⟩
  clear x0 x1 x2 x3
  have nC : ∀ b, (b ≤ w1.heap.size ∨ w2.heap.size ≤ b) → some b ≠ (Value.slice a2 cs.length c2).ownBlock := fun b hb e => by have := sC b e.symm; omega
  have nQ : ∀ b, (b ≤ w1.heap.size ∨ w2.heap.size ≤ b) → some b ≠ (Value.slice aw2 ws.length cw2).ownBlock := fun b hb e => by have := sQ b e.symm; omega
  have W5 := W4.but u5 (nC _ (by omega)) (nQ _ (by omega))
  have G5 := G4.but u5 (nC _ (by omega)) (nQ _ (by omega))
  have OW5 : OwnS w.heap.size _ _ cs := ownsRow_but OW4 u5 (fun x hx => ⟨nC x (by have := sW x hx; omega), nQ x (by have := sW x hx; omega)⟩)
  have QW5 : OwnW E1 _ _ ws := ownsRow_but QW4 u5 (fun x hx => ⟨nC x (by have := sV x hx; omega), nQ x (by have := sV x hx; omega)⟩)
  have B5 : Below w.heap.size w w5 := B4.trans (u5.below B4.size (fun k hk => by have := (O4.lt k hk).1; have := B1s; omega) (fun k hk => by have := (sQ k hk).1; have := B1s; omega))
  have z5 : w2.heap.size < w5.heap.size := G5.lt
  clear W4 G4 B4 OW4 QW4 O4 Q4 u5 ltG4
  obtain ⟨x0, x1, x2, x3⟩ := id G5
  have sz1 := smarks_siz 1 cs.length (by omega)
  have sz2 := wmarks_siz (1 + cs.length) ws.length (by omega)
  have SZ1 := hide sz1
  have SZ2 := hide sz2
  clear sz1 sz2
  have hq0 : decide (((1 + cs.length + 2 * ws.length : Nat) : Int) < 0) = false := by simp; omega
  have hq1 : (((1 + cs.length + 2 * ws.length : Nat) : Int) != ((1 + cs.length + 2 * ws.length : Nat) : Int)) = false := by simp
  generalize hM : ((1 + cs.length + 2 * ws.length : Nat) : Int) = M at *
  have HM := hide hM
  clear hM
  have CH := hide (fun W h1 h2 => heldDisk_any W (.slice a2 cs.length c2) (.slice aw2 ws.length cw2) room left 1 1 cs.length ws.length rfl h1 h2 hcl hwl (by omega) (by omega))
  rw [unhide HM] at CH
  go_wp2_with fail
  refine (unhide CH _ ?_ ?_).mono ?_
  · have := O5.reads (unhide SZ1)
    exact this
  · have := Q5.reads (unhide SZ2)
    exact this
  rintro e w6 ⟨rfl, b6⟩
  clear x0 x1 x2 x3
  have W6 := W5.later b6
  have G6 := G5.later b6
  have OW6 : OwnS w.heap.size _ _ cs := ownsRow_later OW5 b6
  have QW6 : OwnW E1 _ _ ws := ownsRow_later QW5 b6
  have O6 := ownsRow_later O5 b6
  have Q6 := ownsRow_later Q5 b6
  have B6 := B5.trans (b6.mono B5.size)
  clear W5 G5 OW5 QW5 O5 Q5 B5 b6 z5
  go_wp2_with fail
  refine (CI _).mono ?_
  rintro e w7 ⟨a7, c7, aw7, cw7, E7, rfl, o7, q7, -, -, b7⟩
  have b8 := (Below.refl w7.heap.size w7).alloc (Nat.le_refl _) (.cells #[.slice a7 cs.length c7, .slice aw7 ws.length cw7, .int .i64 room, .int .i64 left] 25)
  have O8 : OwnS _ _ _ cs := ownsRow_later o7 b8
  have Q8 : OwnW _ _ _ ws := ownsRow_later q7 b8
  have OW8 : OwnS w.heap.size _ _ cs := ownsRow_later (ownsRow_later OW6 b7) b8
  have QW8 : OwnW E1 _ _ ws := ownsRow_later (ownsRow_later QW6 b7) b8
  have OG8 : OwnS _ _ _ (smarks 1 cs.length) := ownsRow_later (ownsRow_later O6 b7) b8
  have QG8 : OwnW _ _ _ (wmarks (1 + cs.length) ws.length) := ownsRow_later (ownsRow_later Q6 b7) b8
  have G8 := (G6.later b7).later b8
  have B8 := (B6.trans (b7.mono B6.size)).trans (b8.mono (Nat.le_trans B6.size b7.size))
  obtain ⟨p0, p1, p2, p3⟩ := W6.later b7
  have ltW7 : w1.heap.size < w7.heap.size := (W6.later b7).lt
  clear o7 q7 b7 b8 OW6 QW6 O6 Q6 G6 B6 W6
  go_wp2_with fail
  refine (eqDisk_same _ _ _ _ _ cs ws room left (O8.reads (unhide HSC)) (Q8.reads (unhide HSW)) (OW8.reads (unhide HSC)) (QW8.reads (unhide HSW))).mono ?_
  rintro e w9 ⟨rfl, b9⟩
  clear p0 p1 p2 p3 ltW7
  obtain ⟨x0, x1, x2, x3⟩ := G8.later b9
  have OG9 : OwnS _ _ _ (smarks 1 cs.length) := ownsRow_later OG8 b9
  have QG9 : OwnW _ _ _ (wmarks (1 + cs.length) ws.length) := ownsRow_later QG8 b9
  have B9 := B8.trans (b9.mono B8.size)
  clear G8 OG8 QG8 B8 O8 Q8 OW8 QW8 b9
  have RO := OG9.reads (unhide SZ1)
  have RQ := QG9.reads (unhide SZ2)
  go_wp2_with fail
  refine (unhide CH _ RO RQ).mono ?_
  rintro e w10 ⟨rfl, b10⟩
  go_wp2
  go_ret
  exact ⟨rfl, B9.trans (b10.mono B9.size)⟩

end Go.Proofs.Ytmbkjbjmpemgoaa
