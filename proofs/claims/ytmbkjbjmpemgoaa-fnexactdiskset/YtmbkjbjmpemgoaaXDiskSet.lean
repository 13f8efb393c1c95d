/- The law on DiskSet, walked. -/
import Derived.Test.YtmbkjbjmpemgoaaDkD
import Derived.Test.YtmbkjbjmpemgoaaDkQ
import Derived.Test.YtmbkjbjmpemgoaaDkR
namespace Go.Proofs.Ytmbkjbjmpemgoaa
open Go.RowKit

set_option maxHeartbeats 2000000 in
theorem xDiskSet_walk (w : World) (vc vw : Value) (cs : List ByteArray) (ws : List (Int × ByteArray)) (room left ar al : Int) (hc : ReadsS w vc cs) (hw : ReadsW w vw ws) :
    Calls Try.prog 5 #[.agg #[vc, vw, .int .i64 room, .int .i64 left], .int .i64 ar, .int .i64 al] w fun e w' => e = .returned (.bool true) ∧ Below w.heap.size w w' := by
  have CZ := hide (fun W (h : Below w.heap.size w W) => szDisk_any W vc vw cs ws room left (hc.later h) (hw.later h))
  have CT := hide (fun W (h : Below w.heap.size w W) => toDisk_any W vc vw cs ws room left (hc.later h) (hw.later h))
  have hsc : ∀ i (h : i < cs.length), cs[i].size ≤ maxLen := by obtain ⟨_, _, _, _, _, r⟩ := hc; exact r.siz
  have hsw : ∀ i (h : i < ws.length), ws[i].2.size ≤ maxLen := by obtain ⟨_, _, _, _, _, r⟩ := hw; exact r.siz
  obtain ⟨os, qs, r, l, hso, hsq, ol, ql, CI, CS⟩ : ∃ (os : List ByteArray) (qs : List (Int × ByteArray)) (r l : Int), (∀ i (h : i < os.length), os[i].size ≤ maxLen) ∧ (∀ i (h : i < qs.length), qs[i].2.size ≤ maxLen) ∧ os.length ≤ 1048576 ∧ qs.length ≤ 1048576 ∧
      (∀ W u v, ReadsS W u cs → ReadsW W v ws → Calls Try.prog 16 #[.agg #[u, v, .int .i64 room, .int .i64 left], .int .i64 ar, .int .i64 al] W (GivesDisk W os qs r l)) ∧
      (∀ W u v, ReadsS W u cs → ReadsW W v ws → Calls Try.prog 15 #[.agg #[u, v, .int .i64 room, .int .i64 left], .int .i64 ar, .int .i64 al] W (GivesDisk W os qs r l)) := by
    by_cases h : setB cs ws room left ar al = true
    · exact ⟨cs, ws, ar, al, hsc, hsw, (setB_len h).1, (setB_len h).2, fun W u v hu hv => implDiskSet_yes W u v cs ws room left ar al hu hv h, fun W u v hu hv => specDiskSet_yes W u v cs ws room left ar al hu hv h⟩
    · have h' : setB cs ws room left ar al = false := by simpa using h
      exact ⟨[], [], 0, 0, fun i h => by simp at h, fun i h => by simp at h, by simp, by simp, fun W u v hu hv => implDiskSet_no W u v cs ws room left ar al hu hv h', fun W u v hu hv => specDiskSet_no W u v cs ws room left ar al hu hv h'⟩
  have HSC := hide hsc
  have HSW := hide hsw
  have HSO := hide hso
  have HSQ := hide hsq
  have HCI := hide CI
  have HCS := hide CS
  clear hsc hsw hso hsq CI CS
  obtain ⟨ao, b, off, cap, rfl, -⟩ := hc
  obtain ⟨ao', b', off', cap', rfl, -⟩ := hw
  go_enter Try.func5, Try.ntmps5
  go_wp2_with fail
  refine (unhide CZ _ ((Below.refl _ _).alloc (Nat.le_refl _) _)).mono ?_
  rintro e w1 ⟨⟨z, rfl, hz⟩, b1⟩
  have A1 := (DBox.new w (.slice ao cs.length cap) (.slice ao' ws.length cap') room left 32).later b1
  have B1 : Below w.heap.size w w1 := ((Below.refl _ _).alloc (Nat.le_refl _) _).trans (b1.mono (by simp))
  clear b1 CZ
  by_cases hneg : z < 0
  · clear A1
    go_wp2
    go_ret
    exact ⟨rfl, B1⟩
  · obtain ⟨hr0, hcl, hwl⟩ : 0 ≤ z ∧ cs.length ≤ 1048576 ∧ ws.length ≤ 1048576 := by omega
    clear hz
    obtain ⟨p0, p1, p2, p3⟩ := id A1
    go_wp2_with fail
    refine (unhide CT _ B1 hcl hwl).mono ?_
    rintro e w2 ⟨a2, c2, aw2, cw2, E2, rfl, o2, q2, -, -, b2⟩
    have A2 := A1.later b2
    have B2 := B1.trans (b2.mono B1.size)
    clear p0 p1 p2 p3 b2 A1 B1
    go_wp2_with fail
    refine (unhide HCS w2 _ _ (o2.reads (unhide HSC)) (q2.reads (unhide HSW))).mono ?_
    rintro e w3 ⟨a3, c3, aw3, cw3, E3, rfl, o3, q3, -, -, b3⟩
    have bx := (Below.refl w3.heap.size w3).alloc (Nat.le_refl _) (.cells #[.slice a3 os.length c3, .slice aw3 qs.length cw3, .int .i64 r, .int .i64 l] 25)
    have A3 := A2.later b3
    have A3' := A3.later bx
    have W3 := DBox.new w3 (.slice a3 os.length c3) (.slice aw3 qs.length cw3) r l 25
    have B3 := B2.trans (b3.mono B2.size)
    have B3' := B3.trans (bx.mono B3.size)
    have OW3 : OwnS w2.heap.size _ _ os := ownsRow_later o3 bx
    have QW3 : OwnW E3 _ _ qs := ownsRow_later q3 bx
    have sW : ∀ k, (Value.slice a3 os.length c3).ownBlock = some k → k < w3.heap.size := fun k hk => (o3.lt k hk).2
    have sV : ∀ k, (Value.slice aw3 qs.length cw3).ownBlock = some k → k < w3.heap.size := fun k hk => (q3.lt k hk).2
    have zA3 := A3.lt
    clear o2 q2 o3 q3 b3 bx A2 B2 B3
    obtain ⟨p0, p1, p2, p3⟩ := id A3
    go_wp2_with fail
    refine (unhide CT _ B3' hcl hwl).mono ?_
    rintro e w4 ⟨a4, c4, aw4, cw4, E4, rfl, o4, q4, le4, lt4, b4⟩
    have by4 := (Below.refl w4.heap.size w4).alloc (Nat.le_refl _) (.cells #[.slice a4 cs.length c4, .slice aw4 ws.length cw4, .int .i64 room, .int .i64 left] 25)
    have A4 := (A3'.later b4).later by4
    have W4 := (W3.later b4).later by4
    have X4 := DBox.new w4 (.slice a4 cs.length c4) (.slice aw4 ws.length cw4) room left 25
    have OW4 : OwnS w2.heap.size _ _ os := ownsRow_later (ownsRow_later OW3 b4) by4
    have QW4 : OwnW E3 _ _ qs := ownsRow_later (ownsRow_later QW3 b4) by4
    have OX4 : OwnS (w3.heap.size + 1) _ _ cs := ownsRow_mono (ownsRow_later o4 by4) (by simp)
    have QX4 : OwnW E4 _ _ ws := ownsRow_later q4 by4
    have sX : ∀ k, (Value.slice a4 cs.length c4).ownBlock = some k → w3.heap.size < k ∧ k < w4.heap.size := fun k hk => by have := o4.lt k hk; simp at this; omega
    have sY : ∀ k, (Value.slice aw4 ws.length cw4).ownBlock = some k → w3.heap.size < k ∧ k < w4.heap.size := fun k hk => by have := q4.lt k hk; simp at le4; omega
    have B4 := (B3'.trans (b4.mono B3'.size)).trans (by4.mono (Nat.le_trans B3'.size b4.size))
    have ltW : w3.heap.size < w4.heap.size := by have := b4.size; simp at this; omega
    clear p0 p1 p2 p3 b4 by4 o4 q4 A3 A3' W3 OW3 QW3 B3' le4
    go_wp2_with fail
    refine (unhide HCI _ _ _ (OX4.reads (unhide HSC)) (QX4.reads (unhide HSW))).mono ?_
    rintro e w5 ⟨a5, c5, aw5, cw5, E5, rfl, o5, q5, le5, lt5, b5⟩
    have bz := (Below.refl w5.heap.size w5).alloc (Nat.le_refl _) (.cells #[.slice a5 os.length c5, .slice aw5 qs.length cw5, .int .i64 r, .int .i64 l] 25)
    have A5 := (A4.later b5).later bz
    have W5 := (W4.later b5).later bz
    have X5 := (X4.later b5).later bz
    have G5 := DBox.new w5 (.slice a5 os.length c5) (.slice aw5 qs.length cw5) r l 25
    have OW5 : OwnS w2.heap.size _ _ os := ownsRow_later (ownsRow_later OW4 b5) bz
    have QW5 : OwnW E3 _ _ qs := ownsRow_later (ownsRow_later QW4 b5) bz
    have OX5 : OwnS (w3.heap.size + 1) _ _ cs := ownsRow_later (ownsRow_later OX4 b5) bz
    have QX5 : OwnW E4 _ _ ws := ownsRow_later (ownsRow_later QX4 b5) bz
    have OG5 : OwnS (w4.heap.size + 1) _ _ os := ownsRow_mono (ownsRow_later o5 bz) (by simp)
    have QG5 : OwnW E5 _ _ qs := ownsRow_later q5 bz
    have sG : ∀ k, (Value.slice a5 os.length c5).ownBlock = some k → w4.heap.size < k ∧ k < w5.heap.size := fun k hk => by have := o5.lt k hk; simp at this; omega
    have sH : ∀ k, (Value.slice aw5 qs.length cw5).ownBlock = some k → w4.heap.size < k ∧ k < w5.heap.size := fun k hk => by have := q5.lt k hk; simp at le5; omega
    have B5 := (B4.trans (b5.mono B4.size)).trans (bz.mono (Nat.le_trans B4.size b5.size))
    have ltX : w4.heap.size < w5.heap.size := by have := b5.size; simp at this; omega
    obtain ⟨p0, p1, p2, p3⟩ := W4.later b5
    have ltWX : w3.heap.size < w5.heap.size := by omega
    clear b5 bz o5 q5 A4 W4 X4 OW4 QW4 OX4 QX4 B4 le5
    go_wp2_with fail
    refine (eqDisk_same _ _ _ _ _ os qs r l (OG5.reads (unhide HSO)) (QG5.reads (unhide HSQ)) (OW5.reads (unhide HSO)) (QW5.reads (unhide HSQ))).mono ?_
    rintro e w6 ⟨rfl, b6⟩
    have A6 := A5.later b6
    have W6 := W5.later b6
    have X6 := X5.later b6
    have G6 := G5.later b6
    have OW6 : OwnS w2.heap.size _ _ os := ownsRow_later OW5 b6
    have QW6 : OwnW E3 _ _ qs := ownsRow_later QW5 b6
    have OX6 : OwnS (w3.heap.size + 1) _ _ cs := ownsRow_later OX5 b6
    have QX6 : OwnW E4 _ _ ws := ownsRow_later QX5 b6
    have OG6 : OwnS (w4.heap.size + 1) _ _ os := ownsRow_later OG5 b6
    have QG6 : OwnW E5 _ _ qs := ownsRow_later QG5 b6
    have B6 := B5.trans (b6.mono B5.size)
    clear p0 p1 p2 p3 b6 A5 W5 X5 G5 OW5 QW5 OX5 QX5 OG5 QG5 B5
    obtain ⟨p0, p1, p2, p3⟩ := id A6
    obtain ⟨x0, x1, x2, x3⟩ := id X6
    have stab : ∀ w' : World, Below w6.heap.size w6 w' → (w'.cell? ⟨w.heap.size, 0, none⟩ = some (.slice ao cs.length cap) ∧ w'.cell? ⟨w.heap.size, 1, none⟩ = some (.slice ao' ws.length cap') ∧ w'.cell? ⟨w.heap.size, 2, none⟩ = some (.int .i64 room) ∧ w'.cell? ⟨w.heap.size, 3, none⟩ = some (.int .i64 left) ∧ w'.cell? ⟨w4.heap.size, 0, none⟩ = some (.slice a4 cs.length c4) ∧ w'.cell? ⟨w4.heap.size, 1, none⟩ = some (.slice aw4 ws.length cw4) ∧ w'.cell? ⟨w4.heap.size, 2, none⟩ = some (.int .i64 room) ∧ w'.cell? ⟨w4.heap.size, 3, none⟩ = some (.int .i64 left)) := fun w' h => by
      obtain ⟨p0, p1, p2, p3⟩ := A6.later h
      obtain ⟨x0, x1, x2, x3⟩ := X6.later h
      exact ⟨p0, p1, p2, p3, x0, x1, x2, x3⟩
    have Stab := hide stab
    have RX := hide (OX6.reads (unhide HSC))
    have RY := hide (QX6.reads (unhide HSW))
    clear stab
    go_wp2_with fail
    go_region_held (fun w' => w'.cell? ⟨w.heap.size, 0, none⟩ = some (.slice ao cs.length cap) ∧ w'.cell? ⟨w.heap.size, 1, none⟩ = some (.slice ao' ws.length cap') ∧ w'.cell? ⟨w.heap.size, 2, none⟩ = some (.int .i64 room) ∧ w'.cell? ⟨w.heap.size, 3, none⟩ = some (.int .i64 left) ∧ w'.cell? ⟨w4.heap.size, 0, none⟩ = some (.slice a4 cs.length c4) ∧ w'.cell? ⟨w4.heap.size, 1, none⟩ = some (.slice aw4 ws.length cw4) ∧ w'.cell? ⟨w4.heap.size, 2, none⟩ = some (.int .i64 room) ∧ w'.cell? ⟨w4.heap.size, 3, none⟩ = some (.int .i64 left))
      (first | exact unhide Stab _ (Below.refl _ _).drew | exact unhide Stab _ (by assumption))
      (first
      | (go_at_call 13; refine (unhide CT _ B6.drew hcl hwl).mono ?_; rintro e w7 ⟨a7, c7, aw7, cw7, E7, rfl, o7, q7, -, -, b7⟩; have B67 : Below w6.heap.size w6 w7 := (Below.refl _ _).drew.trans b7)
      | (go_at_call 8; refine (eqDisk_same _ _ _ _ _ cs ws room left ((unhide RX).later B67) ((unhide RY).later B67) (o7.reads (unhide HSC)) (q7.reads (unhide HSW))).mono ?_; rintro e w8 ⟨rfl, b8⟩; have B68 := B67.trans (b8.mono B67.size)))
    have A8 := A6.later B68
    have W8 := W6.later B68
    have X8 := X6.later B68
    have G8 := G6.later B68
    have OW8 : OwnS w2.heap.size _ _ os := ownsRow_later OW6 B68
    have QW8 : OwnW E3 _ _ qs := ownsRow_later QW6 B68
    have OX8 : OwnS (w3.heap.size + 1) _ _ cs := ownsRow_later OX6 B68
    have QX8 : OwnW E4 _ _ ws := ownsRow_later QX6 B68
    have OG8 : OwnS (w4.heap.size + 1) _ _ os := ownsRow_later OG6 B68
    have QG8 : OwnW E5 _ _ qs := ownsRow_later QG6 B68
    have B8 := B6.trans (B68.mono B6.size)
    clear p0 p1 p2 p3 x0 x1 x2 x3 B67 B68 b7 b8 o7 q7 RX RY Stab A6 W6 X6 G6 OW6 QW6 OX6 QX6 OG6 QG6 B6
    obtain ⟨x0, x1, x2, x3⟩ := id X8
    go_wp2_with fail
    refine (markDisk_any w8 (w3.heap.size + 1) E4 _ _ cs ws room left _ 1 rfl OX8 QX8 lt4 hcl hwl (by omega) (by omega)).mono ?_
    rintro e w9 ⟨rfl, -, -, u9⟩
    have nX : ∀ b, (b ≤ w3.heap.size ∨ w4.heap.size ≤ b) → some b ≠ (Value.slice a4 cs.length c4).ownBlock ∧ some b ≠ (Value.slice aw4 ws.length cw4).ownBlock := fun b hb => ⟨fun e => by have := sX b e.symm; omega, fun e => by have := sY b e.symm; omega⟩
    have zAA := zA3
    have A9 := A8.but u9 (nX _ (by omega)).1 (nX _ (by omega)).2
    have W9 := W8.but u9 (nX _ (by omega)).1 (nX _ (by omega)).2
    have G9 := G8.but u9 (nX _ (by omega)).1 (nX _ (by omega)).2
    have OW9 : OwnS w2.heap.size _ _ os := ownsRow_but OW8 u9 (fun x hx => nX x (by have := sW x hx; omega))
    have QW9 : OwnW E3 _ _ qs := ownsRow_but QW8 u9 (fun x hx => nX x (by have := sV x hx; omega))
    have OG9 : OwnS (w4.heap.size + 1) _ _ os := ownsRow_but OG8 u9 (fun x hx => nX x (by have := sG x hx; omega))
    have QG9 : OwnW E5 _ _ qs := ownsRow_but QG8 u9 (fun x hx => nX x (by have := sH x hx; omega))
    have B9 : Below w.heap.size w w9 := B8.trans (u9.below B8.size (fun k hk => by have := sX k hk; omega) (fun k hk => by have := sY k hk; omega))
    clear x0 x1 x2 x3 u9 A8 W8 X8 G8 OW8 QW8 OX8 QX8 OG8 QG8 B8
    have hk0 : decide (((1 + cs.length + 2 * ws.length : Nat) : Int) < 0) = false := by simp; omega
    generalize ((1 + cs.length + 2 * ws.length : Nat) : Int) = K at *
    obtain ⟨x0, x1, x2, x3⟩ := id G9
    obtain ⟨p0, p1, p2, p3⟩ := id W9
    go_wp2_with fail
    refine (eqDisk_same _ _ _ _ _ os qs r l (OG9.reads (unhide HSO)) (QG9.reads (unhide HSQ)) (OW9.reads (unhide HSO)) (QW9.reads (unhide HSQ))).mono ?_
    rintro e w10 ⟨rfl, b10⟩
    have A10 := A9.later b10
    have W10 := W9.later b10
    have G10 := G9.later b10
    have OW10 : OwnS w2.heap.size _ _ os := ownsRow_later OW9 b10
    have QW10 : OwnW E3 _ _ qs := ownsRow_later QW9 b10
    have OG10 : OwnS (w4.heap.size + 1) _ _ os := ownsRow_later OG9 b10
    have QG10 : OwnW E5 _ _ qs := ownsRow_later QG9 b10
    have B10 := B9.trans (b10.mono B9.size)
    clear x0 x1 x2 x3 p0 p1 p2 p3 b10 A9 W9 G9 OW9 QW9 OG9 QG9 B9
    obtain ⟨x0, x1, x2, x3⟩ := id G10
    go_wp2_with fail
    refine (markDisk_any w10 (w4.heap.size + 1) E5 _ _ os qs r l _ 1 rfl OG10 QG10 lt5 ol ql (by omega) (by omega)).mono ?_
    rintro e w11 ⟨rfl, OG11, QG11, u11⟩
    have nG : ∀ b, (b ≤ w4.heap.size ∨ w5.heap.size ≤ b) → some b ≠ (Value.slice a5 os.length c5).ownBlock ∧ some b ≠ (Value.slice aw5 qs.length cw5).ownBlock := fun b hb => ⟨fun e => by have := sG b e.symm; omega, fun e => by have := sH b e.symm; omega⟩
    have A11 := A10.but u11 (nG _ (by omega)).1 (nG _ (by omega)).2
    have W11 := W10.but u11 (nG _ (by omega)).1 (nG _ (by omega)).2
    have G11 := G10.but u11 (nG _ (by omega)).1 (nG _ (by omega)).2
    have OW11 : OwnS w2.heap.size _ _ os := ownsRow_but OW10 u11 (fun x hx => nG x (by have := sW x hx; omega))
    have QW11 : OwnW E3 _ _ qs := ownsRow_but QW10 u11 (fun x hx => nG x (by have := sV x hx; omega))
    have B11 : Below w.heap.size w w11 := B10.trans (u11.below B10.size (fun k hk => by have := sG k hk; omega) (fun k hk => by have := sH k hk; omega))
    clear x0 x1 x2 x3 u11 A10 W10 G10 OW10 QW10 OG10 QG10 B10
    have SZ1 := hide (smarks_siz 1 os.length (by omega))
    have SZ2 := hide (wmarks_siz (1 + os.length) qs.length (by omega))
    have hq0 : decide (((1 + os.length + 2 * qs.length : Nat) : Int) < 0) = false := by simp; omega
    have hq1 : (((1 + os.length + 2 * qs.length : Nat) : Int) != ((1 + os.length + 2 * qs.length : Nat) : Int)) = false := by simp
    generalize hM : ((1 + os.length + 2 * qs.length : Nat) : Int) = M at *
    have HM := hide hM
    clear hM
    have CH := hide (fun W h1 h2 => heldDisk_any W (.slice a5 os.length c5) (.slice aw5 qs.length cw5) r l 1 1 os.length qs.length rfl h1 h2 ol ql (by omega) (by omega))
    rw [unhide HM] at CH
    obtain ⟨x0, x1, x2, x3⟩ := id G11
    go_wp2_with fail
    refine (unhide CH _ ?_ ?_).mono ?_
    · have := OG11.reads (unhide SZ1)
      exact this
    · have := QG11.reads (unhide SZ2)
      exact this
    rintro e w12 ⟨rfl, b12⟩
    clear x0 x1 x2 x3
    have A12 := A11.later b12
    have W12 := W11.later b12
    have G12 := G11.later b12
    have OW12 : OwnS w2.heap.size _ _ os := ownsRow_later OW11 b12
    have QW12 : OwnW E3 _ _ qs := ownsRow_later QW11 b12
    have OG12 := ownsRow_later OG11 b12
    have QG12 := ownsRow_later QG11 b12
    have B12 := B11.trans (b12.mono B11.size)
    clear A11 W11 G11 OW11 QW11 OG11 QG11 B11 b12
    obtain ⟨p0, p1, p2, p3⟩ := id A12
    go_wp2_with fail
    refine (unhide CT _ B12 hcl hwl).mono ?_
    rintro e w13 ⟨a13, c13, aw13, cw13, E13, rfl, o13, q13, -, -, b13⟩
    clear p0 p1 p2 p3 A12
    go_wp2_with fail
    refine (unhide HCI w13 _ _ (o13.reads (unhide HSC)) (q13.reads (unhide HSW))).mono ?_
    rintro e w14 ⟨a14, c14, aw14, cw14, E14, rfl, o14, q14, -, -, b14⟩
    have b15 := (Below.refl w14.heap.size w14).alloc (Nat.le_refl _) (.cells #[.slice a14 os.length c14, .slice aw14 qs.length cw14, .int .i64 r, .int .i64 l] 25)
    have bb := (b13.trans (b14.mono b13.size)).trans (b15.mono (Nat.le_trans b13.size b14.size))
    have O15 : OwnS _ _ _ os := ownsRow_later o14 b15
    have Q15 : OwnW _ _ _ qs := ownsRow_later q14 b15
    have OW15 : OwnS w2.heap.size _ _ os := ownsRow_later OW12 bb
    have QW15 : OwnW E3 _ _ qs := ownsRow_later QW12 bb
    have OG15 := ownsRow_later OG12 bb
    have QG15 := ownsRow_later QG12 bb
    have G15 := G12.later bb
    have B15 := B12.trans (bb.mono B12.size)
    obtain ⟨p0, p1, p2, p3⟩ := (W12.later b13).later b14
    have ltW14 : w3.heap.size < w14.heap.size := ((W12.later b13).later b14).lt
    clear o13 q13 o14 q14 b13 b14 b15 bb OW12 QW12 OG12 QG12 G12 B12 W12
    go_wp2_with fail
    refine (eqDisk_same _ _ _ _ _ os qs r l (O15.reads (unhide HSO)) (Q15.reads (unhide HSQ)) (OW15.reads (unhide HSO)) (QW15.reads (unhide HSQ))).mono ?_
    rintro e w16 ⟨rfl, b16⟩
    clear p0 p1 p2 p3 ltW14
    obtain ⟨x0, x1, x2, x3⟩ := G15.later b16
    have OG16 : OwnS _ _ _ (smarks 1 os.length) := ownsRow_later OG15 b16
    have QG16 : OwnW _ _ _ (wmarks (1 + os.length) qs.length) := ownsRow_later QG15 b16
    have B16 := B15.trans (b16.mono B15.size)
    clear G15 OG15 QG15 B15 O15 Q15 OW15 QW15 b16
    have RO := OG16.reads (unhide SZ1)
    have RQ := QG16.reads (unhide SZ2)
    go_wp2_with fail
    refine (unhide CH _ RO RQ).mono ?_
    rintro e w17 ⟨rfl, b17⟩
    go_wp2
    go_ret
    exact ⟨rfl, B16.trans (b17.mono B16.size)⟩

end Go.Proofs.Ytmbkjbjmpemgoaa
