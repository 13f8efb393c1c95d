/- The law on DiskOk, walked. -/
import Derived.Test.YtmbkjbjmpemgoaaDkF
import Derived.Test.YtmbkjbjmpemgoaaDbx
namespace Go.Proofs.Ytmbkjbjmpemgoaa
open Go.RowKit

theorem xDiskOk_walk (w : World) (vc vw : Value) (cs : List ByteArray) (ws : List (Int × ByteArray)) (room left : Int) (hc : ReadsS w vc cs) (hw : ReadsW w vw ws) :
    Calls Try.prog 4 #[.agg #[vc, vw, .int .i64 room, .int .i64 left]] w fun e w' => e = .returned (.bool true) ∧ Below w.heap.size w w' := by
  have CZ := hide (fun W (h : Below w.heap.size w W) => szDisk_any W vc vw cs ws room left (hc.later h) (hw.later h))
  have CT := hide (fun W (h : Below w.heap.size w W) => toDisk_any W vc vw cs ws room left (hc.later h) (hw.later h))
  have hsc : ∀ i (h : i < cs.length), cs[i].size ≤ maxLen := by obtain ⟨_, _, _, _, _, r⟩ := hc; exact r.siz
  have hsw : ∀ i (h : i < ws.length), ws[i].2.size ≤ maxLen := by obtain ⟨_, _, _, _, _, r⟩ := hw; exact r.siz
  have HSC := hide hsc
  have HSW := hide hsw
  clear hsc hsw
  obtain ⟨ao, b, off, cap, rfl, -⟩ := hc
  obtain ⟨ao', b', off', cap', rfl, -⟩ := hw
  go_enter Try.func4, Try.ntmps4
  go_wp2_with fail
  refine (unhide CZ _ ((Below.refl _ _).alloc (Nat.le_refl _) _)).mono ?_
  rintro e w1 ⟨⟨r, rfl, hr⟩, b1⟩
  have A1 := (DBox.new w (.slice ao cs.length cap) (.slice ao' ws.length cap') room left 32).later b1
  have B1 : Below w.heap.size w w1 := ((Below.refl _ _).alloc (Nat.le_refl _) _).trans (b1.mono (by simp))
  clear b1
  by_cases hneg : r < 0
  · clear A1
    go_wp2
    go_ret
    exact ⟨rfl, B1⟩
  · obtain ⟨hr0, hcl, hwl⟩ : 0 ≤ r ∧ cs.length ≤ 1048576 ∧ ws.length ≤ 1048576 := by omega
    clear hr
    obtain ⟨p0, p1, p2, p3⟩ := id A1
    go_wp2_with fail
    refine (unhide CT _ B1 hcl hwl).mono ?_
    rintro e w2 ⟨a2, c2, aw2, cw2, E2, rfl, o2, q2, -, -, b2⟩
    have A2 := A1.later b2
    have B2 := B1.trans (b2.mono B1.size)
    clear p0 p1 p2 p3 b2 A1
    go_wp2_with fail
    refine (specDiskOk_any w2 _ _ cs ws room left (o2.reads (unhide HSC)) (q2.reads (unhide HSW))).mono ?_
    rintro e w3 ⟨rfl, b3⟩
    have A3 := A2.later b3
    have B3 := B2.trans (b3.mono B2.size)
    clear b3 A2 o2 q2
    obtain ⟨p0, p1, p2, p3⟩ := id A3
    go_wp2_with fail
    refine (unhide CT _ B3 hcl hwl).mono ?_
    rintro e w4 ⟨a4, c4, aw4, cw4, E4, rfl, o4, q4, -, -, b4⟩
    have A4 := A3.later b4
    have B4 := B3.trans (b4.mono B3.size)
    clear p0 p1 p2 p3 b4 A3
    go_wp2_with fail
    have A4' := A4.later ((Below.refl _ _).alloc (Nat.le_refl _) (.cells #[.slice a4 cs.length c4, .slice aw4 ws.length cw4, .int .i64 room, .int .i64 left] 25))
    have X4 := DBox.new w4 (.slice a4 cs.length c4) (.slice aw4 ws.length cw4) room left 25
    have b45 := (Below.refl w4.heap.size w4).alloc (Nat.le_refl _) (.cells #[.slice a4 cs.length c4, .slice aw4 ws.length cw4, .int .i64 room, .int .i64 left] 25)
    have o4' := o4.reads (unhide HSC)
    have q4' := q4.reads (unhide HSW)
    refine (implDiskOk_any _ _ _ cs ws room left (o4'.later b45) (q4'.later b45)).mono ?_
    rintro e w5 ⟨rfl, b5⟩
    have A5 := A4'.later b5
    have X5 := X4.later b5
    have B45 : Below w4.heap.size w4 w5 := b45.trans (b5.mono b45.size)
    have B5 := B4.trans (B45.mono B4.size)
    have O5 := hide (o4'.later B45)
    have Q5 := hide (q4'.later B45)
    clear b5 b45 B45 A4 A4' X4 o4 q4 o4' q4'
    generalize diskB cs ws room left = d
    have hd : (!d == d) = false := by cases d <;> rfl
    obtain ⟨p0, p1, p2, p3⟩ := id A5
    obtain ⟨x0, x1, x2, x3⟩ := id X5
    have stab : ∀ w' : World, Below w5.heap.size w5 w' → (w'.cell? ⟨w.heap.size, 0, none⟩ = some (.slice ao cs.length cap) ∧ w'.cell? ⟨w.heap.size, 1, none⟩ = some (.slice ao' ws.length cap') ∧ w'.cell? ⟨w.heap.size, 2, none⟩ = some (.int .i64 room) ∧ w'.cell? ⟨w.heap.size, 3, none⟩ = some (.int .i64 left) ∧ w'.cell? ⟨w4.heap.size, 0, none⟩ = some (.slice a4 cs.length c4) ∧ w'.cell? ⟨w4.heap.size, 1, none⟩ = some (.slice aw4 ws.length cw4) ∧ w'.cell? ⟨w4.heap.size, 2, none⟩ = some (.int .i64 room) ∧ w'.cell? ⟨w4.heap.size, 3, none⟩ = some (.int .i64 left)) := fun w' h => by
      obtain ⟨p0, p1, p2, p3⟩ := A5.later h
      obtain ⟨x0, x1, x2, x3⟩ := X5.later h
      exact ⟨p0, p1, p2, p3, x0, x1, x2, x3⟩
    have Stab := hide stab
    clear stab
    go_wp2_with fail
    go_region_held (fun w' => w'.cell? ⟨w.heap.size, 0, none⟩ = some (.slice ao cs.length cap) ∧ w'.cell? ⟨w.heap.size, 1, none⟩ = some (.slice ao' ws.length cap') ∧ w'.cell? ⟨w.heap.size, 2, none⟩ = some (.int .i64 room) ∧ w'.cell? ⟨w.heap.size, 3, none⟩ = some (.int .i64 left) ∧ w'.cell? ⟨w4.heap.size, 0, none⟩ = some (.slice a4 cs.length c4) ∧ w'.cell? ⟨w4.heap.size, 1, none⟩ = some (.slice aw4 ws.length cw4) ∧ w'.cell? ⟨w4.heap.size, 2, none⟩ = some (.int .i64 room) ∧ w'.cell? ⟨w4.heap.size, 3, none⟩ = some (.int .i64 left))
      (first | exact unhide Stab _ (Below.refl _ _).drew | exact unhide Stab _ (by assumption))
      (first
      | (go_at_call 13; refine (unhide CT _ B5.drew hcl hwl).mono ?_; rintro e w6 ⟨a6, c6, aw6, cw6, E6, rfl, o6, q6, -, -, b6⟩; have B56 : Below w5.heap.size w5 w6 := (Below.refl _ _).drew.trans b6)
      | (go_at_call 8; refine (eqDisk_same _ _ _ _ _ cs ws room left ((unhide O5).later B56) ((unhide Q5).later B56) (o6.reads (unhide HSC)) (q6.reads (unhide HSW))).mono ?_; rintro e w7 ⟨rfl, b7⟩; have B57 := B56.trans (b7.mono B56.size)))
    all_goals
      go_wp2
      go_ret
      exact ⟨rfl, B5.trans (B57.mono B5.size)⟩

end Go.Proofs.Ytmbkjbjmpemgoaa
