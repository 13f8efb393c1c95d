/- Whether a disk is ok, by the specification and by the program: the whole. -/
import Derived.Test.YtmbkjbjmpemgoaaDkE
namespace Go.Proofs.Ytmbkjbjmpemgoaa
open Go.RowKit

theorem diskB_1 {cs : List ByteArray} {ws : List (Int × ByteArray)} {room left : Int} (h : ¬ cs.length = 42) : diskB cs ws room left = false := by simp [diskB, h]
theorem diskB_2 {cs : List ByteArray} {ws : List (Int × ByteArray)} {room left : Int} (h : ¬ ws.length ≤ 100) : diskB cs ws room left = false := by simp [diskB, h]
theorem diskB_3 {cs : List ByteArray} {ws : List (Int × ByteArray)} {room left : Int} (h : ¬ -1 ≤ room) : diskB cs ws room left = false := by simp [diskB, h]
theorem diskB_4 {cs : List ByteArray} {ws : List (Int × ByteArray)} {room left : Int} (h : ¬ -1 ≤ left) : diskB cs ws room left = false := by simp [diskB, h]
theorem diskB_5 {cs : List ByteArray} {ws : List (Int × ByteArray)} {room left : Int} (h1 : cs.length = 42) (h2 : ws.length ≤ 100) (h3 : -1 ≤ room) (h4 : -1 ≤ left) : diskB cs ws room left = (cs.all shortB && ws.all waitB) := by simp [diskB, h1, h2, h3, h4]

set_option maxHeartbeats 1000000 in
theorem implDiskOk_any (w : World) (vc vw : Value) (cs : List ByteArray) (ws : List (Int × ByteArray)) (room left : Int) (hc : ReadsS w vc cs) (hw : ReadsW w vw ws) :
    Calls Try.prog 14 #[.agg #[vc, vw, .int .i64 room, .int .i64 left]] w fun e w' => e = .returned (.bool (diskB cs ws room left)) ∧ Below w.heap.size w w' := by
  have hc' := hide hc
  have hw' := hide hw
  obtain ⟨ao, b, off, cap, rfl, hc⟩ := hc
  obtain ⟨ao', b', off', cap', rfl, hw⟩ := hw
  have m1 := hc.le
  have m2 := hc.big
  have m3 := hw.le
  have m4 := hw.big
  unfold maxLen at m2 m4
  by_cases a1 : cs.length = 42
  · have d1 : ((cs.length : Int) != 42) = false := by simp; omega
    by_cases a2 : ws.length ≤ 100
    · have d2 : decide ((100 : Int) < ws.length) = false := by simp; omega
      by_cases a3 : -1 ≤ room
      · have d3 : decide (room < -1) = false := by simp; omega
        by_cases a4 : -1 ≤ left
        · have d4 : decide (left < -1) = false := by simp; omega
          rw [diskB_5 a1 a2 a3 a4]
          clear a1
          clear hc hw
          have C1 := fun o => indexS_anyC (w.alloc o) _ cs ((unhide hc').alloc o)
          have C2 := fun W (h : Below w.heap.size w W) => indexW_anyC W _ ws ((unhide hw').later h)
          generalize cs.all shortB = x at C1 ⊢
          generalize ws.all waitB = y at C2 ⊢
          have H1 := hide C1
          have H2 := hide C2
          clear C1 C2
          cases x
          · go_enter Try.func14, Try.ntmps14
            go_wp2_with fail
            refine (unhide H1 _).mono ?_
            rintro e w1 ⟨rfl, b1⟩
            go_wp2
            go_ret
            exact ⟨rfl, ((Below.refl _ _).alloc (Nat.le_refl _) _).trans (b1.mono (by simp))⟩
          · cases y
            all_goals
              go_enter Try.func14, Try.ntmps14
              go_wp2_with fail
              refine (unhide H1 _).mono ?_
              rintro e w1 ⟨rfl, b1⟩
              obtain ⟨hcc, -⟩ := bcell b1
              have B1 := ((Below.refl _ _).alloc (Nat.le_refl _) _).trans (b1.mono (by simp))
              go_wp2_with fail
              refine (unhide H2 _ B1).mono ?_
              rintro e w2 ⟨rfl, b2⟩
              go_wp2
              go_ret
              exact ⟨rfl, B1.trans (b2.mono B1.size)⟩
        · have d4 : decide (left < -1) = true := by simp; omega
          rw [diskB_4 a4]
          clear a1 a2 a3 a4
          clear hc hw
          go_enter Try.func14, Try.ntmps14
          go_wp2
          go_ret
          exact ⟨rfl, (Below.refl _ _).alloc (Nat.le_refl _) _⟩
      · have d3 : decide (room < -1) = true := by simp; omega
        rw [diskB_3 a3]
        clear a1 a2 a3
        clear hc hw
        go_enter Try.func14, Try.ntmps14
        go_wp2
        go_ret
        exact ⟨rfl, (Below.refl _ _).alloc (Nat.le_refl _) _⟩
    · have d2 : decide ((100 : Int) < ws.length) = true := by simp; omega
      rw [diskB_2 a2]
      clear a1 a2
      clear hc hw
      go_enter Try.func14, Try.ntmps14
      go_wp2
      go_ret
      exact ⟨rfl, (Below.refl _ _).alloc (Nat.le_refl _) _⟩
  · have d1 : ((cs.length : Int) != 42) = true := by simp; omega
    rw [diskB_1 a1]
    clear a1
    clear hc hw
    go_enter Try.func14, Try.ntmps14
    go_wp2
    go_ret
    exact ⟨rfl, (Below.refl _ _).alloc (Nat.le_refl _) _⟩

set_option maxHeartbeats 1000000 in
theorem l7Ok_any (w : World) (vc vw : Value) (cs : List ByteArray) (ws : List (Int × ByteArray)) (room left : Int) (hc : ReadsS w vc cs) (hw : ReadsW w vw ws) :
    Calls Try.prog 25 #[.agg #[vc, vw, .int .i64 room, .int .i64 left]] w fun e w' => e = .returned (.bool (diskB cs ws room left)) ∧ Below w.heap.size w w' := by
  have hc' := hide hc
  have hw' := hide hw
  obtain ⟨ao, b, off, cap, rfl, hc⟩ := hc
  obtain ⟨ao', b', off', cap', rfl, hw⟩ := hw
  have m1 := hc.le
  have m2 := hc.big
  have m3 := hw.le
  have m4 := hw.big
  unfold maxLen at m2 m4
  by_cases a1 : cs.length = 42
  · have d1 : ((cs.length : Int) != 42) = false := by simp; omega
    by_cases a2 : ws.length ≤ 100
    · have d2 : decide ((100 : Int) < ws.length) = false := by simp; omega
      by_cases a3 : -1 ≤ room
      · have d3 : decide (room < -1) = false := by simp; omega
        by_cases a4 : -1 ≤ left
        · have d4 : decide (left < -1) = false := by simp; omega
          rw [diskB_5 a1 a2 a3 a4]
          clear a1
          go_enter Try.func25, Try.ntmps25
          go_wp2
          generalize hw0 : w.alloc (.cells #[.slice ao cs.length cap, .slice ao' ws.length cap', .int .i64 room, .int .i64 left] 25) = w0
          have B0 : Below w.heap.size w w0 := by rw [← hw0]; exact (Below.refl _ _).alloc (Nat.le_refl _) _
          have k0 : w0.cell? ⟨w.heap.size, 0, none⟩ = some (.slice ao cs.length cap) := by rw [← hw0]; simp [go_sem]
          have k1 : w0.cell? ⟨w.heap.size, 1, none⟩ = some (.slice ao' ws.length cap') := by rw [← hw0]; simp [go_sem]
          have z0 : w.heap.size < w0.heap.size := by rw [← hw0]; simp
          clear hw0
          go_loopw [3] (fun i wr => ∃ k : Nat, k ≤ cs.length ∧ i = .int .i64 k ∧ (cs.take k).all shortB = true ∧ wr = w0) (fun i _ => cs.length - (intOf i).toNat)
          case atStart => exact ⟨0, Nat.zero_le _, rfl, by simp, rfl⟩
          case round =>
            obtain ⟨k, hk, rfl, ht, rfl⟩ := hrel
            have Ht := hide ht
            clear ht
            by_cases hlt : k < cs.length
            · have hs := hc.siz k hlt
              unfold maxLen at hs
              have hcc := (hc.later B0).cell k hlt
              have hat := hc.at_ (by omega)
              subst hat
              clear hc hw
              by_cases hg : cs[k].size ≤ 1200
              · have hg' : decide ((1200 : Int) < cs[k].size) = false := by simp; omega
                go_wp2
                go_roundw
                case rel => exact ⟨k + 1, by omega, by go_num, by rw [List.take_succ_eq_append_getElem hlt, List.all_append, unhide Ht]; simpa [shortB] using hg, by first | rfl | trivial⟩
                case measure => simp [intOf]; omega
              · have hg' : decide ((1200 : Int) < cs[k].size) = true := by simp; omega
                have e : cs.all shortB = false := by
                  rw [List.all_eq_false]
                  exact ⟨cs[k], List.getElem_mem hlt, by simpa [shortB] using hg⟩
                have E := hide e
                clear e
                go_wp2
                go_ret
                exact ⟨by rw [unhide E]; rfl, B0⟩
            · have e : cs.all shortB = true := by
                have := unhide Ht
                rw [List.take_of_length_le (by omega)] at this
                exact this
              have E := hide e
              clear e
              go_wp2
              go_loopw [4] (fun i wr => ∃ k : Nat, k ≤ ws.length ∧ i = .int .i64 k ∧ (ws.take k).all waitB = true ∧ Below w.heap.size w wr ∧ wr.cell? ⟨w.heap.size, 1, none⟩ = some (.slice ao' ws.length cap')) (fun i _ => ws.length - (intOf i).toNat)
              case atStart => exact ⟨0, Nat.zero_le _, rfl, by simp, B0, k1⟩
              case round =>
                clear k0 k1 z0 B0 Ht
                obtain ⟨k, hk, rfl, ht, hbel, kk⟩ := hrel
                have Ht := hide ht
                clear ht
                by_cases hlt : k < ws.length
                · have hs := hw.siz k hlt
                  obtain ⟨hc0, hc1⟩ := (hw.later hbel).cell k hlt
                  have hat := hw.at_ (by omega)
                  subst hat
                  clear hc hw
                  have C := fun W => l7Wait_any W ws[k].1 ws[k].2 hs
                  by_cases hg : waitB ws[k] = true
                  · have Hg := hide hg
                    have C' : ∀ W, Calls Try.prog 38 #[.agg #[.int .i64 ws[k].1, .string ws[k].2]] W fun e w' => e = .returned (.bool true) ∧ Below W.heap.size W w' := by
                      intro W
                      have := C W
                      rw [show waitB (ws[k].1, ws[k].2) = true from hg] at this
                      exact this
                    clear hg C
                    go_wp2_with fail
                    refine (C' _).mono ?_
                    rintro e w1 ⟨rfl, b1⟩
                    have kk1 := (b1.cell (p := ⟨w.heap.size, 1, none⟩) (World.block_lt_of_cell? _ _ kk)).trans kk
                    go_wp2
                    go_roundw
                    case rel => exact ⟨k + 1, by omega, by go_num, by rw [List.take_succ_eq_append_getElem hlt, List.all_append, unhide Ht]; simpa using unhide Hg, hbel.trans (b1.mono hbel.size), kk1⟩
                    case measure => simp [intOf]; omega
                  · have Hg := hide hg
                    have C' : ∀ W, Calls Try.prog 38 #[.agg #[.int .i64 ws[k].1, .string ws[k].2]] W fun e w' => e = .returned (.bool false) ∧ Below W.heap.size W w' := by
                      intro W
                      have := C W
                      rw [show waitB (ws[k].1, ws[k].2) = false by simpa using hg] at this
                      exact this
                    clear hg C
                    go_wp2_with fail
                    refine (C' _).mono ?_
                    rintro e w1 ⟨rfl, b1⟩
                    go_wp2
                    go_ret
                    refine ⟨?_, hbel.trans (b1.mono hbel.size)⟩
                    have e : ws.all waitB = false := by
                      rw [List.all_eq_false]
                      exact ⟨ws[k], List.getElem_mem hlt, unhide Hg⟩
                    rw [e, unhide E]
                    rfl
                · go_wp2
                  go_ret
                  refine ⟨?_, hbel⟩
                  have := unhide Ht
                  rw [List.take_of_length_le (by omega)] at this
                  rw [this, unhide E]
                  rfl
        · have d4 : decide (left < -1) = true := by simp; omega
          rw [diskB_4 a4]
          clear a1 a2 a3 a4
          clear hc hw
          go_enter Try.func25, Try.ntmps25
          go_wp2
          go_ret
          exact ⟨rfl, (Below.refl _ _).alloc (Nat.le_refl _) _⟩
      · have d3 : decide (room < -1) = true := by simp; omega
        rw [diskB_3 a3]
        clear a1 a2 a3
        clear hc hw
        go_enter Try.func25, Try.ntmps25
        go_wp2
        go_ret
        exact ⟨rfl, (Below.refl _ _).alloc (Nat.le_refl _) _⟩
    · have d2 : decide ((100 : Int) < ws.length) = true := by simp; omega
      rw [diskB_2 a2]
      clear a1 a2
      clear hc hw
      go_enter Try.func25, Try.ntmps25
      go_wp2
      go_ret
      exact ⟨rfl, (Below.refl _ _).alloc (Nat.le_refl _) _⟩
  · have d1 : ((cs.length : Int) != 42) = true := by simp; omega
    rw [diskB_1 a1]
    clear a1
    clear hc hw
    go_enter Try.func25, Try.ntmps25
    go_wp2
    go_ret
    exact ⟨rfl, (Below.refl _ _).alloc (Nat.le_refl _) _⟩

theorem specDiskOk_any (w : World) (vc vw : Value) (cs : List ByteArray) (ws : List (Int × ByteArray)) (room left : Int) (hc : ReadsS w vc cs) (hw : ReadsW w vw ws) :
    Calls Try.prog 12 #[.agg #[vc, vw, .int .i64 room, .int .i64 left]] w fun e w' => e = .returned (.bool (diskB cs ws room left)) ∧ Below w.heap.size w w' := by
  have C := hide (fun W (h : Below w.heap.size w W) => l7Ok_any W vc vw cs ws room left (hc.later h) (hw.later h))
  go_enter Try.func12, Try.ntmps12
  go_wp2_with fail
  refine (unhide C _ ?_).mono ?_
  · first | exact Below.refl _ _ | exact (Below.refl _ _).alloc (Nat.le_refl _) _
  · rintro e w1 ⟨rfl, b1⟩
    go_wp2
    go_ret
    exact ⟨rfl, by first | exact b1 | exact ((Below.refl _ _).alloc (Nat.le_refl _) _).trans (b1.mono (by simp))⟩

end Go.Proofs.Ytmbkjbjmpemgoaa
