/- Which of two numbers without a sign is the greater one: impl's against, spec's l1CmpAbs. -/
import Derived.Test.YtjamogkenghonaaGreatDoorCmpI
import Derived.Test.YtjamogkenghonaaGreatDoorImA
namespace Go.Proofs.YtjamogkenghonaaGreatDoor
open Go.RowKit
set_option maxRecDepth 100000

theorem l1CmpAbs_any (w : World) (u v : Value) (a b : Nat) (hu : Reads w u (L a)) (hv : Reads w v (L b)) :
    Calls Tryz.prog 74 #[u, v] w fun e w' => e = .returned (.int .i64 (cmpZ a b)) ∧ Below w.heap.size w w' := by
  have hL1 := L_lim a
  have hL2 := L_lim b
  have v1 := val_L a
  have v2 := val_L b
  have hlen := @cmp_len a b
  have htop := @cmp_top a b
  have hend := @cmp_end a b
  generalize L a = l at *
  generalize L b = m at *
  obtain ⟨ao, b1, off, cap, rfl, hu⟩ := hu
  obtain ⟨ao', b2, off', cap', rfl, hv⟩ := hv
  have h1 := hu.le
  have h2 := hu.big
  have h3 := hv.le
  have h4 := hv.big
  unfold maxLen at h2 h4
  generalize cmpZ (a : Int) (b : Int) = z at *
  clear hL1 hL2 v1 v2
  have Hlen := hide hlen
  have Htop := hide htop
  have Hend := hide hend
  clear hlen htop hend
  by_cases hl : l.length = m.length
  · have hne : ((l.length : Int) != (m.length : Int)) = false := by simp; omega
    have hle1 : l.length ≤ m.length := by omega
    have hle2 : m.length ≤ l.length := by omega
    clear hl
    go_enter Tryz.func74, Tryz.ntmps74
    go_wp2
    go_loopw [5] (fun i wr => ∃ k : Nat, k ≤ l.length ∧ i = .int .i64 ((k : Int) - 1) ∧ l.drop k = m.drop k ∧ Below w.heap.size w wr) (fun i _ => (intOf i + 1).toNat)
    case atStart => exact ⟨l.length, Nat.le_refl _, rfl, by rw [List.drop_of_length_le (by omega), List.drop_of_length_le (by omega)], Below.refl _ _⟩
    case round =>
      obtain ⟨k, hk, rfl, ht, hbel⟩ := hrel
      have Ht := hide ht
      clear ht
      by_cases hp : 0 < k
      · have hlt : k - 1 < l.length := by omega
        have hlt' : k - 1 < m.length := by omega
        have hc := (hu.later hbel).cell (k - 1) hlt
        have hc' := (hv.later hbel).cell (k - 1) hlt'
        have hat := hu.at_ (by omega)
        have hat' := hv.at_ (by omega)
        subst hat hat'
        clear hu hv
        have hd : l.drop (k - 1 + 1) = m.drop (k - 1 + 1) := by rw [show k - 1 + 1 = k by omega]; exact unhide Ht
        have hstep : l[k - 1] = m[k - 1] → l.drop (k - 1) = m.drop (k - 1) := fun e => by rw [← List.getElem_cons_drop hlt, ← List.getElem_cons_drop hlt', hd, e]
        have Hstep := hide hstep
        have HT := hide (fun hne => unhide Htop (k - 1) hlt hlt' hd hne)
        clear hd hstep
        rcases Int.lt_trichotomy l[k - 1] m[k - 1] with he | he | he
        · have he' : decide (l[k - 1] < m[k - 1]) = true := by simpa using he
          have HZ := hide (unhide HT (by omega))
          rw [cmpZ_lt he] at HZ
          go_wp2
          go_quiet (fail)
          go_wp2
          go_ret
          exact ⟨by rw [← unhide HZ]; rfl, below_draws hbel _⟩
        · have he' : decide (l[k - 1] < m[k - 1]) = false := by simp; omega
          have he2 : decide (m[k - 1] < l[k - 1]) = false := by simp; omega
          have He := hide (unhide Hstep he)
          have hq1 : m[k - 1] ≤ l[k - 1] := by omega
          have hq2 : l[k - 1] ≤ m[k - 1] := by omega
          clear he
          go_wp2
          go_quiet (fail)
          go_wp2
          go_quiet (fail)
          go_wp2
          go_roundw
          case rel => exact ⟨k - 1, by omega, by congr 1; omega, unhide He, by first | exact below_draws hbel _ | exact below_draws (below_draws hbel _) _⟩
          case measure => simp only [intOf]; omega
        · have he' : decide (l[k - 1] < m[k - 1]) = false := by simp; omega
          have he2 : decide (m[k - 1] < l[k - 1]) = true := by simpa using he
          have HZ := hide (unhide HT (by omega))
          rw [cmpZ_gt he] at HZ
          go_wp2
          go_quiet (fail)
          go_wp2
          go_quiet (fail)
          go_wp2
          go_ret
          exact ⟨by rw [← unhide HZ]; rfl, by first | exact below_draws hbel _ | exact below_draws (below_draws hbel _) _⟩
      · have hk0 : k = 0 := by omega
        subst hk0
        have e := unhide Ht
        simp only [List.drop_zero] at e
        have He := hide (unhide Hend e)
        clear e
        go_wp2
        go_ret
        exact ⟨by rw [unhide He]; rfl, hbel⟩
  · have hz := unhide Hlen hl
    have Hz := hide hz
    clear hz
    have hne : ((l.length : Int) != (m.length : Int)) = true := by simp; omega
    clear hu hv
    by_cases hlt : l.length < m.length
    · rw [cmpZ_lt (by omega)] at Hz
      go_enter Tryz.func74, Tryz.ntmps74
      go_wp2
      go_ret
      exact ⟨by rw [← unhide Hz]; rfl, Below.refl _ _⟩
    · rw [cmpZ_gt (by omega)] at Hz
      go_enter Tryz.func74, Tryz.ntmps74
      go_wp2
      go_ret
      exact ⟨by rw [← unhide Hz]; rfl, Below.refl _ _⟩

end Go.Proofs.YtjamogkenghonaaGreatDoor
