/- The shape of what is owned. Two rows of limbs held against each other: the program's against, by a contract. Which of two numbers without a sign is the greater one: impl's against, spec's l1CmpAbs. -/
import Derived.Test.YtlmbcicfpidhcaaG00
import Derived.Test.YtlmbcicfpidhcaaG02
namespace Go.Proofs.Ytlmbcicfpidhcaa
open Go.RowKit

theorem Own.shape {B : Nat} {w : World} {v : Value} {l : List Int} (h : Own B w v l) : ∃ ao cap, v = .slice ao l.length cap := by
  rcases h.split with ⟨rfl, rfl⟩ | ⟨g, cap, rfl, _⟩
  · exact ⟨none, 0, rfl⟩
  · exact ⟨_, cap, rfl⟩

end Go.Proofs.Ytlmbcicfpidhcaa

namespace Go.Proofs.Ytlmbcicfpidhcaa
open Go.RowKit
set_option maxRecDepth 100000


/-- -1, 0 or 1, as x is less than y, as much, or more. -/
def cmpZ (x y : Int) : Int := if x < y then -1 else if y < x then 1 else 0

theorem cmpZ_lt {x y : Int} (h : x < y) : cmpZ x y = -1 := by simp [cmpZ, h]

theorem cmpZ_gt {x y : Int} (h : y < x) : cmpZ x y = 1 := by simp [cmpZ, h]; omega

theorem cmpZ_eq {x y : Int} (h : x = y) : cmpZ x y = 0 := by simp [cmpZ, h]

theorem compare_any (w : World) (x y : Int) : Calls Try.prog 95 #[.int .i64 x, .int .i64 y] w fun e w' => e = .returned (.int .i64 (cmpZ x y)) ∧ w' = w := by
  rcases Int.lt_trichotomy x y with h | h | h
  · rw [cmpZ_lt h]
    go_enter Try.func95, Try.ntmps95
    go_wp2
    go_ret
    exact ⟨rfl, rfl⟩
  · subst h
    rw [cmpZ_eq rfl]
    go_enter Try.func95, Try.ntmps95
    go_wp2
    go_ret
    exact ⟨rfl, rfl⟩
  · rw [cmpZ_gt h]
    have h' : ¬ x < y := by omega
    go_enter Try.func95, Try.ntmps95
    go_wp2
    go_ret
    exact ⟨rfl, rfl⟩

theorem cmp_len {a b : Nat} (h : (L a).length ≠ (L b).length) : cmpZ (L a).length (L b).length = cmpZ a b := by
  rcases Nat.lt_or_gt_of_ne h with h | h
  · rw [cmpZ_lt (by omega), cmpZ_lt (by have := lt_of_len h; omega)]
  · rw [cmpZ_gt (by omega), cmpZ_gt (by have := lt_of_len h; omega)]

theorem cmp_top {a b : Nat} (k : Nat) (h1 : k < (L a).length) (h2 : k < (L b).length) (hd : (L a).drop (k + 1) = (L b).drop (k + 1)) (hne : (L a)[k] ≠ (L b)[k]) : cmpZ (L a)[k] (L b)[k] = cmpZ a b := by
  rcases Int.lt_or_gt_of_ne hne with h | h
  · have := lt_of_top (L_lim a) (L_lim b) h1 h2 hd h
    rw [val_L, val_L] at this
    rw [cmpZ_lt h, cmpZ_lt this]
  · have := lt_of_top (L_lim b) (L_lim a) h2 h1 hd.symm h
    rw [val_L, val_L] at this
    rw [cmpZ_gt h, cmpZ_gt this]

theorem cmp_end {a b : Nat} (h : L a = L b) : cmpZ a b = 0 := cmpZ_eq (by rw [L_inj h])

theorem against_any (w : World) (u v : Value) (a b : Nat) (hu : Reads w u (L a)) (hv : Reads w v (L b)) :
    Calls Try.prog 85 #[u, v] w fun e w' => e = .returned (.int .i64 (cmpZ a b)) ∧ Below w.heap.size w w' := by
  have hL1 := L_lim a
  have hL2 := L_lim b
  have v1 := val_L a
  have v2 := val_L b
  have hlen := @cmp_len a b
  have htop := @cmp_top a b
  have hend := @cmp_end a b
  generalize L a = l at *
  generalize L b = m at *
  obtain ⟨ao, b1, off, cap, rfl, hu⟩ := hu
  obtain ⟨ao', b2, off', cap', rfl, hv⟩ := hv
  have h1 := hu.le
  have h2 := hu.big
  have h3 := hv.le
  have h4 := hv.big
  unfold maxLen at h2 h4
  generalize cmpZ (a : Int) (b : Int) = z at *
  clear hL1 hL2 v1 v2
  have Hlen := hide hlen
  have Htop := hide htop
  have Hend := hide hend
  clear hlen htop hend
  by_cases hl : l.length = m.length
  · have hne : ((l.length : Int) != (m.length : Int)) = false := by simp; omega
    have hle1 : l.length ≤ m.length := by omega
    have hle2 : m.length ≤ l.length := by omega
    clear hl
    go_enter Try.func85, Try.ntmps85
    go_wp2
    go_loopw [5] (fun i wr => ∃ k : Nat, k ≤ l.length ∧ i = .int .i64 ((k : Int) - 1) ∧ l.drop k = m.drop k ∧ Below w.heap.size w wr) (fun i _ => (intOf i + 1).toNat)
    case atStart => exact ⟨l.length, Nat.le_refl _, rfl, by rw [List.drop_of_length_le (by omega), List.drop_of_length_le (by omega)], Below.refl _ _⟩
    case round =>
      obtain ⟨k, hk, rfl, ht, hbel⟩ := hrel
      have Ht := hide ht
      clear ht
      by_cases hp : 0 < k
      · have hlt : k - 1 < l.length := by omega
        have hlt' : k - 1 < m.length := by omega
        have hc := (hu.later hbel).cell (k - 1) hlt
        have hc' := (hv.later hbel).cell (k - 1) hlt'
        have hat := hu.at_ (by omega)
        have hat' := hv.at_ (by omega)
        subst hat hat'
        clear hu hv
        have hd : l.drop (k - 1 + 1) = m.drop (k - 1 + 1) := by rw [show k - 1 + 1 = k by omega]; exact unhide Ht
        have hstep : l[k - 1] = m[k - 1] → l.drop (k - 1) = m.drop (k - 1) := fun e => by rw [← List.getElem_cons_drop hlt, ← List.getElem_cons_drop hlt', hd, e]
        have Hstep := hide hstep
        have HT := hide (fun hne => unhide Htop (k - 1) hlt hlt' hd hne)
        clear hd hstep
        by_cases he : l[k - 1] = m[k - 1]
        · have he' : (l[k - 1] != m[k - 1]) = false := by simp [he]
          have He := hide (unhide Hstep he)
          clear he
          go_wp2
          go_quiet (fail)
          go_wp2
          go_roundw
          case rel => exact ⟨k - 1, by omega, by congr 1; omega, unhide He, below_draws hbel _⟩
          case measure => simp only [intOf]; omega
        · have he' : (l[k - 1] != m[k - 1]) = true := by simpa using he
          have HZ := hide (unhide HT he)
          clear he
          go_wp2
          go_quiet (fail)
          have hq1 : (wr.drewN nq).cell? ⟨b1, off + (k - 1), none⟩ = some (.int .i64 l[k - 1]) := by rw [World.cell?_drewN]; exact hc
          have hq2 : (wr.drewN nq).cell? ⟨b2, off' + (k - 1), none⟩ = some (.int .i64 m[k - 1]) := by rw [World.cell?_drewN]; exact hc'
          have hq3 := below_draws hbel nq
          generalize wr.drewN nq = wq at *
          clear hc hc' hbel
          go_wp2
          go_quiet ((go_at_call 95; exact Calls.quiet_of_same (compare_any _ _ _)))
          go_wp2
          go_ret
          exact ⟨by rw [← unhide HZ]; rfl, below_draws hq3 _⟩
      · have hk0 : k = 0 := by omega
        subst hk0
        have e := unhide Ht
        simp only [List.drop_zero] at e
        have He := hide (unhide Hend e)
        clear e
        go_wp2
        go_ret
        exact ⟨by rw [unhide He]; rfl, hbel⟩
  · have hz := unhide Hlen hl
    have Hz := hide hz
    clear hz
    have hne : ((l.length : Int) != (m.length : Int)) = true := by simp; omega
    clear hu hv
    go_enter Try.func85, Try.ntmps85
    go_wp2_with (go_at_call 95; refine (compare_any _ _ _).mono ?_; rintro e w1 ⟨rfl, rfl⟩)
    go_ret
    exact ⟨by rw [← unhide Hz]; rfl, Below.refl _ _⟩

end Go.Proofs.Ytlmbcicfpidhcaa

namespace Go.Proofs.Ytlmbcicfpidhcaa
open Go.RowKit
set_option maxRecDepth 100000

theorem l1CmpAbs_any (w : World) (u v : Value) (a b : Nat) (hu : Reads w u (L a)) (hv : Reads w v (L b)) :
    Calls Try.prog 89 #[u, v] w fun e w' => e = .returned (.int .i64 (cmpZ a b)) ∧ Below w.heap.size w w' := by
  have hL1 := L_lim a
  have hL2 := L_lim b
  have v1 := val_L a
  have v2 := val_L b
  have hlen := @cmp_len a b
  have htop := @cmp_top a b
  have hend := @cmp_end a b
  generalize L a = l at *
  generalize L b = m at *
  obtain ⟨ao, b1, off, cap, rfl, hu⟩ := hu
  obtain ⟨ao', b2, off', cap', rfl, hv⟩ := hv
  have h1 := hu.le
  have h2 := hu.big
  have h3 := hv.le
  have h4 := hv.big
  unfold maxLen at h2 h4
  generalize cmpZ (a : Int) (b : Int) = z at *
  clear hL1 hL2 v1 v2
  have Hlen := hide hlen
  have Htop := hide htop
  have Hend := hide hend
  clear hlen htop hend
  by_cases hl : l.length = m.length
  · have hne : ((l.length : Int) != (m.length : Int)) = false := by simp; omega
    have hle1 : l.length ≤ m.length := by omega
    have hle2 : m.length ≤ l.length := by omega
    clear hl
    go_enter Try.func89, Try.ntmps89
    go_wp2
    go_loopw [5] (fun i wr => ∃ k : Nat, k ≤ l.length ∧ i = .int .i64 ((k : Int) - 1) ∧ l.drop k = m.drop k ∧ Below w.heap.size w wr) (fun i _ => (intOf i + 1).toNat)
    case atStart => exact ⟨l.length, Nat.le_refl _, rfl, by rw [List.drop_of_length_le (by omega), List.drop_of_length_le (by omega)], Below.refl _ _⟩
    case round =>
      obtain ⟨k, hk, rfl, ht, hbel⟩ := hrel
      have Ht := hide ht
      clear ht
      by_cases hp : 0 < k
      · have hlt : k - 1 < l.length := by omega
        have hlt' : k - 1 < m.length := by omega
        have hc := (hu.later hbel).cell (k - 1) hlt
        have hc' := (hv.later hbel).cell (k - 1) hlt'
        have hat := hu.at_ (by omega)
        have hat' := hv.at_ (by omega)
        subst hat hat'
        clear hu hv
        have hd : l.drop (k - 1 + 1) = m.drop (k - 1 + 1) := by rw [show k - 1 + 1 = k by omega]; exact unhide Ht
        have hstep : l[k - 1] = m[k - 1] → l.drop (k - 1) = m.drop (k - 1) := fun e => by rw [← List.getElem_cons_drop hlt, ← List.getElem_cons_drop hlt', hd, e]
        have Hstep := hide hstep
        have HT := hide (fun hne => unhide Htop (k - 1) hlt hlt' hd hne)
        clear hd hstep
        rcases Int.lt_trichotomy l[k - 1] m[k - 1] with he | he | he
        · have he' : decide (l[k - 1] < m[k - 1]) = true := by simpa using he
          have HZ := hide (unhide HT (by omega))
          rw [cmpZ_lt he] at HZ
          go_wp2
          go_quiet (fail)
          go_wp2
          go_ret
          exact ⟨by rw [← unhide HZ]; rfl, below_draws hbel _⟩
        · have he' : decide (l[k - 1] < m[k - 1]) = false := by simp; omega
          have he2 : decide (m[k - 1] < l[k - 1]) = false := by simp; omega
          have He := hide (unhide Hstep he)
          have hq1 : m[k - 1] ≤ l[k - 1] := by omega
          have hq2 : l[k - 1] ≤ m[k - 1] := by omega
          clear he
          go_wp2
          go_quiet (fail)
          go_wp2
          go_quiet (fail)
          go_wp2
          go_roundw
          case rel => exact ⟨k - 1, by omega, by congr 1; omega, unhide He, by first | exact below_draws hbel _ | exact below_draws (below_draws hbel _) _⟩
          case measure => simp only [intOf]; omega
        · have he' : decide (l[k - 1] < m[k - 1]) = false := by simp; omega
          have he2 : decide (m[k - 1] < l[k - 1]) = true := by simpa using he
          have HZ := hide (unhide HT (by omega))
          rw [cmpZ_gt he] at HZ
          go_wp2
          go_quiet (fail)
          go_wp2
          go_quiet (fail)
          go_wp2
          go_ret
          exact ⟨by rw [← unhide HZ]; rfl, by first | exact below_draws hbel _ | exact below_draws (below_draws hbel _) _⟩
      · have hk0 : k = 0 := by omega
        subst hk0
        have e := unhide Ht
        simp only [List.drop_zero] at e
        have He := hide (unhide Hend e)
        clear e
        go_wp2
        go_ret
        exact ⟨by rw [unhide He]; rfl, hbel⟩
  · have hz := unhide Hlen hl
    have Hz := hide hz
    clear hz
    have hne : ((l.length : Int) != (m.length : Int)) = true := by simp; omega
    clear hu hv
    by_cases hlt : l.length < m.length
    · rw [cmpZ_lt (by omega)] at Hz
      go_enter Try.func89, Try.ntmps89
      go_wp2
      go_ret
      exact ⟨by rw [← unhide Hz]; rfl, Below.refl _ _⟩
    · rw [cmpZ_gt (by omega)] at Hz
      go_enter Try.func89, Try.ntmps89
      go_wp2
      go_ret
      exact ⟨by rw [← unhide Hz]; rfl, Below.refl _ _⟩

end Go.Proofs.Ytlmbcicfpidhcaa
