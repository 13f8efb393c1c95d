/- Which of two numbers without a sign is the greater one: impl's against, spec's l1CmpAbs. The program's numbers with a sign, by contracts: signed, bounded, turned, signOf, sumOf, productOf. The program's sum of two numbers with signs, by a contract. Two numbers in their boxes. Two numbers held against each other: l1Cmp of the specification, by a contract. -/
import Derived.Test.YthnkmjkgcnhlfaaGreatDoorH15
import Derived.Test.YthnkmjkgcnhlfaaGreatDoorH10
import Derived.Test.YthnkmjkgcnhlfaaGreatDoorH14
import Derived.Deep.RegionWith
import Derived.WalkSpells
import Derived.Test.YthnkmjkgcnhlfaaGreatDoorH04
namespace Go.Proofs.YthnkmjkgcnhlfaaGreatDoor
open Go.RowKit
set_option maxRecDepth 100000

theorem l1CmpAbs_any (w : World) (u v : Value) (a b : Nat) (hu : Reads w u (L a)) (hv : Reads w v (L b)) :
    Calls Tryz.prog 117 #[u, v] w fun e w' => e = .returned (.int .i64 (cmpZ a b)) ∧ Below w.heap.size w w' := by
  have hL1 := L_lim a
  have hL2 := L_lim b
  have v1 := val_L a
  have v2 := val_L b
  have hlen := @cmp_len a b
  have htop := @cmp_top a b
  have hend := @cmp_end a b
  generalize L a = l at *
  generalize L b = m at *
  obtain ⟨ao, b1, off, cap, rfl, hu⟩ := hu
  obtain ⟨ao', b2, off', cap', rfl, hv⟩ := hv
  have h1 := hu.le
  have h2 := hu.big
  have h3 := hv.le
  have h4 := hv.big
  unfold maxLen at h2 h4
  generalize cmpZ (a : Int) (b : Int) = z at *
  clear hL1 hL2 v1 v2
  have Hlen := hide hlen
  have Htop := hide htop
  have Hend := hide hend
  clear hlen htop hend
  by_cases hl : l.length = m.length
  · have hne : ((l.length : Int) != (m.length : Int)) = false := by simp; omega
    have hle1 : l.length ≤ m.length := by omega
    have hle2 : m.length ≤ l.length := by omega
    clear hl
    go_enter Tryz.func117, Tryz.ntmps117
    go_wp2
    go_loopw [5] (fun i wr => ∃ k : Nat, k ≤ l.length ∧ i = .int .i64 ((k : Int) - 1) ∧ l.drop k = m.drop k ∧ Below w.heap.size w wr) (fun i _ => (intOf i + 1).toNat)
    case atStart => exact ⟨l.length, Nat.le_refl _, rfl, by rw [List.drop_of_length_le (by omega), List.drop_of_length_le (by omega)], Below.refl _ _⟩
    case round =>
      obtain ⟨k, hk, rfl, ht, hbel⟩ := hrel
      have Ht := hide ht
      clear ht
      by_cases hp : 0 < k
      · have hlt : k - 1 < l.length := by omega
        have hlt' : k - 1 < m.length := by omega
        have hc := (hu.later hbel).cell (k - 1) hlt
        have hc' := (hv.later hbel).cell (k - 1) hlt'
        have hat := hu.at_ (by omega)
        have hat' := hv.at_ (by omega)
        subst hat hat'
        clear hu hv
        have hd : l.drop (k - 1 + 1) = m.drop (k - 1 + 1) := by rw [show k - 1 + 1 = k by omega]; exact unhide Ht
        have hstep : l[k - 1] = m[k - 1] → l.drop (k - 1) = m.drop (k - 1) := fun e => by rw [← List.getElem_cons_drop hlt, ← List.getElem_cons_drop hlt', hd, e]
        have Hstep := hide hstep
        have HT := hide (fun hne => unhide Htop (k - 1) hlt hlt' hd hne)
        clear hd hstep
        rcases Int.lt_trichotomy l[k - 1] m[k - 1] with he | he | he
        · have he' : decide (l[k - 1] < m[k - 1]) = true := by simpa using he
          have HZ := hide (unhide HT (by omega))
          rw [cmpZ_lt he] at HZ
          go_wp2
          go_quiet (fail)
          go_wp2
          go_ret
          exact ⟨by rw [← unhide HZ]; rfl, below_draws hbel _⟩
        · have he' : decide (l[k - 1] < m[k - 1]) = false := by simp; omega
          have he2 : decide (m[k - 1] < l[k - 1]) = false := by simp; omega
          have He := hide (unhide Hstep he)
          have hq1 : m[k - 1] ≤ l[k - 1] := by omega
          have hq2 : l[k - 1] ≤ m[k - 1] := by omega
          clear he
          go_wp2
          go_quiet (fail)
          go_wp2
          go_quiet (fail)
          go_wp2
          go_roundw
          case rel => exact ⟨k - 1, by omega, by congr 1; omega, unhide He, by first | exact below_draws hbel _ | exact below_draws (below_draws hbel _) _⟩
          case measure => simp only [intOf]; omega
        · have he' : decide (l[k - 1] < m[k - 1]) = false := by simp; omega
          have he2 : decide (m[k - 1] < l[k - 1]) = true := by simpa using he
          have HZ := hide (unhide HT (by omega))
          rw [cmpZ_gt he] at HZ
          go_wp2
          go_quiet (fail)
          go_wp2
          go_quiet (fail)
          go_wp2
          go_ret
          exact ⟨by rw [← unhide HZ]; rfl, by first | exact below_draws hbel _ | exact below_draws (below_draws hbel _) _⟩
      · have hk0 : k = 0 := by omega
        subst hk0
        have e := unhide Ht
        simp only [List.drop_zero] at e
        have He := hide (unhide Hend e)
        clear e
        go_wp2
        go_ret
        exact ⟨by rw [unhide He]; rfl, hbel⟩
  · have hz := unhide Hlen hl
    have Hz := hide hz
    clear hz
    have hne : ((l.length : Int) != (m.length : Int)) = true := by simp; omega
    clear hu hv
    by_cases hlt : l.length < m.length
    · rw [cmpZ_lt (by omega)] at Hz
      go_enter Tryz.func117, Tryz.ntmps117
      go_wp2
      go_ret
      exact ⟨by rw [← unhide Hz]; rfl, Below.refl _ _⟩
    · rw [cmpZ_gt (by omega)] at Hz
      go_enter Tryz.func117, Tryz.ntmps117
      go_wp2
      go_ret
      exact ⟨by rw [← unhide Hz]; rfl, Below.refl _ _⟩

end Go.Proofs.YthnkmjkgcnhlfaaGreatDoor

namespace Go.Proofs.YthnkmjkgcnhlfaaGreatDoor
open Go.RowKit
set_option maxRecDepth 100000

end Go.Proofs.YthnkmjkgcnhlfaaGreatDoor

namespace Go.Proofs.YthnkmjkgcnhlfaaGreatDoor
open Go.RowKit
set_option maxRecDepth 100000

end Go.Proofs.YthnkmjkgcnhlfaaGreatDoor

namespace Go.Proofs.YthnkmjkgcnhlfaaGreatDoor
open Go.RowKit



/-- Two numbers in their boxes. -/
structure Bx2 (w0 w' : World) (p : Bool) (u : Value) (q : Bool) (v : Value) : Prop where
  below : Below w0.heap.size w0 w'
  a0 : w'.cell? ⟨w0.heap.size, 0, none⟩ = some (.bool p)
  a1 : w'.cell? ⟨w0.heap.size, 1, none⟩ = some u
  b0 : w'.cell? ⟨w0.heap.size + 1, 0, none⟩ = some (.bool q)
  b1 : w'.cell? ⟨w0.heap.size + 1, 1, none⟩ = some v

theorem Bx2.later {w0 w w' : World} {p q : Bool} {u v : Value} (h : Bx2 w0 w p u q v) (k : Below w.heap.size w w') : Bx2 w0 w' p u q v :=
  ⟨h.below.trans (k.mono h.below.size), cell_later k h.a0, cell_later k h.a1, cell_later k h.b0, cell_later k h.b1⟩

theorem Bx2.start (w : World) (p q : Bool) (u v : Value) : Bx2 w ((w.alloc (.cells #[.bool p, u] 25)).alloc (.cells #[.bool q, v] 25)) p u q v :=
  ⟨((Below.refl _ _).alloc (Nat.le_refl _) _).alloc (by simp) _, by go_simp, by go_simp, by go_simp, by go_simp⟩

end Go.Proofs.YthnkmjkgcnhlfaaGreatDoor

namespace Go.Proofs.YthnkmjkgcnhlfaaGreatDoor
open Go.RowKit
set_option maxRecDepth 100000

theorem l1Cmp_any (w : World) (p q : Bool) (u v : Value) (a b : Nat) (hu : Reads w u (L a)) (hv : Reads w v (L b)) (hp : p = sg (zof p a)) (hq : q = sg (zof q b)) :
    Calls Tryz.prog 103 #[.agg #[.bool p, u], .agg #[.bool q, v]] w fun e w' => e = .returned (.int .i64 (cmpZ (zof p a) (zof q b))) ∧ Below w.heap.size w w' := by
  have CA := hide (fun W (h : Below w.heap.size w W) => l1CmpAbs_any W u v a b (hu.later h) (hv.later h))
  have CB := hide (fun W (h : Below w.heap.size w W) => l1CmpAbs_any W v u b a (hv.later h) (hu.later h))
  have K0 := Bx2.start w p q u v
  have e1 : p = true → q = false → cmpZ (zof p a) (zof q b) = -1 := by
    rintro rfl rfl; apply cmpZ_lt; unfold sg zof at *; simp at *; omega
  have e2 : p = false → q = true → cmpZ (zof p a) (zof q b) = 1 := by
    rintro rfl rfl; apply cmpZ_gt; unfold sg zof at *; simp at *; omega
  have e3 : p = true → q = true → cmpZ (zof p a) (zof q b) = cmpZ b a := by
    rintro rfl rfl; unfold zof cmpZ; simp
  have e4 : p = false → q = false → cmpZ (zof p a) (zof q b) = cmpZ a b := by
    rintro rfl rfl; unfold zof cmpZ; simp
  clear hp hq hu hv
  generalize cmpZ (zof p a) (zof q b) = Z at *
  cases p <;> cases q
  · have E := hide (e4 rfl rfl)
    clear e1 e2 e3 e4
    go_enter Tryz.func103, Tryz.ntmps103
    go_wp2_with fail
    refine (unhide CA _ K0.below).mono ?_
    rintro e w1 ⟨rfl, b1⟩
    go_wp2
    go_ret
    exact ⟨by rw [unhide E]; rfl, (K0.later b1).below⟩
  · have E := hide (e2 rfl rfl)
    clear e1 e2 e3 e4
    go_enter Tryz.func103, Tryz.ntmps103
    go_wp2
    go_ret
    exact ⟨by rw [unhide E]; rfl, K0.below⟩
  · have E := hide (e1 rfl rfl)
    clear e1 e2 e3 e4
    go_enter Tryz.func103, Tryz.ntmps103
    go_wp2
    go_ret
    exact ⟨by rw [unhide E]; rfl, K0.below⟩
  · have E := hide (e3 rfl rfl)
    clear e1 e2 e3 e4
    go_enter Tryz.func103, Tryz.ntmps103
    go_wp2_with fail
    refine (unhide CB _ K0.below).mono ?_
    rintro e w1 ⟨rfl, b1⟩
    go_wp2
    go_ret
    exact ⟨by rw [unhide E]; rfl, (K0.later b1).below⟩

end Go.Proofs.YthnkmjkgcnhlfaaGreatDoor
