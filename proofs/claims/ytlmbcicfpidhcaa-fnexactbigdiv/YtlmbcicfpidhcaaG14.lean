/- jtInts, jtBig of the laws, by contracts. Boxes and lists beside a reader; two numbers drawn. Texts of figures: l1Many, l1FromFigures by contracts. -/
import Derived.Test.YtlmbcicfpidhcaaStt1
import Derived.Test.YtlmbcicfpidhcaaDraw0
import Derived.Test.YtlmbcicfpidhcaaG13
import Derived.Test.YtlmbcicfpidhcaaG10
namespace Go.Proofs.Ytlmbcicfpidhcaa
open Go.RowKit
set_option maxRecDepth 100000



theorem jtInts_any (w : World) (u v : Value) (l m : List Int) (hu : Reads w u l) (hv : Reads w v m) :
    Calls Try.prog 52 #[u, v] w fun e w' => e = .returned (.bool (decide (l = m))) ∧ Below w.heap.size w w' := by
  obtain ⟨ao, b, off, cap, rfl, hu⟩ := hu
  obtain ⟨ao', b', off', cap', rfl, hv⟩ := hv
  have h1 := hu.le
  have h2 := hu.big
  have h3 := hv.le
  have h4 := hv.big
  unfold maxLen at h2 h4
  by_cases hlen : l.length = m.length
  · have hne : ((l.length : Int) != (m.length : Int)) = false := by simp; omega
    have hle1 : l.length ≤ m.length := by omega
    have hle2 : m.length ≤ l.length := by omega
    clear hlen
    go_enter Try.func52, Try.ntmps52
    go_wp2
    go_loopw [5] (fun i wr => ∃ k : Nat, k ≤ l.length ∧ i = .int .i64 k ∧ l.take k = m.take k ∧ Below w.heap.size w wr) (fun i _ => l.length - (intOf i).toNat)
    case atStart => exact ⟨0, Nat.zero_le _, rfl, by simp, Below.refl _ _⟩
    case round =>
      obtain ⟨k, hk, rfl, ht, hbel⟩ := hrel
      have Ht := hide ht
      clear ht
      by_cases hlt : k < l.length
      · have hlt' : k < m.length := by omega
        have hc := (hu.later hbel).cell k hlt
        have hc' := (hv.later hbel).cell k hlt'
        have hat := hu.at_ (by omega)
        have hat' := hv.at_ (by omega)
        subst hat hat'
        clear hu hv
        by_cases he : l[k] = m[k]
        · have he' : (l[k] != m[k]) = false := by simp [he]
          have He := hide he
          clear he
          go_wp2
          go_quiet (fail)
          go_wp2
          go_roundw
          case rel => exact ⟨k + 1, by omega, by go_num, take_succ_eq (unhide Ht) hlt hlt' (unhide He), below_draws hbel _⟩
          case measure => simp [intOf]; omega
        · have he' : (l[k] != m[k]) = true := by simpa using he
          have hd : decide (l = m) = false := by simp; intro e; subst e; exact he rfl
          have Hd := hide hd
          clear hd he
          go_wp2
          go_quiet (fail)
          go_wp2
          go_ret
          exact ⟨by rw [unhide Hd]; rfl, below_draws hbel _⟩
      · have hd : decide (l = m) = true := by
          have := unhide Ht
          rw [List.take_of_length_le (by omega), List.take_of_length_le (by omega)] at this
          simpa using this
        have Hd := hide hd
        clear hd
        go_wp2
        go_ret
        exact ⟨by rw [unhide Hd]; rfl, hbel⟩
  · have hne : ((l.length : Int) != (m.length : Int)) = true := by simp; omega
    have hd : decide (l = m) = false := by simp; intro e; exact hlen (by rw [e])
    rw [hd]
    clear hu hv
    go_enter Try.func52, Try.ntmps52
    go_wp2
    go_ret
    exact ⟨rfl, Below.refl _ _⟩

theorem jtBig_same (w : World) (p : Bool) (u v : Value) (l : List Int) (hu : Reads w u l) (hv : Reads w v l) :
    Calls Try.prog 19 #[.agg #[.bool p, u], .agg #[.bool p, v]] w fun e w' => e = .returned (.bool true) ∧ Below w.heap.size w w' := by
  have B0 : Below w.heap.size w ((w.alloc (.cells #[.bool p, u] 25)).alloc (.cells #[.bool p, v] 25)) := ((Below.refl _ _).alloc (Nat.le_refl _) _).alloc (by simp) _
  have C := hide (jtInts_any _ u v l l (hu.later B0) (hv.later B0))
  have hpp : (p == p) = true := by simp
  obtain ⟨ao, b, off, cap, rfl, hu⟩ := hu
  obtain ⟨ao', b', off', cap', rfl, hv⟩ := hv
  clear hu hv
  go_enter Try.func19, Try.ntmps19
  go_wp2_with fail
  refine (unhide C).mono ?_
  rintro e w1 ⟨rfl, b1⟩
  have hd : decide (l = l) = true := by simp
  have B1 := B0.trans (b1.mono B0.size)
  clear b1 C B0
  go_wp2
  go_ret
  exact ⟨rfl, B1⟩

end Go.Proofs.Ytlmbcicfpidhcaa

namespace Go.Proofs.Ytlmbcicfpidhcaa
open Go.RowKit


/-- A box that stands empty, and its cells. -/
structure BX (w : World) (B : Nat) : Prop where
  c0 : w.cell? ⟨B, 0, none⟩ = some (.bool false)
  c1 : w.cell? ⟨B, 1, none⟩ = some (.slice none 0 0)
  f0 : w.frozen? ⟨B, 0, none⟩ = false
  f1 : w.frozen? ⟨B, 1, none⟩ = false
  lt : B < w.heap.size

theorem BX.grown {w w' : World} {B : Nat} {r : Option Nat} (h : BX w B) (g : w.grownBy w' r) (hne : some B ≠ r) : BX w' B := by
  have hb := g.block B h.lt hne
  exact ⟨(World.cell?_of_block (w := w) (a := ⟨B, 0, none⟩) hb).trans h.c0, (World.cell?_of_block (w := w) (a := ⟨B, 1, none⟩) hb).trans h.c1,
    (World.frozen?_of_block (w := w) (a := ⟨B, 0, none⟩) hb).trans h.f0, (World.frozen?_of_block (w := w) (a := ⟨B, 1, none⟩) hb).trans h.f1, Nat.lt_of_lt_of_le h.lt g.size⟩

theorem Own.grown {B : Nat} {w w' : World} {v : Value} {l : List Int} (h : Own B w v l) {R : Nat} (g : w.grownBy w' (some R)) (hR : R < B) : Own B w' v l := by
  refine World.ownsRow.kept h g ?_
  cases hk : v.ownBlock with
  | none => exact .inl rfl
  | some k =>
    refine .inr ?_
    have := (h.lt k hk).1
    simp
    omega

/-- What a call answers that draws two numbers that are ok. -/
def DrawsTwo (w : World) (e : Ending) (w' : World) : Prop :=
  ∃ (a b : Int) (ao : Option Addr) (ca : Nat) (bo : Option Addr) (cb : Nat), e = .returned (.tuple #[.agg #[.bool (sg a), .slice ao (L a.natAbs).length ca], .agg #[.bool (sg b), .slice bo (L b.natAbs).length cb]]) ∧ (L a.natAbs).length ≤ 16 ∧ (L b.natAbs).length ≤ 16 ∧
    Own w.heap.size w' (.slice ao (L a.natAbs).length ca) (L a.natAbs) ∧ Own w.heap.size w' (.slice bo (L b.natAbs).length cb) (L b.natAbs) ∧ Below w.heap.size w w'

theorem draw64 {w : World} {R p : Nat} (hr : RD w R p) (hp : p ≤ 90000) : Calls Try.prog 46 #[.pointer (some ⟨R, 0, none⟩), .int .i64 64] w (Draws w R p 200) := l14Big_any w R p 64 hr hp (by omega) (by omega)

theorem draw33 {w : World} {R p : Nat} (hr : RD w R p) (hp : p ≤ 90000) : Calls Try.prog 46 #[.pointer (some ⟨R, 0, none⟩), .int .i64 33] w (Draws w R p 200) := l14Big_any w R p 33 hr hp (by omega) (by omega)

end Go.Proofs.Ytlmbcicfpidhcaa

namespace Go.Proofs.Ytlmbcicfpidhcaa
open Go.RowKit

end Go.Proofs.Ytlmbcicfpidhcaa
