/- Slices of texts, as they read; the size of texts. -/
import Derived.Test.YtdefhpegabifjaaDoorProg
import Derived.Test.YtdefhpegabifjaaDoorBase
import Derived.WalkLawsBesides
import Derived.Deep.QuietTactic
import Derived.BigQuiet
import Derived.WalkSmall
namespace Go.Proofs.YtdefhpegabifjaaDoor
open Go.RowKit


/-- A slice at ao reads as the texts l. -/
structure RdS (w : World) (ao : Option Addr) (b off cap : Nat) (l : List ByteArray) : Prop where
  le : l.length ≤ cap
  big : cap ≤ maxLen
  at_ : 0 < l.length → ao = some ⟨b, off, none⟩
  nil : ao = none → cap = 0
  cell : ∀ i (h : i < l.length), w.cell? ⟨b, off + i, none⟩ = some (.string l[i])
  siz : ∀ i (h : i < l.length), l[i].size ≤ maxLen

def ReadsS (w : World) (v : Value) (l : List ByteArray) : Prop := ∃ ao b off cap, v = .slice ao l.length cap ∧ RdS w ao b off cap l

theorem RdS.later {w w' : World} {ao : Option Addr} {b off cap : Nat} {l : List ByteArray} (h : RdS w ao b off cap l) (k : Below w.heap.size w w') : RdS w' ao b off cap l :=
  ⟨h.le, h.big, h.at_, h.nil, fun i hi => (k.cell (p := ⟨b, off + i, none⟩) (World.block_lt_of_cell? w _ (h.cell i hi))).trans (h.cell i hi), h.siz⟩

theorem ReadsS.later {w w' : World} {v : Value} {l : List ByteArray} (h : ReadsS w v l) (k : Below w.heap.size w w') : ReadsS w' v l := by
  obtain ⟨ao, b, off, cap, e, r⟩ := h
  exact ⟨ao, b, off, cap, e, r.later k⟩

theorem ReadsS.alloc {w : World} {v : Value} {l : List ByteArray} (h : ReadsS w v l) (o : Obj) : ReadsS (w.alloc o) v l :=
  h.later ((Below.refl _ _).alloc (Nat.le_refl _) o)

/-- What is left behind texts: below 0, if they are too much. -/
def leftS (left : Int) (l : List ByteArray) : Int := left - (l.map (fun s => (s.size : Int))).sum

theorem szStringS_any (w : World) (v : Value) (l : List ByteArray) (left : Int) (hr : ReadsS w v l) (h0 : 0 ≤ left) (h1 : left ≤ 1048576) :
    Calls Tryd.prog 14 #[v, .int .i64 left] w fun e w' => (∃ r : Int, e = .returned (.int .i64 r) ∧ (r < 0 ∨ (0 ≤ r ∧ r ≤ left ∧ l.length ≤ 1048576))) ∧ Below w.heap.size w w' := by
  obtain ⟨ao, b, off, cap, rfl, hr⟩ := hr
  have hb := hr.le
  have hm := hr.big
  unfold maxLen at hm
  go_enter Tryd.func14, Tryd.ntmps14
  by_cases h : left < l.length
  · go_wp2
    go_ret
    exact ⟨⟨-1, rfl, .inl (by omega)⟩, Below.refl _ _⟩
  · go_wp2
    go_loopw [1, 5] (fun q i wr => ∃ (k : Nat) (r : Int), k ≤ l.length ∧ i = .int .i64 k ∧ q = .int .i64 r ∧ 0 ≤ r ∧ r ≤ left ∧ Below w.heap.size w wr)
      (fun _ i _ => l.length - (intOf i).toNat)
    case atStart => exact ⟨0, left - l.length, Nat.zero_le _, rfl, rfl, by omega, by omega, Below.refl _ _⟩
    case round =>
      obtain ⟨k, r, hk, rfl, rfl, hr0, hr1, hbel⟩ := hrel
      by_cases hlt : k < l.length
      · have hc := (hr.later hbel).cell k hlt
        have hs := hr.siz k hlt
        unfold maxLen at hs
        have hat := hr.at_ (by omega)
        subst hat
        clear hr
        by_cases hg : r < l[k].size
        · go_wp2
          go_ret
          exact ⟨⟨-1, rfl, .inl (by omega)⟩, hbel⟩
        · go_wp2
          go_roundw
          case rel => exact ⟨k + 1, r - l[k].size, by omega, by go_num, rfl, by omega, by omega, hbel⟩
          case measure => simp [intOf]; omega
      · go_wp2
        go_ret
        exact ⟨⟨r, rfl, .inr ⟨hr0, hr1, by omega⟩⟩, hbel⟩

end Go.Proofs.YtdefhpegabifjaaDoor
