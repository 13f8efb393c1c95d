/- Words for lists of texts and of waits in memory, and how large a disk is. -/
import Derived.Test.YtmbkjbjmpemgoaaProg
import Derived.Test.YtmbkjbjmpemgoaaBase
import Derived.WalkLawsBesides
import Derived.Deep.QuietTactic
import Derived.BigQuiet
import Derived.WalkSmall
namespace Go.Proofs.Ytmbkjbjmpemgoaa
open Go.RowKit

/-- A slice at ao reads as the texts l. -/
structure RdS (w : World) (ao : Option Addr) (b off cap : Nat) (l : List ByteArray) : Prop where
  le : l.length ≤ cap
  big : cap ≤ maxLen
  at_ : 0 < l.length → ao = some ⟨b, off, none⟩
  nil : ao = none → cap = 0
  cell : ∀ i (h : i < l.length), w.cell? ⟨b, off + i, none⟩ = some (.string l[i])
  siz : ∀ i (h : i < l.length), l[i].size ≤ maxLen

def ReadsS (w : World) (v : Value) (l : List ByteArray) : Prop := ∃ ao b off cap, v = .slice ao l.length cap ∧ RdS w ao b off cap l

/-- A slice at ao reads as the waits l. -/
structure RdW (w : World) (ao : Option Addr) (b off cap : Nat) (l : List (Int × ByteArray)) : Prop where
  le : l.length ≤ cap
  big : cap ≤ maxLen
  at_ : 0 < l.length → ao = some ⟨b, off, none⟩
  nil : ao = none → cap = 0
  cell : ∀ i (h : i < l.length), w.cell? ⟨b, off + i * 2, none⟩ = some (.int .i64 l[i].1) ∧ w.cell? ⟨b, off + i * 2 + 1, none⟩ = some (.string l[i].2)
  siz : ∀ i (h : i < l.length), l[i].2.size ≤ maxLen

def ReadsW (w : World) (v : Value) (l : List (Int × ByteArray)) : Prop := ∃ ao b off cap, v = .slice ao l.length cap ∧ RdW w ao b off cap l

theorem RdS.later {w w' : World} {ao : Option Addr} {b off cap : Nat} {l : List ByteArray} (h : RdS w ao b off cap l) (k : Below w.heap.size w w') : RdS w' ao b off cap l :=
  ⟨h.le, h.big, h.at_, h.nil, fun i hi => (k.cell (p := ⟨b, off + i, none⟩) (World.block_lt_of_cell? w _ (h.cell i hi))).trans (h.cell i hi), h.siz⟩

theorem ReadsS.later {w w' : World} {v : Value} {l : List ByteArray} (h : ReadsS w v l) (k : Below w.heap.size w w') : ReadsS w' v l := by
  obtain ⟨ao, b, off, cap, e, r⟩ := h
  exact ⟨ao, b, off, cap, e, r.later k⟩

theorem ReadsS.alloc {w : World} {v : Value} {l : List ByteArray} (h : ReadsS w v l) (o : Obj) : ReadsS (w.alloc o) v l :=
  h.later ((Below.refl _ _).alloc (Nat.le_refl _) o)

theorem RdW.later {w w' : World} {ao : Option Addr} {b off cap : Nat} {l : List (Int × ByteArray)} (h : RdW w ao b off cap l) (k : Below w.heap.size w w') : RdW w' ao b off cap l :=
  ⟨h.le, h.big, h.at_, h.nil, fun i hi => ⟨(k.cell (p := ⟨b, off + i * 2, none⟩) (World.block_lt_of_cell? w _ (h.cell i hi).1)).trans (h.cell i hi).1,
    (k.cell (p := ⟨b, off + i * 2 + 1, none⟩) (World.block_lt_of_cell? w _ (h.cell i hi).2)).trans (h.cell i hi).2⟩, h.siz⟩

theorem ReadsW.later {w w' : World} {v : Value} {l : List (Int × ByteArray)} (h : ReadsW w v l) (k : Below w.heap.size w w') : ReadsW w' v l := by
  obtain ⟨ao, b, off, cap, e, r⟩ := h
  exact ⟨ao, b, off, cap, e, r.later k⟩

theorem ReadsW.alloc {w : World} {v : Value} {l : List (Int × ByteArray)} (h : ReadsW w v l) (o : Obj) : ReadsW (w.alloc o) v l :=
  h.later ((Below.refl _ _).alloc (Nat.le_refl _) o)

/-- What is left behind texts: below 0, if they are too much. -/
def leftS (left : Int) (l : List ByteArray) : Int := left - (l.map (fun s => (s.size : Int))).sum

theorem szStringS_any (w : World) (v : Value) (l : List ByteArray) (left : Int) (hr : ReadsS w v l) (h0 : 0 ≤ left) (h1 : left ≤ 1048576) :
    Calls Try.prog 23 #[v, .int .i64 left] w fun e w' => (∃ r : Int, e = .returned (.int .i64 r) ∧ (r < 0 ∨ (0 ≤ r ∧ r ≤ left ∧ l.length ≤ 1048576))) ∧ Below w.heap.size w w' := by
  obtain ⟨ao, b, off, cap, rfl, hr⟩ := hr
  have hb := hr.le
  have hm := hr.big
  unfold maxLen at hm
  go_enter Try.func23, Try.ntmps23
  by_cases h : left < l.length
  · go_wp2
    go_ret
    exact ⟨⟨-1, rfl, .inl (by omega)⟩, Below.refl _ _⟩
  · go_wp2
    go_loopw [1, 5] (fun q i wr => ∃ (k : Nat) (r : Int), k ≤ l.length ∧ i = .int .i64 k ∧ q = .int .i64 r ∧ 0 ≤ r ∧ r ≤ left ∧ Below w.heap.size w wr)
      (fun _ i _ => l.length - (intOf i).toNat)
    case atStart => exact ⟨0, left - l.length, Nat.zero_le _, rfl, rfl, by omega, by omega, Below.refl _ _⟩
    case round =>
      obtain ⟨k, r, hk, rfl, rfl, hr0, hr1, hbel⟩ := hrel
      by_cases hlt : k < l.length
      · have hc := (hr.later hbel).cell k hlt
        have hs := hr.siz k hlt
        unfold maxLen at hs
        have hat := hr.at_ (by omega)
        subst hat
        clear hr
        by_cases hg : r < l[k].size
        · go_wp2
          go_ret
          exact ⟨⟨-1, rfl, .inl (by omega)⟩, hbel⟩
        · go_wp2
          go_roundw
          case rel => exact ⟨k + 1, r - l[k].size, by omega, by go_num, rfl, by omega, by omega, hbel⟩
          case measure => simp [intOf]; omega
      · go_wp2
        go_ret
        exact ⟨⟨r, rfl, .inr ⟨hr0, hr1, by omega⟩⟩, hbel⟩

theorem szWait_any (w : World) (a : Int) (t : ByteArray) (left : Int) (ht : t.size ≤ maxLen) (h0 : 0 ≤ left) (h1 : left ≤ 1048576) :
    Calls Try.prog 37 #[.agg #[.int .i64 a, .string t], .int .i64 left] w fun e w' => (∃ r : Int, e = .returned (.int .i64 r) ∧ (r < 0 ∨ (0 ≤ r ∧ r ≤ left))) ∧ Below w.heap.size w w' := by
  unfold maxLen at ht
  go_enter Try.func37, Try.ntmps37
  by_cases hg : left < t.size
  · go_wp2
    go_ret
    exact ⟨⟨-1, rfl, .inl (by omega)⟩, (Below.refl _ _).alloc (Nat.le_refl _) _⟩
  · go_wp2
    go_ret
    exact ⟨⟨_, rfl, .inr ⟨by omega, by omega⟩⟩, (Below.refl _ _).alloc (Nat.le_refl _) _⟩

theorem szWaitS_any (w : World) (v : Value) (l : List (Int × ByteArray)) (left : Int) (hr : ReadsW w v l) (h0 : 0 ≤ left) (h1 : left ≤ 1048576) :
    Calls Try.prog 24 #[v, .int .i64 left] w fun e w' => (∃ r : Int, e = .returned (.int .i64 r) ∧ (r < 0 ∨ (0 ≤ r ∧ r ≤ left ∧ l.length ≤ 1048576))) ∧ Below w.heap.size w w' := by
  obtain ⟨ao, b, off, cap, rfl, hr⟩ := hr
  have hb := hr.le
  have hm := hr.big
  unfold maxLen at hm
  go_enter Try.func24, Try.ntmps24
  by_cases h : left < l.length
  · go_wp2
    go_ret
    exact ⟨⟨-1, rfl, .inl (by omega)⟩, Below.refl _ _⟩
  · go_wp2
    go_loopw [1, 5] (fun q i wr => ∃ (k : Nat) (r : Int), k ≤ l.length ∧ i = .int .i64 k ∧ q = .int .i64 r ∧ 0 ≤ r ∧ r ≤ left ∧ Below w.heap.size w wr)
      (fun _ i _ => l.length - (intOf i).toNat)
    case atStart => exact ⟨0, left - l.length, Nat.zero_le _, rfl, rfl, by omega, by omega, Below.refl _ _⟩
    case round =>
      obtain ⟨k, r, hk, rfl, rfl, hr0, hr1, hbel⟩ := hrel
      by_cases hlt : k < l.length
      · obtain ⟨hc, hc'⟩ := (hr.later hbel).cell k hlt
        have hs := hr.siz k hlt
        have hat := hr.at_ (by omega)
        subst hat
        clear hr
        go_wp2_with fail
        refine (szWait_any _ _ _ _ hs hr0 (by omega)).mono ?_
        rintro e w1 ⟨⟨r1, rfl, hr2⟩, b1⟩
        by_cases hg : r1 < 0
        · go_wp2
          go_ret
          exact ⟨⟨-1, rfl, .inl (by omega)⟩, hbel.trans (b1.mono hbel.size)⟩
        · go_wp2
          go_roundw
          case rel => exact ⟨k + 1, r1, by omega, by go_num, rfl, by omega, by omega, hbel.trans (b1.mono hbel.size)⟩
          case measure => simp [intOf]; omega
      · go_wp2
        go_ret
        exact ⟨⟨r, rfl, .inr ⟨hr0, hr1, by omega⟩⟩, hbel⟩

/-- The size of a disk. -/
theorem szDisk_any (w : World) (vc vw : Value) (cs : List ByteArray) (ws : List (Int × ByteArray)) (room left : Int) (hc : ReadsS w vc cs) (hw : ReadsW w vw ws) :
    Calls Try.prog 11 #[.agg #[vc, vw, .int .i64 room, .int .i64 left], .int .i64 1048576] w fun e w' => (∃ r : Int, e = .returned (.int .i64 r) ∧ (r < 0 ∨ (0 ≤ r ∧ cs.length ≤ 1048576 ∧ ws.length ≤ 1048576))) ∧ Below w.heap.size w w' := by
  have hs := fun o => szStringS_any (w.alloc o) vc cs 1048576 (hc.alloc o) (by omega) (by omega)
  have Hs := hide hs
  have hw' := hw
  obtain ⟨ao, b, off, cap, rfl, hr⟩ := hc
  obtain ⟨ao', b', off', cap', rfl, hr'⟩ := hw
  clear hs hr hr'
  go_enter Try.func11, Try.ntmps11
  go_wp2_with fail
  refine (unhide Hs _).mono ?_
  rintro e w1 ⟨⟨r1, rfl, hr1⟩, b1⟩
  have B1 := ((Below.refl _ _).alloc (Nat.le_refl _) _).trans (b1.mono (by simp))
  by_cases hg : r1 < 0
  · go_wp2
    go_ret
    exact ⟨⟨-1, rfl, .inl (by omega)⟩, B1⟩
  · obtain ⟨hcl, _⟩ := bcell b1
    go_wp2_with fail
    refine (szWaitS_any w1 _ ws r1 (hw'.later B1) (by omega) (by omega)).mono ?_
    rintro e w2 ⟨⟨r2, rfl, hr2⟩, b2⟩
    have B2 := B1.trans (b2.mono B1.size)
    by_cases hg2 : r2 < 0
    · go_wp2
      go_ret
      exact ⟨⟨-1, rfl, .inl (by omega)⟩, B2⟩
    · go_wp2
      go_ret
      exact ⟨⟨r2, rfl, .inr ⟨by omega, by omega, by omega⟩⟩, B2⟩

end Go.Proofs.Ytmbkjbjmpemgoaa
