/- The reader from which inputs are drawn: what it holds; l1Open and pick by contracts. One of a list of numbers, drawn, by its contract. One of a list of texts that is written out, drawn. How long bytes that came in are. -/
import Derived.Test.YtdklikicngmkbaaGreatDoorProg
import Derived.Test.YtdklikicngmkbaaGreatDoorG01
import Derived.WalkSpells
import Derived.Lib.Zigzag
import Derived.WalkLawsBesides
import Derived.Deep.QuietTactic
import Derived.BigQuiet
import Derived.WalkSmall
namespace Go.Proofs.YtdklikicngmkbaaGreatDoor
open Go.RowKit

/-- A reader at block R: the bytes that it holds, and how many were picked. -/
structure Rdr (w : World) (R : Nat) (ao : Option Addr) (b off n cap : Nat) (p : Nat) : Prop where
  c0 : w.cell? ⟨R, 0, none⟩ = some (.slice ao n cap)
  c1 : w.cell? ⟨R, 1, none⟩ = some (.int .i64 p)
  f1 : w.frozen? ⟨R, 1, none⟩ = false
  lt : R < w.heap.size
  le : n ≤ cap
  big : cap ≤ 9223372036854775807
  few : n ≤ 2000
  at_ : 0 < n → ao = some ⟨b, off, none⟩
  ne : 0 < n → b < R
  byte : ∀ i, i < n → ∃ x : Int, w.cell? ⟨b, off + i, none⟩ = some (.int .u8 x) ∧ 0 ≤ x ∧ x < 256

def RD (w : World) (R p : Nat) : Prop := ∃ ao b off n cap, Rdr w R ao b off n cap p

theorem Rdr.later {w w' : World} {R : Nat} {ao : Option Addr} {b off n cap p : Nat} (h : Rdr w R ao b off n cap p) (k : Below w.heap.size w w') : Rdr w' R ao b off n cap p :=
  ⟨(k.cell (p := ⟨R, 0, none⟩) h.lt).trans h.c0, (k.cell (p := ⟨R, 1, none⟩) h.lt).trans h.c1, (k.frozen (p := ⟨R, 1, none⟩) h.lt).trans h.f1, Nat.lt_of_lt_of_le h.lt k.size, h.le, h.big, h.few, h.at_, h.ne,
    fun i hi => by
      obtain ⟨x, hx, h0, h1⟩ := h.byte i hi
      exact ⟨x, (k.cell (p := ⟨b, off + i, none⟩) (World.block_lt_of_cell? w _ hx)).trans hx, h0, h1⟩⟩

theorem RD.later {w w' : World} {R p : Nat} (h : RD w R p) (k : Below w.heap.size w w') : RD w' R p := by
  obtain ⟨ao, b, off, n, cap, h⟩ := h
  exact ⟨ao, b, off, n, cap, h.later k⟩

/-- Whatever leaves the blocks up to the reader's alone. -/
theorem RD.keep {w w' : World} {R p : Nat} (h : RD w R p) (hs : w.heap.size ≤ w'.heap.size) (k : ∀ i, i ≤ R → w'.heap[i]? = w.heap[i]?) : RD w' R p := by
  obtain ⟨ao, b, off, n, cap, h⟩ := h
  have hR := k R (Nat.le_refl _)
  exact ⟨ao, b, off, n, cap, (World.cell?_of_block (w := w) (a := ⟨R, 0, none⟩) hR).trans h.c0, (World.cell?_of_block (w := w) (a := ⟨R, 1, none⟩) hR).trans h.c1, (World.frozen?_of_block (w := w) (a := ⟨R, 1, none⟩) hR).trans h.f1, Nat.lt_of_lt_of_le h.lt hs, h.le, h.big, h.few, h.at_, h.ne, fun i hi => by
    obtain ⟨x, hx, h0, h1⟩ := h.byte i hi
    exact ⟨x, (World.cell?_of_block (w := w) (a := ⟨b, off + i, none⟩) (k b (Nat.le_of_lt (h.ne (by omega))))).trans hx, h0, h1⟩⟩

theorem RD.set {w : World} {R p : Nat} (h : RD w R p) {a : Addr} (ha : R < a.block) (u : Value) : RD (w.setCell a u) R p :=
  h.keep (by simp) (fun i hi => Below.heap_setCell w a u i (by omega))

/-- A world in which nothing but the reader's count has changed. -/
theorem Rdr.step {w : World} {R : Nat} {ao : Option Addr} {b off n cap p : Nat} (h : Rdr w R ao b off n cap p) (q : Nat) :
    Rdr (w.setCell ⟨R, 1, none⟩ (.int .i64 q)) R ao b off n cap q ∧ w.grownBy (w.setCell ⟨R, 1, none⟩ (.int .i64 q)) (some R) := by
  refine ⟨⟨?_, ?_, ?_, ?_, h.le, h.big, h.few, h.at_, h.ne, ?_⟩, ?_⟩
  · have := h.c0
    simp [go_sem, this]
  · have := h.c1
    simp [go_sem, this]
  · simp [h.f1]
  · simpa using h.lt
  · intro i hi
    obtain ⟨x, hx, h0, h1⟩ := h.byte i hi
    refine ⟨x, ?_, h0, h1⟩
    have := h.ne (by omega)
    rw [World.cell?_of_block (w := w) (Below.heap_setCell w ⟨R, 1, none⟩ _ b (Nat.ne_of_lt this))]
    exact hx
  · exact ⟨rfl, rfl, rfl, by simp, fun k _ hk => Below.heap_setCell w ⟨R, 1, none⟩ _ k (by intro e; subst e; exact hk rfl)⟩

theorem i64_xor (x y : Nat) (hx : x < 9223372036854775808) (hy : y < 9223372036854775808) : bits .xor .i64 (x : Int) (y : Int) = ((x ^^^ y : Nat) : Int) := by
  show IntKind.i64.wrap ((BitVec.ofInt 64 (x : Int) ^^^ BitVec.ofInt 64 (y : Int)).toNat : Int) = _
  have h1 : (BitVec.ofInt 64 (x : Int)).toNat = x := by
    rw [BitVec.ofInt_natCast, BitVec.toNat_ofNat]; exact Nat.mod_eq_of_lt (by omega)
  have h2 : (BitVec.ofInt 64 (y : Int)).toNat = y := by
    rw [BitVec.ofInt_natCast, BitVec.toNat_ofNat]; exact Nat.mod_eq_of_lt (by omega)
  rw [BitVec.toNat_xor, h1, h2, IntKind.wrap_i64]
  have : x ^^^ y < 2 ^ 63 := Nat.xor_lt_two_pow (by omega) (by omega)
  omega

theorem pick_any (w : World) (R p m : Nat) (hr : RD w R p) (hp : p ≤ 1000000) (hm : 1 ≤ m) (hm2 : m ≤ 1000000) :
    Calls Tryz.prog 38 #[.pointer (some ⟨R, 0, none⟩), .int .i64 m] w fun e w' => ∃ x : Nat, e = .returned (.int .i64 x) ∧ x < m ∧ RD w' R (p + 1) ∧ w.grownBy w' (some R) := by
  obtain ⟨ao, b, off, n, cap, h⟩ := hr
  obtain ⟨h', g⟩ := h.step (p + 1)
  rw [show ((p + 1 : Nat) : Int) = (p : Int) + 1 from by simp] at h' g
  have k0 := h.c1
  have k1 := h.f1
  have k2 := h.c0
  have k3 := h.le
  have k4 := h.big
  have k5 := h.few
  have G := hide (⟨⟨ao, b, off, n, cap, h'⟩, g⟩ : RD (w.setCell ⟨R, 1, none⟩ (.int .i64 ((p : Int) + 1))) R (p + 1) ∧ w.grownBy (w.setCell ⟨R, 1, none⟩ (.int .i64 ((p : Int) + 1))) (some R))
  have hm1 : decide ((m : Int) < 1) = false := by simp; omega
  by_cases h0 : n = 0
  · have hn0 : ((n : Int) == 0) = true := by simp [h0]
    clear h h' g h0
    go_enter Tryz.func38, Tryz.ntmps38
    go_wp2
    go_ret
    exact ⟨0, rfl, by omega, unhide G⟩
  have hn0 : ((n : Int) == 0) = false := by simp; omega
  have ha := h.at_ (by omega)
  subst ha
  by_cases hpn : p < n
  · obtain ⟨x, hx, hx0, hx1⟩ := h'.byte p hpn
    clear h h' g
    go_enter Tryz.func38, Tryz.ntmps38
    go_wp2
    go_ret
    have e1 := Int.emod_nonneg x (show (m : Int) ≠ 0 by omega)
    have e2 := Int.emod_lt_of_pos x (show (0 : Int) < m by omega)
    exact ⟨(x % m).toNat, by rw [Int.toNat_of_nonneg e1]; rfl, by omega, unhide G⟩
  · obtain ⟨i, hi, hin⟩ : ∃ i : Nat, (p : Int) % n = i ∧ i < n := ⟨p % n, by simp, Nat.mod_lt _ (by omega)⟩
    obtain ⟨j, hj, hjn⟩ : ∃ j : Nat, ((p : Int) * 7 + 3) % n = j ∧ j < n := ⟨(p * 7 + 3) % n, by simp, Nat.mod_lt _ (by omega)⟩
    obtain ⟨k, hk, hkp⟩ : ∃ k : Nat, (p : Int) / n = k ∧ k ≤ p := ⟨p / n, by simp, Nat.div_le_self _ _⟩
    obtain ⟨x, hx, hx0, hx1⟩ := h'.byte i hin
    obtain ⟨y, hy, hy0, hy1⟩ := h'.byte j hjn
    obtain ⟨X, hX, hXb⟩ : ∃ X : Nat, x * 131 + y * 1117 + p * 29 + (k : Int) * 53 = X ∧ X < 1000000000 := ⟨(x * 131 + y * 1117 + p * 29 + (k : Int) * 53).toNat, by omega, by omega⟩
    obtain ⟨Q, hQ, hQb⟩ : ∃ Q : Nat, (X : Int) / 64 = Q ∧ Q < 1000000000 := ⟨X / 64, by simp, by omega⟩
    have hZ := i64_xor X Q (by omega) (by omega)
    have hZb : X ^^^ Q < 2 ^ 30 := Nat.xor_lt_two_pow (by omega) (by omega)
    generalize X ^^^ Q = Z at hZ hZb
    have hZc : Z < 1073741824 := hZb
    clear h h' g hZb
    go_enter Tryz.func38, Tryz.ntmps38
    go_wp2
    go_quiet (fail)
    go_wp2
    go_ret
    have e2 := Nat.mod_lt Z (show 0 < m by omega)
    obtain ⟨G1, G2⟩ := unhide G
    exact ⟨Z % m, by rw [Int.natCast_emod]; rfl, e2, G1.later (below_drewN (Below.refl _ _) _), grown_trans G2 ⟨rfl, rfl, rfl, Nat.le_refl _, fun _ _ _ => rfl⟩⟩

/-- Bytes that came in. -/
def Byt (w : World) (v : Value) : Prop := ∃ ao b off n cap, v = .slice ao n cap ∧ n ≤ cap ∧ cap ≤ 9223372036854775807 ∧ (0 < n → ao = some ⟨b, off, none⟩) ∧ ∀ i, i < n → ∃ x : Int, w.cell? ⟨b, off + i, none⟩ = some (.int .u8 x) ∧ 0 ≤ x ∧ x < 256

theorem Byt.later {w w' : World} {v : Value} (h : Byt w v) (k : Below w.heap.size w w') : Byt w' v := by
  obtain ⟨ao, b, off, n, cap, e, h1, h2, h3, h4⟩ := h
  refine ⟨ao, b, off, n, cap, e, h1, h2, h3, fun i hi => ?_⟩
  obtain ⟨x, hx, h0, h1⟩ := h4 i hi
  exact ⟨x, (k.cell (p := ⟨b, off + i, none⟩) (World.block_lt_of_cell? w _ hx)).trans hx, h0, h1⟩

theorem rd_new {w : World} {ao : Option Addr} {b off n cap : Nat} (h1 : n ≤ cap) (h2 : cap ≤ 9223372036854775807) (hn : n ≤ 2000) (h3 : 0 < n → ao = some ⟨b, off, none⟩) (h4 : ∀ i, i < n → ∃ x : Int, w.cell? ⟨b, off + i, none⟩ = some (.int .u8 x) ∧ 0 ≤ x ∧ x < 256) :
    RD (w.alloc (.cells #[.slice ao n cap, .int .i64 0] 90)) w.heap.size 0 := by
  have hlt : 0 < n → b < w.heap.size := fun h => by
    obtain ⟨x, hx, _⟩ := h4 0 h
    exact World.block_lt_of_cell? w _ hx
  refine ⟨ao, b, off, n, cap, ⟨by go_simp, by go_simp, by go_simp, by simp, h1, h2, hn, h3, hlt, fun i hi => ?_⟩⟩
  obtain ⟨x, hx, h0, h1⟩ := h4 i hi
  refine ⟨x, ?_, h0, h1⟩
  rw [World.cell?_of_block (w := w) (a := ⟨b, off + i, none⟩) (Below.heap_alloc w _ b (hlt (by omega)))]
  exact hx

theorem l1Open_any (w : World) (v : Value) (h : Byt w v) :
    Calls Tryz.prog 30 #[v] w fun e w' => e = .returned (.pointer (some ⟨w.heap.size, 0, none⟩)) ∧ RD w' w.heap.size 0 ∧ Below w.heap.size w w' ∧ w.heap.size < w'.heap.size := by
  obtain ⟨ao, b, off, n, cap, rfl, h1, h2, h3, h4⟩ := h
  by_cases hn : n ≤ 2000
  · have G := hide (rd_new h1 h2 hn h3 h4)
    clear h3 h4
    go_enter Tryz.func30, Tryz.ntmps30
    go_wp2
    go_ret
    exact ⟨rfl, unhide G, (Below.refl _ _).alloc (Nat.le_refl _) _, by simp⟩
  · have ha := h3 (by omega)
    subst ha
    have G := hide (rd_new (w := w) (ao := some ⟨b, off, none⟩) (b := b) (off := off) (n := 2000) (cap := cap) (by omega) h2 (by omega) (fun _ => rfl) (fun i hi => h4 i (by omega)))
    clear h3 h4
    go_enter Tryz.func30, Tryz.ntmps30
    go_wp2
    go_ret
    exact ⟨rfl, unhide G, (Below.refl _ _).alloc (Nat.le_refl _) _, by simp⟩

theorem grown_below {w w' : World} {r : Option Nat} (h : Below w.heap.size w w') : w.grownBy w' r := ⟨h.os, h.tape, h.output, h.size, fun k hk _ => h.block k hk⟩
theorem grown_alloc (w : World) (o : Obj) (r : Option Nat) : w.grownBy (w.alloc o) r := grown_below ((Below.refl _ _).alloc (Nat.le_refl _) o)
theorem RD.alloc {w : World} {R p : Nat} (h : RD w R p) (o : Obj) : RD (w.alloc o) R p := h.later ((Below.refl _ _).alloc (Nat.le_refl _) o)
theorem grown_set {w w1 : World} {r : Option Nat} (h : w.grownBy w1 r) {a : Addr} (ha : w.heap.size ≤ a.block) (u : Value) : w.grownBy (w1.setCell a u) r :=
  ⟨h.os, h.tape, h.output, by simpa using h.size, fun k hk hr => (Below.heap_setCell w1 a u k (by omega)).trans (h.block k hk hr)⟩
theorem RD.lt {w : World} {R p : Nat} (h : RD w R p) : R < w.heap.size := by obtain ⟨_, _, _, _, _, h⟩ := h; exact h.lt

theorem grown_below_trans {w w1 w2 : World} {R : Nat} (h : Below w.heap.size w w1) (hR : w.heap.size ≤ R) (g : w1.grownBy w2 (some R)) : Below w.heap.size w w2 :=
  h.trans ⟨g.os, g.tape, g.output, g.size, fun k hk => g.block k (Nat.lt_of_lt_of_le hk h.size) (by intro e; simp at e; omega)⟩

end Go.Proofs.YtdklikicngmkbaaGreatDoor

namespace Go.Proofs.YtdklikicngmkbaaGreatDoor
open Go.RowKit

/-- What one of a list answers. -/
theorem one_any (w : World) (R p : Nat) (v : Value) (l : List Int) (hr : RD w R p) (hp : p ≤ 1000000) (hl : Reads w v l) (h1 : 1 ≤ l.length) (h2 : l.length ≤ 1000000) (hB : ∀ b, (∃ o n c, v = .slice (some ⟨b, o, none⟩) n c) → b ≠ R) :
    Calls Tryz.prog 57 #[.pointer (some ⟨R, 0, none⟩), v] w fun e w' => ∃ x : Int, e = .returned (.int .i64 x) ∧ x ∈ l ∧ RD w' R (p + 1) ∧ w.grownBy w' (some R) := by
  have C := hide (pick_any w R p l.length hr hp h1 h2)
  obtain ⟨ao, b, off, cap, rfl, hu⟩ := hl
  have ha := hu.at_ (by omega)
  subst ha
  have hbR := hB b ⟨off, _, _, rfl⟩
  have h3 := hu.le
  have h4 := hu.big
  unfold maxLen at h4
  clear hB
  have HU := hide hu
  clear hu
  go_enter Tryz.func57, Tryz.ntmps57
  go_wp2_with fail
  refine (unhide C).mono ?_
  rintro e w1 ⟨x, rfl, hx, r1, g1⟩
  have hc : w1.cell? ⟨b, off + x, none⟩ = some (.int .i64 l[x]) := by
    have := (unhide HU).cell x hx
    rw [World.cell?_of_block (w := w) (g1.block b (World.block_lt_of_cell? w _ this) (by intro e; simp at e; exact hbR e))]
    exact this
  go_wp2
  go_ret
  exact ⟨l[x], rfl, List.getElem_mem _, r1, g1⟩

theorem reads_lit (w : World) (l : List Int) (cs : Array Value) (h : cs = (ints l).toArray) (hl : l.length ≤ 1000) : Reads (w.alloc (.cells cs 3)) (.slice (some ⟨w.heap.size, 0, none⟩) l.length l.length) l := by
  refine ⟨some ⟨w.heap.size, 0, none⟩, w.heap.size, 0, l.length, rfl, ⟨Nat.le_refl _, by unfold maxLen; omega, fun _ => rfl, fun k => (by cases k), fun i hi => ?_⟩⟩
  subst h
  simp [go_sem, ints, hi]

/-- One of a list that is written out, drawn. -/
theorem one_lit (W : World) (R p : Nat) (l : List Int) (cs : Array Value) (h : cs = (ints l).toArray) (hr : RD W R p) (hp : p ≤ 100000) (h1 : 1 ≤ l.length) (h2 : l.length ≤ 1000) :
    Calls Tryz.prog 57 #[.pointer (some ⟨R, 0, none⟩), .slice (some ⟨W.heap.size, 0, none⟩) l.length l.length] (W.alloc (.cells cs 3)) fun e w' => ∃ x : Int, e = .returned (.int .i64 x) ∧ x ∈ l ∧ RD w' R (p + 1) ∧ W.grownBy w' (some R) := by
  have hR := hr.lt
  refine (one_any _ R p _ l (hr.alloc _) (by omega) (reads_lit W l cs h h2) h1 (by omega) (fun b hb => ?_)).mono ?_
  · obtain ⟨o, n', c, e⟩ := hb
    simp at e
    omega
  · rintro e w' ⟨x, rfl, hx, hr', g⟩
    exact ⟨x, rfl, hx, hr', grown_trans (grown_alloc W _ _) g⟩

end Go.Proofs.YtdklikicngmkbaaGreatDoor

namespace Go.Proofs.YtdklikicngmkbaaGreatDoor
open Go.RowKit


/-- The cells of a list of texts. -/
def strsOf (l : List ByteArray) : Array Value := (l.map Value.string).toArray

/-- One of a list of texts that is written out, drawn. -/
theorem of_lit (W : World) (R p : Nat) (l : List ByteArray) (cs : Array Value) (h : cs = strsOf l) (hr : RD W R p) (hp : p ≤ 100000) (h1 : 1 ≤ l.length) (h2 : l.length ≤ 1000) :
    Calls Tryz.prog 39 #[.pointer (some ⟨R, 0, none⟩), .slice (some ⟨W.heap.size, 0, none⟩) l.length l.length] (W.alloc (.cells cs 9)) fun e w' => ∃ x : ByteArray, e = .returned (.string x) ∧ x ∈ l ∧ RD w' R (p + 1) ∧ W.grownBy w' (some R) := by
  have hR := hr.lt
  have C := hide (pick_any _ R p l.length (hr.alloc (.cells cs 9)) (by omega) h1 (by omega))
  have H := hide h
  clear h
  go_enter Tryz.func39, Tryz.ntmps39
  go_wp2_with fail
  refine (unhide C).mono ?_
  rintro e w1 ⟨x, rfl, hx, r1, g1⟩
  have hc : w1.cell? ⟨W.heap.size, x, none⟩ = some (.string l[x]) := by
    rw [World.cell?_of_block (w := W.alloc (.cells cs 9)) (g1.block W.heap.size (by simp) (by intro e; simp at e; omega))]
    have h := unhide H
    subst h
    simp [go_sem, strsOf, hx]
  clear C
  go_wp2
  go_ret
  exact ⟨l[x], rfl, List.getElem_mem _, r1, grown_trans (grown_alloc W _ _) g1⟩

end Go.Proofs.YtdklikicngmkbaaGreatDoor

namespace Go.Proofs.YtdklikicngmkbaaGreatDoor

theorem byt_len {w : World} {v : Value} (h : Byt w v) : ∃ ao n cap, v = .slice ao n cap ∧ n ≤ 9223372036854775807 := by
  obtain ⟨ao, b, off, n, cap, rfl, h1, h2, _⟩ := h
  exact ⟨ao, n, cap, rfl, by omega⟩

end Go.Proofs.YtdklikicngmkbaaGreatDoor
