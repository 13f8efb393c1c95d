/- The laws' own helpers for values: how large one is, whether two are the same. What stands ahead of a number's figures. Noughts: strings.Repeat of one. -/
import Derived.Test.YtdklikicngmkbaaGreatDoorH06
import Derived.Test.YtdklikicngmkbaaGreatDoorG07
import Derived.Test.YtdklikicngmkbaaGreatDoorG06
namespace Go.Proofs.YtdklikicngmkbaaGreatDoor
open Go.RowKit
set_option maxRecDepth 100000
set_option linter.unusedSimpArgs false
set_option linter.unusedVariables false

/-- What is left of a bound. -/
def szV (left : Int) (N T : Nat) : Int := if left < N then -1 else if left - N < T then -1 else left - N - T

set_option maxHeartbeats 2000000 in
theorem szValue_any (w : World) (k : Int) (y n : Bool) (ao : Option Addr) (l : List Int) (cap : Nat) (sc d mo da : Int) (t : ByteArray) (left : Int) (hr : Reads w (.slice ao l.length cap) l) (ht : t.size ≤ maxLen) (h0 : 0 ≤ left) (h1 : left ≤ 1048576) :
    Calls Tryz.prog 24 #[.agg #[.int .i64 k, .bool y, .bool n, .slice ao l.length cap, .int .i64 sc, .int .i64 d, .int .i64 mo, .int .i64 da, .string t], .int .i64 left] w fun e w' => e = .returned (.int .i64 (szV left l.length t.size)) ∧ Below w.heap.size w w' := by
  have B0 : Below w.heap.size w (w.alloc (.cells #[.int .i64 k, .bool y, .bool n, .slice ao l.length cap, .int .i64 sc, .int .i64 d, .int .i64 mo, .int .i64 da, .string t] 50)) := (Below.refl _ _).alloc (Nat.le_refl _) _
  have V0 := V9.new w (.int .i64 k) (.bool y) (.bool n) (.slice ao l.length cap) (.int .i64 sc) (.int .i64 d) (.int .i64 mo) (.int .i64 da) (.string t) 50
  have C := szDec_any (w.alloc (.cells #[.int .i64 k, .bool y, .bool n, .slice ao l.length cap, .int .i64 sc, .int .i64 d, .int .i64 mo, .int .i64 da, .string t] 50)) n (.slice ao l.length cap) l sc left (hr.later B0) h0 h1
  unfold szV
  unfold maxLen at ht
  by_cases h : left < l.length
  · rw [if_pos h] at C ⊢
    have C := hide C
    clear V0 hr
    go_enter Tryz.func24, Tryz.ntmps24
    go_wp2_with fail
    refine (unhide C).mono ?_
    rintro e w1 ⟨rfl, b1⟩
    go_wp2
    go_ret
    exact ⟨rfl, B0.trans (b1.mono B0.size)⟩
  · rw [if_neg h] at C ⊢
    have hk : 0 ≤ left - l.length := by omega
    have hk2 : left - (l.length : Int) ≤ 1048576 := by omega
    generalize left - (l.length : Int) = q at *
    have e1 : IntKind.i64.wrap (q - (t.size : Int)) = q - (t.size : Int) := by rw [IntKind.wrap_i64]; omega
    have k0 : decide (q < 0) = false := by simp; omega
    have C := hide C
    clear hr
    by_cases h2 : q < t.size
    · rw [if_pos h2]
      have k1 : decide (q - (t.size : Int) < 0) = true := by simp; omega
      go_enter Tryz.func24, Tryz.ntmps24
      go_wp2_with fail
      refine (unhide C).mono ?_
      rintro e w1 ⟨rfl, b1⟩
      obtain ⟨ac0, ac1, ac2, ac3, ac4, ac5, ac6, ac7, ac8, af0, af1, af2, af3, af4, af5, af6, af7, af8, al⟩ := V0.later b1
      clear h h0 h1 hk hk2 h2
      go_wp2
      go_ret
      exact ⟨rfl, B0.trans (b1.mono B0.size)⟩
    · rw [if_neg h2]
      have k1 : decide (q - (t.size : Int) < 0) = false := by simp; omega
      go_enter Tryz.func24, Tryz.ntmps24
      go_wp2_with fail
      refine (unhide C).mono ?_
      rintro e w1 ⟨rfl, b1⟩
      obtain ⟨ac0, ac1, ac2, ac3, ac4, ac5, ac6, ac7, ac8, af0, af1, af2, af3, af4, af5, af6, af7, af8, al⟩ := V0.later b1
      clear h h0 h1 hk hk2 h2
      go_wp2
      go_ret
      exact ⟨rfl, B0.trans (b1.mono B0.size)⟩

theorem eqSpanV (w : World) (m d : Int) : Calls Tryz.prog 54 #[.agg #[.int .i64 m, .int .i64 d], .agg #[.int .i64 m, .int .i64 d]] w fun e w' => e = .returned (.bool true) ∧ Below w.heap.size w w' := by
  have h1 : (m != m) = false := by simp
  have h2 : (d != d) = false := by simp
  go_enter Tryz.func54, Tryz.ntmps54
  go_wp2_with fail
  (try (go_quiet (fail)))
  go_wp2_with fail
  (try (go_quiet (fail)))
  go_wp2
  go_ret
  refine ⟨rfl, ?_⟩
  repeat (first | exact Below.refl _ _ | refine below_drewN ?_ _ | refine Below.drew ?_ | refine Below.alloc ?_ (by first | exact Nat.le_refl _ | (simp only [World.size_alloc]; omega)) _)

set_option maxHeartbeats 4000000 in
theorem eqValue_same (w : World) (k : Int) (y n : Bool) (ao ao2 : Option Addr) (l : List Int) (cap cap2 : Nat) (sc d mo da : Int) (t : ByteArray) (hr : Reads w (.slice ao l.length cap) l) (hr2 : Reads w (.slice ao2 l.length cap2) l) :
    Calls Tryz.prog 26 #[.agg #[.int .i64 k, .bool y, .bool n, .slice ao l.length cap, .int .i64 sc, .int .i64 d, .int .i64 mo, .int .i64 da, .string t], .agg #[.int .i64 k, .bool y, .bool n, .slice ao2 l.length cap2, .int .i64 sc, .int .i64 d, .int .i64 mo, .int .i64 da, .string t]] w fun e w' => e = .returned (.bool true) ∧ Below w.heap.size w w' := by
  have B0 : Below w.heap.size w ((w.alloc (.cells #[.int .i64 k, .bool y, .bool n, .slice ao l.length cap, .int .i64 sc, .int .i64 d, .int .i64 mo, .int .i64 da, .string t] 31)).alloc (.cells #[.int .i64 k, .bool y, .bool n, .slice ao2 l.length cap2, .int .i64 sc, .int .i64 d, .int .i64 mo, .int .i64 da, .string t] 31)) := ((Below.refl _ _).alloc (Nat.le_refl _) _).alloc (by simp) _
  have CD := hide (fun W (b : Below w.heap.size w W) => eqDec_same W n (.slice ao l.length cap) (.slice ao2 l.length cap2) l sc (hr.later b) (hr2.later b))
  have CS := hide (fun W => eqSpanV W mo da)
  have VA := (V9.new w (.int .i64 k) (.bool y) (.bool n) (.slice ao l.length cap) (.int .i64 sc) (.int .i64 d) (.int .i64 mo) (.int .i64 da) (.string t) 31).later ((Below.refl _ _).alloc (Nat.le_refl _) (.cells #[.int .i64 k, .bool y, .bool n, .slice ao2 l.length cap2, .int .i64 sc, .int .i64 d, .int .i64 mo, .int .i64 da, .string t] 31))
  have VB := V9.new (w.alloc (.cells #[.int .i64 k, .bool y, .bool n, .slice ao l.length cap, .int .i64 sc, .int .i64 d, .int .i64 mo, .int .i64 da, .string t] 31)) (.int .i64 k) (.bool y) (.bool n) (.slice ao2 l.length cap2) (.int .i64 sc) (.int .i64 d) (.int .i64 mo) (.int .i64 da) (.string t) 31
  rw [World.size_alloc] at VB
  have k1 : (k != k) = false := by simp
  have k2 : (y != y) = false := by simp
  have k3 : (d != d) = false := by simp
  have k4 : (t.toList != t.toList) = false := by simp
  have k5 : (!y == y) = false := by cases y <;> rfl
  clear hr hr2
  go_enter Tryz.func26, Tryz.ntmps26
  go_wp2_with fail
  (try (go_quiet (fail)))
  go_wp2_with fail
  (try (go_quiet (fail)))
  go_wp2_with fail
  refine (unhide CD _ B0).mono ?_
  rintro e w1 ⟨rfl, b1⟩
  have B1 := B0.trans (b1.mono B0.size)
  have VA1 := VA.later b1
  have VB1 := VB.later b1
  obtain ⟨ac0, ac1, ac2, ac3, ac4, ac5, ac6, ac7, ac8, af0, af1, af2, af3, af4, af5, af6, af7, af8, al⟩ := id VA1
  obtain ⟨bc0, bc1, bc2, bc3, bc4, bc5, bc6, bc7, bc8, bf0, bf1, bf2, bf3, bf4, bf5, bf6, bf7, bf8, bl⟩ := id VB1
  clear VA VB B0 b1 CD
  go_wp2_with fail
  (try (go_quiet (fail)))
  go_wp2_with fail
  refine (unhide CS _).mono ?_
  rintro e w2 ⟨rfl, b2⟩
  clear ac0 ac1 ac2 ac3 ac4 ac5 ac6 ac7 ac8 af0 af1 af2 af3 af4 af5 af6 af7 af8 al bc0 bc1 bc2 bc3 bc4 bc5 bc6 bc7 bc8 bf0 bf1 bf2 bf3 bf4 bf5 bf6 bf7 bf8 bl CS
  have hsz : w1.heap.size ≤ w2.heap.size := by
    have := b2.size
    (try simp at this)
    omega
  have B2 : Below w.heap.size w w2 := B1.trans ((by first | exact b2 | exact (below_draws (Below.refl _ _) _).trans (b2.mono (by simp)) : Below w1.heap.size w1 w2).mono B1.size)
  have b2' : Below w1.heap.size w1 w2 := by first | exact b2 | exact (below_draws (Below.refl _ _) _).trans (b2.mono (by simp))
  obtain ⟨ac0, ac1, ac2, ac3, ac4, ac5, ac6, ac7, ac8, af0, af1, af2, af3, af4, af5, af6, af7, af8, al⟩ := VA1.later b2'
  obtain ⟨bc0, bc1, bc2, bc3, bc4, bc5, bc6, bc7, bc8, bf0, bf1, bf2, bf3, bf4, bf5, bf6, bf7, bf8, bl⟩ := VB1.later b2'
  clear VA1 VB1 b2 b2' B1
  go_wp2_with fail
  (try (go_quiet (fail)))
  go_wp2
  go_ret
  exact ⟨rfl, by first | exact B2 | exact below_draws B2 _⟩

end Go.Proofs.YtdklikicngmkbaaGreatDoor

namespace Go.Proofs.YtdklikicngmkbaaGreatDoor
open Go.RowKit

/-- What stands ahead of a number's figures. -/
def sgT (p : Bool) : List UInt8 := if p then [45] else []

theorem signText_any (w : World) (p : Bool) (v : Value) : Calls Tryz.prog 290 #[.agg #[.bool p, v]] w fun e w' => e = .returned (.string ⟨(sgT p).toArray⟩) ∧ Below w.heap.size w w' := by
  cases p
  all_goals
    go_enter Tryz.func290, Tryz.ntmps290
    go_wp2
    go_ret
    exact ⟨rfl, (Below.refl _ _).alloc (Nat.le_refl _) _⟩

end Go.Proofs.YtdklikicngmkbaaGreatDoor

namespace Go.Proofs.YtdklikicngmkbaaGreatDoor
open Go.RowKit

theorem repeatL_one (c : Nat) : Lib.repeatL [48] c = List.replicate c 48 := by
  induction c with
  | zero => rfl
  | succ c ih => simpa [Lib.repeatL, List.replicate_succ] using ih

theorem zeros_any (w : World) (c : Nat) (hc : c ≤ 1000000) :
    Calls Tryz.prog 204 #[.string ⟨#[48]⟩, .int .i64 c] w fun e w' => e = .returned (.string ⟨(List.replicate c 48).toArray⟩) ∧ Below w.heap.size w w' := by
  have C := Tryz.strings_Repeat ⟨#[48]⟩ c w (by omega) (by show 1 * c ≤ _; omega)
  rw [show (⟨#[48]⟩ : ByteArray).data.toList = [48] from rfl, repeatL_one] at C
  exact C

end Go.Proofs.YtdklikicngmkbaaGreatDoor
