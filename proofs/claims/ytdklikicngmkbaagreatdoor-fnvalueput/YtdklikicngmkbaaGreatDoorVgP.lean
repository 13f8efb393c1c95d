/- Whether a value is ok, by the specification's own word; the text of a value that is ok is short. -/
import Derived.Test.YtdklikicngmkbaaGreatDoorG29
import Derived.Test.YtdklikicngmkbaaGreatDoorH07
import Derived.Test.YtdklikicngmkbaaGreatDoorVlS
namespace Go.Proofs.YtdklikicngmkbaaGreatDoor
open Go.RowKit
set_option maxRecDepth 100000
set_option linter.unusedSimpArgs false
set_option linter.unusedVariables false

theorem specValueOk_any (w : World) (k : Int) (y n : Bool) (ao : Option Addr) (l : List Int) (cap : Nat) (sc d mo da : Int) (t : ByteArray) (ht : t.size ≤ maxLen) (hr : Reads w (.slice ao l.length cap) l) :
    Calls Tryz.prog 13 #[.agg #[.int .i64 k, .bool y, .bool n, .slice ao l.length cap, .int .i64 sc, .int .i64 d, .int .i64 mo, .int .i64 da, .string t]] w fun e w' => e = .returned (.bool (valB k y n l sc d mo da t)) ∧ Below w.heap.size w w' := by
  have B0 : Below w.heap.size w (w.alloc (.cells #[.int .i64 k, .bool y, .bool n, .slice ao l.length cap, .int .i64 sc, .int .i64 d, .int .i64 mo, .int .i64 da, .string t] 31)) := (Below.refl _ _).alloc (Nat.le_refl _) _
  have C := hide (fun W (b : Below w.heap.size w W) => specL4Ok_any W k y n ao l cap sc d mo da t ht (hr.later b))
  clear hr
  generalize valB k y n l sc d mo da t = g at *
  go_enter Tryz.func13, Tryz.ntmps13
  go_wp2_with fail
  refine (unhide C _ B0).mono ?_
  rintro e w1 ⟨rfl, b1⟩
  go_wp2
  go_ret
  exact ⟨rfl, B0.trans (b1.mono B0.size)⟩

theorem vt_short {s : ByteArray} {V : Vl} (h : VT s V) : 0 < s.size ∧ s.size ≤ 2000 := by
  refine ⟨Nat.pos_of_ne_zero (fun z => vt_none z h), ?_⟩
  rcases vt_shape h with ⟨-, e⟩ | ⟨y, -, e⟩ | ⟨n, l, sc, -, a, b⟩ | ⟨d, -, hd, e⟩ | ⟨mo, da, -, hd, e⟩ | ⟨t, -, a, e⟩
  · rw [e]; decide
  · rw [e]; cases y <;> decide
  · obtain ⟨-, -, hs0, -⟩ := decB_iff.1 a
    obtain ⟨k, rfl⟩ := Int.eq_ofNat_of_zero_le hs0
    obtain ⟨-, -, -, -, -, -, -, hz⟩ := dput_dots a
    rw [Int.toNat_natCast] at b
    rw [b] at hz
    omega
  · rw [← e, ByteArray.size_append, dayT_size hd]; decide
  · rw [← e, ByteArray.size_append]; have := spanT_60 hd; have : (⟨#[35]⟩ : ByteArray).size = 1 := rfl; omega
  · simp only [textB, Bool.and_eq_true, decide_eq_true_eq] at a
    rw [← e]; have := quoteT_60 a.2; omega

end Go.Proofs.YtdklikicngmkbaaGreatDoor
