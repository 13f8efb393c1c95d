/- The text of a node's key: entry of the program. -/
import Derived.Test.YtdefhpegabifjaaDoorNdS
import Derived.Test.YtdefhpegabifjaaDoorTab
import Derived.Deep.RegionHeld3
namespace Go.Proofs.YtdefhpegabifjaaDoor
open Go.RowKit
set_option maxRecDepth 100000
set_option linter.unusedSimpArgs false
set_option linter.unusedVariables false

/-- A key's part of a node's text: how long the key is, a number, and what it says. -/
def entT (k : ByteArray) (n : Int) (x : ByteArray) : ByteArray := itxt k.size ++ ⟨#[44]⟩ ++ itxt n ++ ⟨#[58]⟩ ++ x

theorem entT_size {k x : ByteArray} {n : Int} (hk : k.size ≤ 200) (h0 : -1000 ≤ n) (h1 : n ≤ 1000) : (entT k n x).size ≤ 44 + x.size := by
  have s1 := itxt_size (n := (k.size : Int)) (by omega) (by omega)
  have s2 := itxt_size (n := n) (by omega) (by omega)
  unfold entT
  rw [ByteArray.size_append, ByteArray.size_append, ByteArray.size_append, ByteArray.size_append]
  have : (⟨#[44]⟩ : ByteArray).size = 1 := rfl
  have : (⟨#[58]⟩ : ByteArray).size = 1 := rfl
  omega

set_option maxHeartbeats 2000000 in
theorem entry_any (w : World) (k : ByteArray) (n : Int) (x : ByteArray) (hk : k.size ≤ 200) (h0 : -1000 ≤ n) (h1 : n ≤ 1000) (hx : x.size ≤ 1000) (tt : Tab w) :
    Calls Tryd.prog 22 #[.string k, .int .i64 n, .string x] w fun e w' => e = .returned (.string (entT k n x)) ∧ Below w.heap.size w w' := by
  have C1 := hide (fun W (t : Tab W) => itoa_any W (k.size : Int) (by omega) (by omega) t)
  have C2 := hide (fun W (t : Tab W) => itoa_any W n (by omega) (by omega) t)
  have s1 := itxt_size (n := (k.size : Int)) (by omega) (by omega)
  have s2 := itxt_size (n := n) (by omega) (by omega)
  have E := hide (show itxt k.size ++ ⟨#[44]⟩ ++ itxt n ++ ⟨#[58]⟩ ++ x = entT k n x from rfl)
  generalize entT k n x = T at *
  generalize itxt (k.size : Int) = t1 at *
  generalize itxt n = t2 at *
  go_enter Tryd.func22, Tryd.ntmps22
  go_wp2_with fail
  refine (unhide C1 _ tt).mono ?_
  rintro e w1 ⟨rfl, b1⟩
  have z1 : ¬ (9223372036854775807 < t1.size + 1) := by omega
  go_wp2_with fail
  refine (unhide C2 _ (tt.later b1)).mono ?_
  rintro e w2 ⟨rfl, b2⟩
  have z2 : ¬ (9223372036854775807 < t1.size + 1 + t2.size) := by omega
  have z3 : ¬ (9223372036854775807 < t1.size + 1 + t2.size + 1) := by omega
  have z4 : ¬ (9223372036854775807 < t1.size + 1 + t2.size + 1 + x.size) := by omega
  have B2 := b1.trans (b2.mono b1.size)
  go_wp2
  go_ret
  exact ⟨by rw [← unhide E]; rfl, B2⟩

end Go.Proofs.YtdefhpegabifjaaDoor
