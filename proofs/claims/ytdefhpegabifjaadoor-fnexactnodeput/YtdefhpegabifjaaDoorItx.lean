/- The text of a number: spec.l1Dec by a contract. -/
import Derived.Test.YtdefhpegabifjaaDoorProg
import Derived.Test.YtdefhpegabifjaaDoorBase
import Derived.Lib.ItoaMem
import Derived.Lib.ItoaLen
import Derived.WalkKit
import Derived.WalkSmall
import Derived.WalkLawsBesides
import Derived.Below
import Derived.Deep.QuietTactic
import Derived.BigQuiet
import Derived.Deep.RegionHeld
namespace Go.Proofs.YtdefhpegabifjaaDoor
open Go.RowKit

/-- The text of a number. -/
def itxt (n : Int) : ByteArray := ⟨(Lib.itoa n).toArray⟩
def dtxt (n : Nat) : ByteArray := ⟨(Lib.decDigits n).toArray⟩

theorem convI (W : World) (b v : Nat) (hv : v < 256) (z : Int) (hz : z = v) (hc : W.cell? ⟨b, 0, none⟩ = some (.int .u8 z)) : Sem.run Tryd.prog (convert 58 9 (.slice (some ⟨b, 0, none⟩) 1 1)) W = .ok (.string ⟨#[UInt8.ofNat v]⟩) W := by
  subst hz
  refine run_convert_bytes_back _ 58 9 5 ⟨b, 0, none⟩ 1 [UInt8.ofNat v] Tryd.underlying58 Tryd.underlying5 Tryd.underlying9 (fun j hj => ?_)
  have : j = 0 := by simpa using hj
  subst this
  simp only [Addr.add] at *
  simp [hc]
  omega

theorem dtxt_small {n : Nat} (h : n < 10) : dtxt n = ⟨#[48 + UInt8.ofNat n]⟩ := by
  unfold dtxt; rw [Lib.decDigits_one h]; simp
theorem dtxt_big {n : Nat} (h : ¬ n < 10) : dtxt n = dtxt (n / 10) ++ ⟨#[48 + UInt8.ofNat (n % 10)]⟩ := by
  unfold dtxt
  rw [Lib.decDigits, dif_neg h]
  simp [ByteArray.ext_iff, ByteArray.data_append]
theorem dtxt_size {n : Nat} (h : n ≤ 9223372036854775807) : (dtxt n).size ≤ 21 := by
  have := Lib.itoa_length_le (n : Int) (by omega) (by omega)
  rw [Lib.itoa_nonneg] at this
  show (Lib.decDigits n).toArray.size ≤ 21
  simpa using this

theorem i64_in {x : Int} (h : -9223372036854775808 ≤ x) (k : x ≤ 9223372036854775807) : IntKind.i64.wrap x = x := by
  rw [IntKind.wrap_i64]; omega
theorem u8_in {x : Int} (h : 0 ≤ x) (k : x ≤ 255) : IntKind.u8.wrap x = x := by
  unfold IntKind.wrap; simp [IntKind.bits, IntKind.signed]; omega

set_option maxHeartbeats 1000000 in
theorem l1Dec_nat (n : Nat) : n ≤ 9223372036854775807 → ∀ w : World, Calls Tryd.prog 37 #[.int .i64 n] w fun e w' => e = .returned (.string (dtxt n)) ∧ Below w.heap.size w w' := by
  induction n using Nat.strongRecOn with
  | ind n ih =>
    intro hn w
    have g0 : decide ((n : Int) < -9223372036854775807) = false := decide_eq_false (by omega)
    have g1 : decide ((n : Int) < 0) = false := decide_eq_false (by omega)
    by_cases h : n < 10
    · have g2 : decide ((n : Int) < 10) = true := by simp; omega
      have E := hide (dtxt_small h)
      have hcv := convI (w.alloc (.cells #[.int .u8 (48 + (n : Int))] 5)) w.heap.size (48 + n) (by omega) (48 + (n : Int)) (by omega) (by simp)
      clear ih
      go_enter Tryd.func37, Tryd.ntmps37
      go_wp2
      go_ret
      exact ⟨by rw [unhide E]; rfl, (Below.refl _ _).alloc (Nat.le_refl _) _⟩
    · have g2 : decide ((n : Int) < 10) = false := by simp; omega
      have E := hide (dtxt_big h)
      have C := hide (fun (z : Int) (hz : z = (n / 10 : Nat)) W => (by subst hz; exact ih (n / 10) (by omega) (by omega) W : Calls Tryd.prog 37 #[.int .i64 z] W fun e w' => e = .returned (.string (dtxt (n / 10))) ∧ Below W.heap.size W w'))
      have hcv := fun (W : World) (b : Nat) (h : W.cell? ⟨b, 0, none⟩ = some (.int .u8 (48 + (n : Int) % 10))) => convI W b (48 + n % 10) (by omega) (48 + (n : Int) % 10) (by omega) h
      have hs := dtxt_size (n := n / 10) (by omega)
      clear ih
      go_enter Tryd.func37, Tryd.ntmps37
      go_wp2_with fail
      have hm : (0 : Int) ≤ (n : Int) % 10 ∧ (n : Int) % 10 ≤ 9 := by omega
      obtain ⟨hm1, hm2⟩ := hm
      have w1 : IntKind.i64.wrap ((n : Int) / 10) = (n : Int) / 10 := i64_in (by omega) (by omega)
      have w2 : (n : Int).tmod 10 = (n : Int) % 10 := Int.tmod_eq_emod_of_nonneg (by omega)
      have w3 : IntKind.i64.wrap (48 + (n : Int) % 10) = 48 + (n : Int) % 10 := i64_in (by omega) (by omega)
      have w4 : IntKind.u8.wrap (48 + (n : Int) % 10) = 48 + (n : Int) % 10 := u8_in (by omega) (by omega)
      have hq : (n : Int) / 10 = (n / 10 : Nat) := by omega
      have HQ := hide hq
      have hz : ¬ (9223372036854775807 < (dtxt (n / 10)).size + 1) := by omega
      clear g0 g1 g2 hn h hq
      go_region_with (go_at_call 37; refine (unhide C _ ?_ _).mono ?_; exact unhide HQ; rintro e w1 ⟨rfl, b1⟩; obtain ⟨hc1, hf1⟩ := bcell b1)
      all_goals
        go_wp2
        go_ret
        refine ⟨by rw [unhide E]; rfl, ?_⟩
        first
          | exact ((Below.refl _ _).drew.trans b1).alloc b1.size _
          | exact ((Below.refl _ _).alloc (Nat.le_refl _) _).drew.trans (b1.mono (by simp))

/-- The same at whatever number. -/
theorem l1Dec_any (w : World) (n : Int) (h0 : -9223372036854775807 ≤ n) (h1 : n ≤ 9223372036854775807) :
    Calls Tryd.prog 37 #[.int .i64 n] w fun e w' => e = .returned (.string (itxt n)) ∧ Below w.heap.size w w' := by
  by_cases h : n < 0
  · obtain ⟨k, rfl⟩ : ∃ k : Nat, n = -(k : Int) := ⟨n.natAbs, by omega⟩
    have E := hide (show itxt (-(k : Int)) = ⟨#[45]⟩ ++ dtxt k by unfold itxt dtxt; rw [Lib.itoa_neg k (by omega)]; simp [ByteArray.ext_iff, ByteArray.data_append])
    have C := hide (l1Dec_nat k (by omega))
    have hs := dtxt_size (n := k) (by omega)
    have hz : ¬ (9223372036854775807 < 1 + (dtxt k).size) := by omega
    have g0 : decide (-(k : Int) < -9223372036854775807) = false := decide_eq_false (by omega)
    have g1 : decide (-(k : Int) < 0) = true := decide_eq_true h
    go_enter Tryd.func37, Tryd.ntmps37
    go_wp2_with fail
    refine (unhide C _).mono ?_
    rintro e w1 ⟨rfl, b1⟩
    go_wp2
    go_ret
    exact ⟨by rw [unhide E]; rfl, b1⟩
  · obtain ⟨k, rfl⟩ : ∃ k : Nat, n = (k : Int) := ⟨n.toNat, by omega⟩
    have E : itxt (k : Int) = dtxt k := by unfold itxt dtxt; rw [Lib.itoa_nonneg k]
    rw [E]
    exact l1Dec_nat k (by omega) w

theorem itxt_size {n : Int} (h0 : -9223372036854775808 ≤ n) (h1 : n ≤ 9223372036854775807) : (itxt n).size ≤ 21 := by
  have := Lib.itoa_length_le n h0 h1
  show (Lib.itoa n).toArray.size ≤ 21
  simpa using this

end Go.Proofs.YtdefhpegabifjaaDoor
