/- Texts that are the same. -/
import Derived.Test.YtdefhpegabifjaaDoorDkB0
import Derived.Deep.RegionHeld
namespace Go.Proofs.YtdefhpegabifjaaDoor
open Go.RowKit

theorem eqStringS_same (w : World) (u v : Value) (l : List ByteArray) (hu : ReadsS w u l) (hv : ReadsS w v l) :
    Calls Tryd.prog 24 #[u, v] w fun e w' => e = .returned (.bool true) ∧ Below w.heap.size w w' := by
  obtain ⟨ao, b, off, cap, rfl, hu⟩ := hu
  obtain ⟨ao', b', off', cap', rfl, hv⟩ := hv
  have h1 := hu.le
  have h2 := hu.big
  unfold maxLen at h2
  have hne : ((l.length : Int) != (l.length : Int)) = false := by simp
  go_enter Tryd.func24, Tryd.ntmps24
  go_wp2
  go_loopw [5] (fun i wr => ∃ k : Nat, k ≤ l.length ∧ i = .int .i64 k ∧ Below w.heap.size w wr) (fun i _ => l.length - (intOf i).toNat)
  case atStart => exact ⟨0, Nat.zero_le _, rfl, Below.refl _ _⟩
  case round =>
    obtain ⟨k, hk, rfl, hbel⟩ := hrel
    by_cases hlt : k < l.length
    · have hc := (hu.later hbel).cell k hlt
      have hc' := (hv.later hbel).cell k hlt
      have hat := hu.at_ (by omega)
      have hat' := hv.at_ (by omega)
      subst hat hat'
      clear hu hv
      go_wp2
      go_quiet (fail)
      go_wp2
      go_roundw
      case rel => exact ⟨k + 1, by omega, by go_num, below_draws hbel _⟩
      case measure => simp [intOf]; omega
    · go_wp2
      go_ret
      exact ⟨rfl, hbel⟩

end Go.Proofs.YtdefhpegabifjaaDoor
