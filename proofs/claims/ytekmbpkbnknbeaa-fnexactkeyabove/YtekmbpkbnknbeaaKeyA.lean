/- KeyAbove of the program and of the specification. -/
import Derived.Test.YtekmbpkbnknbeaaProg
import Derived.WalkKit
import Derived.WalkSmall
import Derived.WalkLawsBesides
import Derived.WalkSpells
import Derived.Below
import Derived.Deep.QuietTactic
import Derived.BigQuiet
namespace Go.Proofs.Ytekmbpkbnknbeaa
open Go.RowKit

theorem convK (W : World) (b v : Nat) (hv : v < 256) (z : Int) (hz : z = v) (hc : W.cell? ⟨b, 0, none⟩ = some (.int .u8 z)) : Sem.run Try.prog (convert 56 9 (.slice (some ⟨b, 0, none⟩) 1 1)) W = .ok (.string ⟨#[UInt8.ofNat v]⟩) W := by
  subst hz
  refine run_convert_bytes_back _ 56 9 5 ⟨b, 0, none⟩ 1 [UInt8.ofNat v] Try.underlying56 Try.underlying5 Try.underlying9 (fun j hj => ?_)
  have : j = 0 := by simpa using hj
  subst this
  simp only [Addr.add] at *
  simp [hc]
  omega

/-- A fact that the walk is not to see. -/
def KHid (p : Prop) : Prop := p
theorem hidK {p : Prop} (h : p) : KHid p := h
theorem unhidK {p : Prop} (h : KHid p) : p := h

/-- n bytes are left without the bytes 255 at the end. -/
def AbN (s : ByteArray) (n : Nat) : Prop := n ≤ s.size ∧ (∀ i (h : i < s.size), n ≤ i → s[i].toNat = 255) ∧ (∀ h : n - 1 < s.size, 0 < n → s[n - 1].toNat ≠ 255)
/-- The least text above. -/
def abv (s : ByteArray) (n : Nat) : ByteArray := if h : 0 < n ∧ n - 1 < s.size then s.extract 0 (n - 1) ++ ⟨#[s[n - 1]'h.2 + 1]⟩ else ⟨#[]⟩

theorem abN_to (s : ByteArray) (k : Nat) (hk : k ≤ s.size) (h : ∀ i (h : i < s.size), k ≤ i → s[i].toNat = 255) : ∃ n, AbN s n := by
  induction k with
  | zero => exact ⟨0, Nat.zero_le _, h, fun _ h => by omega⟩
  | succ k ih =>
    by_cases e : s[k].toNat = 255
    · refine ih (by omega) (fun i hi hk => ?_)
      by_cases ei : i = k
      · subst ei; exact e
      · exact h i hi (by omega)
    · exact ⟨k + 1, hk, h, fun _ _ => e⟩
theorem abN_is (s : ByteArray) : ∃ n, AbN s n := abN_to s s.size (Nat.le_refl _) (fun i hi h => by omega)

theorem specKeyAbove_any (w : World) (s : ByteArray) (hs : s.size ≤ 1048576) (n : Nat) (hn : AbN s n) : Calls Try.prog 40 #[.string s] w fun e w' => e = .returned (.string (abv s n)) ∧ Below w.heap.size w w' := by
  obtain ⟨hn1, hn2, hn3⟩ := hn
  go_enter Try.func40, Try.ntmps40
  go_wp2
  go_loop [3] (fun i => ∃ k : Nat, n ≤ k ∧ k ≤ s.size ∧ i = .int .i64 k) (fun i => (intOf i).toNat)
  case atStart => exact ⟨s.size, hn1, Nat.le_refl _, rfl⟩
  case round =>
    obtain ⟨k, hnk, hk, rfl⟩ := hrel
    by_cases h0 : 0 < k
    · have t0 : decide (0 < (k : Int)) = true := by simpa using h0
      by_cases hlt : n < k
      · have h255 := hn2 (k - 1) (by omega) (by omega)
        have t1 : ((s[k - 1].toNat : Int) == 255) = true := by simp [h255]
        clear h255 hn2 hn3
        go_wp2
        go_round
        case rel => exact ⟨k - 1, by omega, by omega, by go_num⟩
        case measure => simp [intOf]; omega
      · obtain rfl : n = k := by omega
        have h255 := hn3 (by omega) h0
        have t1 : ((s[n - 1].toNat : Int) == 255) = false := by simp; omega
        have hb : s[n - 1].toNat < 256 := s[n - 1].toNat_lt
        have hcv := convK (w.alloc (.cells #[.int .u8 (((s[n - 1].toNat : Int) + 1) % 256)] 5)).drew w.heap.size (s[n - 1].toNat + 1) (by omega) (((s[n - 1].toNat : Int) + 1) % 256) (by omega) (by simp)
        have E := hidK (show abv s n = s.extract 0 (n - 1) ++ ⟨#[s[n - 1] + 1]⟩ from dif_pos ⟨h0, by omega⟩)
        clear h255 hn2 hn3
        go_wp2_with fail
        go_region
        go_wp2
        go_ret
        refine ⟨by rw [unhidK E]; rfl, ((Below.refl _ _).alloc (Nat.le_refl _) _).drew⟩
    · obtain rfl : k = 0 := by omega
      obtain rfl : n = 0 := by omega
      have E := hidK (show abv s 0 = ⟨#[]⟩ from dif_neg (by omega))
      clear hn2 hn3
      go_wp2
      go_ret
      exact ⟨by rw [unhidK E]; rfl, Below.refl _ _⟩

theorem implKeyAbove_any (w : World) (s : ByteArray) (hs : s.size ≤ 1048576) (n : Nat) (hn : AbN s n) : Calls Try.prog 41 #[.string s] w fun e w' => e = .returned (.string (abv s n)) ∧ Below w.heap.size w w' := by
  obtain ⟨hn1, hn2, hn3⟩ := hn
  go_enter Try.func41, Try.ntmps41
  go_wp2
  go_loop [3] (fun i => ∃ k : Nat, n ≤ k ∧ k ≤ s.size ∧ i = .int .i64 k) (fun i => (intOf i).toNat)
  case atStart => exact ⟨s.size, hn1, Nat.le_refl _, rfl⟩
  case round =>
    obtain ⟨k, hnk, hk, rfl⟩ := hrel
    by_cases h0 : 0 < k
    · have t0 : decide (0 < (k : Int)) = true := by simpa using h0
      by_cases hlt : n < k
      · have h255 := hn2 (k - 1) (by omega) (by omega)
        have t1 : ((s[k - 1].toNat : Int) == 255) = true := by simp [h255]
        clear h255 hn2 hn3
        go_wp2
        go_round
        case rel => exact ⟨k - 1, by omega, by omega, by go_num⟩
        case measure => simp [intOf]; omega
      · obtain rfl : n = k := by omega
        have h255 := hn3 (by omega) h0
        have t1 : ((s[n - 1].toNat : Int) == 255) = false := by simp; omega
        have hb : s[n - 1].toNat < 256 := s[n - 1].toNat_lt
        have hcv := convK (w.alloc (.cells #[.int .u8 (((s[n - 1].toNat : Int) + 1) % 256)] 5)).drew w.heap.size (s[n - 1].toNat + 1) (by omega) (((s[n - 1].toNat : Int) + 1) % 256) (by omega) (by simp)
        have E := hidK (show abv s n = s.extract 0 (n - 1) ++ ⟨#[s[n - 1] + 1]⟩ from dif_pos ⟨h0, by omega⟩)
        clear h255 hn2 hn3
        go_wp2_with fail
        go_region
        go_wp2
        go_ret
        refine ⟨by rw [unhidK E]; rfl, ((Below.refl _ _).alloc (Nat.le_refl _) _).drew⟩
    · obtain rfl : k = 0 := by omega
      obtain rfl : n = 0 := by omega
      have E := hidK (show abv s 0 = ⟨#[]⟩ from dif_neg (by omega))
      clear hn2 hn3
      go_wp2
      go_ret
      exact ⟨by rw [unhidK E]; rfl, Below.refl _ _⟩

end Go.Proofs.Ytekmbpkbnknbeaa
