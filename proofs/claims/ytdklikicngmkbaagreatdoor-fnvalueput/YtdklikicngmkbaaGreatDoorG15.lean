/- A value as a text: the specification's l4Put, by contracts. What a number is written as, by its figures: plain mathematics. How many figures numbers have: plain mathematics. Figures of numbers, read and written. Plain mathematics. -/
import Derived.Test.YtdklikicngmkbaaGreatDoorG05
import Derived.Test.YtdklikicngmkbaaGreatDoorVlS
import Derived.Test.YtdklikicngmkbaaGreatDoorG09
import Derived.Test.YtdklikicngmkbaaGreatDoorDcP0
import Derived.Test.YtdklikicngmkbaaGreatDoorG13
import Derived.Test.YtdklikicngmkbaaGreatDoorG14
import Derived.Test.YtdklikicngmkbaaGreatDoorG06
import Derived.Lib.AtoiAllCases
namespace Go.Proofs.YtdklikicngmkbaaGreatDoor
open Go.RowKit
set_option maxRecDepth 100000
set_option linter.unusedSimpArgs false
set_option linter.unusedVariables false

/-- The text of a truth. -/
def truT (y : Bool) : ByteArray := if y = true then ⟨#[116, 114, 117, 101]⟩ else ⟨#[102, 97, 108, 115, 101]⟩
/-- The text of a value of a kind. -/
def putR (k : Int) (y n : Bool) (l : List Int) (sc d mo da : Int) (t : ByteArray) : ByteArray :=
  if k = 0 then ⟨#[110, 117, 108, 108]⟩ else if k = 1 then truT y else if k = 2 then decT n l sc.toNat else if k = 3 then ⟨#[64]⟩ ++ dayT d else if k = 4 then ⟨#[35]⟩ ++ spanT mo da else quoteT t

theorem dayT_small {d : Int} (h1 : 1 ≤ d) (h2 : d ≤ 3652059) : (dayT d).size ≤ 100 := by
  have := dayT_size (n := d) ⟨h1, h2⟩
  omega

theorem spanT_little {m d : Int} (h : SpanIs m d) : (spanT m d).size ≤ 500 := by
  obtain ⟨⟨h1, h2⟩, h3, h4⟩ := h
  have s1 := itxt_size (n := m) (by omega) (by omega)
  have s2 := itxt_size (n := d) (by omega) (by omega)
  unfold spanT
  rw [ByteArray.size_append, ByteArray.size_append, ByteArray.size_append]
  have : (⟨#[109]⟩ : ByteArray).size = 1 := rfl
  have : (⟨#[100]⟩ : ByteArray).size = 1 := rfl
  omega

theorem l4Says_1 (w : World) (y n : Bool) (ao : Option Addr) (l : List Int) (cap : Nat) (sc d mo da : Int) (t : ByteArray) : Calls Tryz.prog 71 #[.agg #[.int .i64 1, .bool y, .bool n, .slice ao l.length cap, .int .i64 sc, .int .i64 d, .int .i64 mo, .int .i64 da, .string t]] w fun e w' => e = .returned (.string (truT y)) ∧ Below w.heap.size w w' := by
  have B0 : Below w.heap.size w (w.alloc (.cells #[.int .i64 1, .bool y, .bool n, .slice ao l.length cap, .int .i64 sc, .int .i64 d, .int .i64 mo, .int .i64 da, .string t] 31)) := (Below.refl _ _).alloc (Nat.le_refl _) _
  cases y
  all_goals
    go_enter Tryz.func71, Tryz.ntmps71
    go_wp2
    go_ret
    exact ⟨rfl, B0⟩

theorem l4Says_2 (w : World) (y n : Bool) (ao : Option Addr) (l : List Int) (cap : Nat) (sc d mo da : Int) (t : ByteArray) (hr : Reads w (.slice ao l.length cap) l) (hd : decB n l sc = true) : Calls Tryz.prog 71 #[.agg #[.int .i64 2, .bool y, .bool n, .slice ao l.length cap, .int .i64 sc, .int .i64 d, .int .i64 mo, .int .i64 da, .string t]] w fun e w' => e = .returned (.string (decT n l sc.toNat)) ∧ Below w.heap.size w w' := by
  have B0 : Below w.heap.size w (w.alloc (.cells #[.int .i64 2, .bool y, .bool n, .slice ao l.length cap, .int .i64 sc, .int .i64 d, .int .i64 mo, .int .i64 da, .string t] 31)) := (Below.refl _ _).alloc (Nat.le_refl _) _
  obtain ⟨ho, h30, hs0, hs1⟩ := decB_iff.1 hd
  obtain ⟨s, rfl⟩ := Int.eq_ofNat_of_zero_le hs0
  have C := hide (fun W (b : Below w.heap.size w W) => l2Put_any W n (.slice ao l.length cap) l s (hr.later b) ho.2.1 (by have := ho.1; omega) (by omega) (by omega))
  have E : ((s : Nat) : Int).toNat = s := Int.toNat_natCast s
  rw [E]
  clear hd ho h30 hs0 hs1 hr E
  go_enter Tryz.func71, Tryz.ntmps71
  go_wp2_with fail
  refine (unhide C _ B0).mono ?_
  rintro e w1 ⟨rfl, b1⟩
  go_wp2
  go_ret
  exact ⟨rfl, B0.trans (b1.mono B0.size)⟩

set_option maxHeartbeats 1000000 in
theorem l4Put_0 (w : World) (y n : Bool) (ao : Option Addr) (l : List Int) (cap : Nat) (sc d mo da : Int) (t : ByteArray) : Calls Tryz.prog 34 #[.agg #[.int .i64 0, .bool y, .bool n, .slice ao l.length cap, .int .i64 sc, .int .i64 d, .int .i64 mo, .int .i64 da, .string t]] w fun e w' => e = .returned (.string ⟨#[110, 117, 108, 108]⟩) ∧ Below w.heap.size w w' := by
  have B0 : Below w.heap.size w (w.alloc (.cells #[.int .i64 0, .bool y, .bool n, .slice ao l.length cap, .int .i64 sc, .int .i64 d, .int .i64 mo, .int .i64 da, .string t] 31)) := (Below.refl _ _).alloc (Nat.le_refl _) _
  go_enter Tryz.func34, Tryz.ntmps34
  go_wp2
  go_ret
  exact ⟨rfl, B0⟩

set_option maxHeartbeats 1000000 in
theorem l4Put_1 (w : World) (y n : Bool) (ao : Option Addr) (l : List Int) (cap : Nat) (sc d mo da : Int) (t : ByteArray) : Calls Tryz.prog 34 #[.agg #[.int .i64 1, .bool y, .bool n, .slice ao l.length cap, .int .i64 sc, .int .i64 d, .int .i64 mo, .int .i64 da, .string t]] w fun e w' => e = .returned (.string (truT y)) ∧ Below w.heap.size w w' := by
  have B0 : Below w.heap.size w (w.alloc (.cells #[.int .i64 1, .bool y, .bool n, .slice ao l.length cap, .int .i64 sc, .int .i64 d, .int .i64 mo, .int .i64 da, .string t] 31)) := (Below.refl _ _).alloc (Nat.le_refl _) _
  have C := hide (fun W => l4Says_1 W y n ao l cap sc d mo da t)
  go_enter Tryz.func34, Tryz.ntmps34
  go_wp2_with fail
  refine (unhide C _).mono ?_
  rintro e w1 ⟨rfl, b1⟩
  go_wp2
  go_ret
  exact ⟨rfl, B0.trans (b1.mono B0.size)⟩

set_option maxHeartbeats 1000000 in
theorem l4Put_2 (w : World) (y n : Bool) (ao : Option Addr) (l : List Int) (cap : Nat) (sc d mo da : Int) (t : ByteArray) (hr : Reads w (.slice ao l.length cap) l) (hd : decB n l sc = true) : Calls Tryz.prog 34 #[.agg #[.int .i64 2, .bool y, .bool n, .slice ao l.length cap, .int .i64 sc, .int .i64 d, .int .i64 mo, .int .i64 da, .string t]] w fun e w' => e = .returned (.string (decT n l sc.toNat)) ∧ Below w.heap.size w w' := by
  have B0 : Below w.heap.size w (w.alloc (.cells #[.int .i64 2, .bool y, .bool n, .slice ao l.length cap, .int .i64 sc, .int .i64 d, .int .i64 mo, .int .i64 da, .string t] 31)) := (Below.refl _ _).alloc (Nat.le_refl _) _
  have C := hide (fun W (b : Below w.heap.size w W) => l4Says_2 W y n ao l cap sc d mo da t (hr.later b) hd)
  clear hr hd
  go_enter Tryz.func34, Tryz.ntmps34
  go_wp2_with fail
  refine (unhide C _ B0).mono ?_
  rintro e w1 ⟨rfl, b1⟩
  go_wp2
  go_ret
  exact ⟨rfl, B0.trans (b1.mono B0.size)⟩

set_option maxHeartbeats 1000000 in
theorem l4Put_3 (w : World) (y n : Bool) (ao : Option Addr) (l : List Int) (cap : Nat) (sc d mo da : Int) (t : ByteArray) (h1 : 1 ≤ d) (h2 : d ≤ 3652059) : Calls Tryz.prog 34 #[.agg #[.int .i64 3, .bool y, .bool n, .slice ao l.length cap, .int .i64 sc, .int .i64 d, .int .i64 mo, .int .i64 da, .string t]] w fun e w' => e = .returned (.string (⟨#[64]⟩ ++ dayT d)) ∧ Below w.heap.size w w' := by
  have B0 : Below w.heap.size w (w.alloc (.cells #[.int .i64 3, .bool y, .bool n, .slice ao l.length cap, .int .i64 sc, .int .i64 d, .int .i64 mo, .int .i64 da, .string t] 31)) := (Below.refl _ _).alloc (Nat.le_refl _) _
  have C := hide (fun W => l3Put_any W d h1 h2)
  have hz : ¬ (9223372036854775807 < 1 + (dayT d).size) := by
    have := dayT_small h1 h2
    omega
  clear h1 h2
  generalize dayT d = T at *
  go_enter Tryz.func34, Tryz.ntmps34
  go_wp2_with fail
  refine (unhide C _).mono ?_
  rintro e w1 ⟨rfl, b1⟩
  go_wp2
  go_ret
  exact ⟨rfl, B0.trans (b1.mono B0.size)⟩

set_option maxHeartbeats 1000000 in
theorem l4Put_4 (w : World) (y n : Bool) (ao : Option Addr) (l : List Int) (cap : Nat) (sc d mo da : Int) (t : ByteArray) (h : SpanIs mo da) : Calls Tryz.prog 34 #[.agg #[.int .i64 4, .bool y, .bool n, .slice ao l.length cap, .int .i64 sc, .int .i64 d, .int .i64 mo, .int .i64 da, .string t]] w fun e w' => e = .returned (.string (⟨#[35]⟩ ++ spanT mo da)) ∧ Below w.heap.size w w' := by
  have B0 : Below w.heap.size w (w.alloc (.cells #[.int .i64 4, .bool y, .bool n, .slice ao l.length cap, .int .i64 sc, .int .i64 d, .int .i64 mo, .int .i64 da, .string t] 31)) := (Below.refl _ _).alloc (Nat.le_refl _) _
  have C := hide (fun W => l3SpanPut_any W mo da (by unfold SpanIs at h; omega) (by unfold SpanIs at h; omega))
  have hz : ¬ (9223372036854775807 < 1 + (spanT mo da).size) := by
    have := spanT_little h
    omega
  clear h
  generalize spanT mo da = T at *
  go_enter Tryz.func34, Tryz.ntmps34
  go_wp2_with fail
  refine (unhide C _).mono ?_
  rintro e w1 ⟨rfl, b1⟩
  go_wp2
  go_ret
  exact ⟨rfl, B0.trans (b1.mono B0.size)⟩

set_option maxHeartbeats 1000000 in
theorem l4Put_5 (w : World) (y n : Bool) (ao : Option Addr) (l : List Int) (cap : Nat) (sc d mo da : Int) (t : ByteArray) (ht : t.size ≤ 100000) : Calls Tryz.prog 34 #[.agg #[.int .i64 5, .bool y, .bool n, .slice ao l.length cap, .int .i64 sc, .int .i64 d, .int .i64 mo, .int .i64 da, .string t]] w fun e w' => e = .returned (.string (quoteT t)) ∧ Below w.heap.size w w' := by
  have B0 : Below w.heap.size w (w.alloc (.cells #[.int .i64 5, .bool y, .bool n, .slice ao l.length cap, .int .i64 sc, .int .i64 d, .int .i64 mo, .int .i64 da, .string t] 31)) := (Below.refl _ _).alloc (Nat.le_refl _) _
  have C := hide (fun W => l4Quote_any W t ht)
  clear ht
  go_enter Tryz.func34, Tryz.ntmps34
  go_wp2_with fail
  refine (unhide C _).mono ?_
  rintro e w1 ⟨rfl, b1⟩
  go_wp2
  go_ret
  exact ⟨rfl, B0.trans (b1.mono B0.size)⟩

end Go.Proofs.YtdklikicngmkbaaGreatDoor

namespace Go.Proofs.YtdklikicngmkbaaGreatDoor


theorem dec_step (n : Nat) (h : 10 ≤ n) : Lib.decDigits n = Lib.decDigits (n / 10) ++ [UInt8.ofNat (48 + n % 10)] := by
  rw [Lib.decDigits, dif_neg (by omega)]

theorem dec_limb {n : Nat} (h : 10000 ≤ n) : Lib.decDigits n = Lib.decDigits (n / 10000) ++ limbT ((n % 10000 : Nat) : Int) := by
  rw [dec_step n (by omega), dec_step (n / 10) (by omega), dec_step (n / 10 / 10) (by omega), dec_step (n / 10 / 10 / 10) (by omega), limbT_eq (by omega) (by omega)]
  rw [show n / 10 / 10 / 10 / 10 = n / 10000 by omega, show n / 10 / 10 / 10 % 10 = ((n % 10000 : Nat) : Int).toNat / 1000 % 10 by omega, show n / 10 / 10 % 10 = ((n % 10000 : Nat) : Int).toNat / 100 % 10 by omega, show n / 10 % 10 = ((n % 10000 : Nat) : Int).toNat / 10 % 10 by omega, show n % 10 = ((n % 10000 : Nat) : Int).toNat % 10 by omega]
  simp

theorem txt_cons {x : Int} {l : List Int} (h : l ≠ []) : txtL (x :: l) = txtL l ++ limbT x := by
  have hl : 0 < l.length := List.length_pos_iff.2 h
  unfold txtL
  rw [if_neg (by simp), if_neg h, txtAt_step (by simp; omega)]
  congr 1
  unfold txtAt
  have e : (x :: l).getD ((x :: l).length - 1) 0 = l.getD (l.length - 1) 0 := by
    obtain ⟨k, hk⟩ : ∃ k, l.length = k + 1 := ⟨l.length - 1, by omega⟩
    simp [hk]
  rw [e]
  simp

/-- The text of limbs is that of the number. -/
theorem txt_dec (n : Nat) : txtL (L n) = Lib.decDigits n := by
  induction n using Nat.strongRecOn with
  | ind n ih =>
    by_cases h0 : n = 0
    · subst h0
      rw [L_zero, dd1 (by omega)]
      rfl
    · by_cases h1 : n < 10000
      · rw [L_pos (Nat.pos_of_ne_zero h0), show n / 10000 = 0 by omega, L_zero, show n % 10000 = n by omega]
        unfold txtL txtAt
        simp
      · have hne : L (n / 10000) ≠ [] := fun e => by have := L_nil.1 e; omega
        rw [L_pos (Nat.pos_of_ne_zero h0), txt_cons hne, ih (n / 10000) (by omega), ← dec_limb (n := n) (by omega)]

end Go.Proofs.YtdklikicngmkbaaGreatDoor

namespace Go.Proofs.YtdklikicngmkbaaGreatDoor


theorem dec_pos (n : Nat) : 0 < (Lib.decDigits n).length := by
  by_cases h : n < 10
  · rw [dd1 h]
    simp
  · rw [dec_step n (by omega)]
    simp

theorem dec_len (n k : Nat) (hk : 0 < k) : n < 10 ^ k ↔ (Lib.decDigits n).length ≤ k := by
  induction k generalizing n with
  | zero => omega
  | succ k ih =>
    by_cases h : n < 10
    · rw [dd1 h]
      simp
      have : 10 ^ 1 ≤ 10 ^ (k + 1) := Nat.pow_le_pow_right (by decide) (by omega)
      omega
    · rw [dec_step n (by omega), List.length_append, List.length_singleton]
      by_cases k0 : k = 0
      · subst k0
        have hp := dec_pos (n / 10)
        rw [show (10 : Nat) ^ (0 + 1) = 10 from rfl]
        omega
      · have := ih (n / 10) (by omega)
        rw [Nat.pow_succ]
        omega

theorem dec_mono {a b : Nat} (h : a ≤ b) : (Lib.decDigits a).length ≤ (Lib.decDigits b).length := by
  have hp := dec_pos b
  have := (dec_len b (Lib.decDigits b).length hp).2 (Nat.le_refl _)
  exact (dec_len a _ hp).1 (by omega)

end Go.Proofs.YtdklikicngmkbaaGreatDoor

namespace Go.Proofs.YtdklikicngmkbaaGreatDoor
open Go.RowKit

/-- The number that figures are. -/
def val10 (l : List UInt8) : Nat := l.foldl (fun a c => a * 10 + (c.toNat - 48)) 0

theorem val10_snoc (l : List UInt8) (c : UInt8) : val10 (l ++ [c]) = val10 l * 10 + (c.toNat - 48) := by
  unfold val10
  rw [List.foldl_append]
  rfl

def IsD (c : UInt8) : Prop := 48 ≤ c.toNat ∧ c.toNat ≤ 57

theorem of_nat48 {n : Nat} (h : n < 10) : (UInt8.ofNat (48 + n)).toNat = 48 + n := by
  rw [UInt8.toNat_ofNat']
  omega

theorem nat48_of {c : UInt8} (h : IsD c) : UInt8.ofNat (48 + (c.toNat - 48)) = c := by
  unfold IsD at h
  apply UInt8.toNat_inj.1
  rw [of_nat48 (by omega)]
  omega

theorem dd_all : ∀ n : Nat, (∀ c ∈ Lib.decDigits n, IsD c) ∧ val10 (Lib.decDigits n) = n ∧ Lib.decDigits n ≠ [] ∧ (0 < n → (Lib.decDigits n).head? ≠ some 48)
  | n => by
    by_cases h : n < 10
    · rw [dd1 h]
      refine ⟨fun c hc => ?_, ?_, by simp, fun h0 e => ?_⟩
      · simp only [List.mem_singleton] at hc
        subst hc
        unfold IsD
        rw [of_nat48 h]
        omega
      · show (0 * 10 + ((UInt8.ofNat (48 + n)).toNat - 48)) = n
        rw [of_nat48 h]
        omega
      · simp only [List.head?_cons, Option.some.injEq] at e
        have := congrArg UInt8.toNat e
        rw [of_nat48 h, show (48 : UInt8).toNat = 48 from rfl] at this
        omega
    · obtain ⟨a, b, c, d⟩ := dd_all (n / 10)
      rw [dec_step n (by omega)]
      refine ⟨fun x hx => ?_, ?_, by simp, fun _ => ?_⟩
      · rcases List.mem_append.1 hx with hx | hx
        · exact a x hx
        · simp only [List.mem_singleton] at hx
          subst hx
          unfold IsD
          rw [of_nat48 (by omega)]
          omega
      · rw [val10_snoc, b, of_nat48 (by omega)]
        omega
      · have := d (by omega)
        cases hd : Lib.decDigits (n / 10) with
        | nil => exact absurd hd c
        | cons y r =>
          rw [hd] at this
          simpa using this
termination_by n => n

theorem snoc_of {l : List UInt8} (h : l ≠ []) : ∃ r c, l = r ++ [c] := ⟨l.dropLast, l.getLast h, (List.dropLast_concat_getLast h).symm⟩

theorem dd_back : ∀ (k : Nat) (l : List UInt8), l.length = k + 1 → (∀ c ∈ l, IsD c) → (l.length = 1 ∨ l.head? ≠ some 48) → Lib.decDigits (val10 l) = l ∧ (l.head? ≠ some 48 → 0 < val10 l)
  | 0, l, hl, hd, _ => by
    obtain ⟨c, rfl⟩ := List.length_eq_one_iff.1 hl
    have h := hd c (by simp)
    have e : val10 [c] = c.toNat - 48 := by show 0 * 10 + (c.toNat - 48) = _; omega
    rw [e]
    have h' := h
    unfold IsD at h'
    refine ⟨by rw [dd1 (by omega), nat48_of h], fun k => ?_⟩
    have : c.toNat ≠ 48 := fun e => k (by simp only [List.head?_cons, Option.some.injEq]; exact UInt8.toNat_inj.1 e)
    omega
  | k + 1, l, hl, hd, hh => by
    obtain ⟨r, c, rfl⟩ := snoc_of (l := l) (fun e => by subst e; simp at hl)
    have hr : r.length = k + 1 := by simpa using hl
    have hc := hd c (by simp)
    have hc' := hc
    unfold IsD at hc'
    have hhead : (r ++ [c]).head? = r.head? := by
      cases r with
      | nil => simp at hr
      | cons y z => rfl
    have h48 : r.head? ≠ some 48 := by
      rcases hh with hh | hh
      · rw [hl] at hh; omega
      · rwa [hhead] at hh
    obtain ⟨e1, e2⟩ := dd_back k r hr (fun x hx => hd x (by simp [hx])) (.inr h48)
    have hp := e2 h48
    rw [val10_snoc]
    refine ⟨?_, fun _ => by omega⟩
    rw [dec_step _ (by omega), show (val10 r * 10 + (c.toNat - 48)) / 10 = val10 r by omega, show (val10 r * 10 + (c.toNat - 48)) % 10 = c.toNat - 48 by omega, e1, nat48_of hc]

theorem parse_all : ∀ (l : List UInt8) (acc : Nat), (∀ c ∈ l, IsD c) → (acc + 1) * 10 ^ l.length ≤ 10 ^ 18 → Lib.parseUint10 acc l = .ok (l.foldl (fun a c => a * 10 + (c.toNat - 48)) acc)
  | [], _, _, _ => rfl
  | c :: r, acc, hd, hb => by
    have h := hd c (by simp)
    unfold IsD at h
    have hp : 0 < 10 ^ r.length := Nat.pow_pos (by decide)
    rw [List.length_cons, Nat.pow_succ, Nat.mul_comm (10 ^ r.length) 10, ← Nat.mul_assoc] at hb
    have h1 : (acc + 1) * 10 ≤ 10 ^ 18 := Nat.le_trans (Nat.le_mul_of_pos_right _ hp) hb
    have h2 : (acc * 10 + (c.toNat - 48) + 1) * 10 ^ r.length ≤ 10 ^ 18 := Nat.le_trans (Nat.mul_le_mul_right _ (by omega)) hb
    rw [Lib.parseUint10, if_pos ⟨h.1, h.2⟩, if_neg (by omega), if_neg (by omega), parse_all r _ (fun x hx => hd x (by simp [hx])) h2]
    rfl

theorem numB_dd {n : Nat} (h : n < 10 ^ 17) : numB (Lib.decDigits n) = n := by
  obtain ⟨a, b, c, -⟩ := dd_all n
  have hlen := (dec_len n 17 (by decide)).1 h
  have e : Lib.parseMag (Lib.decDigits n) = .ok n := by
    unfold Lib.parseMag
    rw [if_neg c, parse_all _ 0 a (by rw [Nat.zero_add, Nat.one_mul]; exact Nat.pow_le_pow_right (by decide) (by omega))]
    exact congrArg Lib.NumEnd.ok b
  cases hd : Lib.decDigits n with
  | nil => exact absurd hd c
  | cons x r =>
    have hx := a x (by rw [hd]; simp)
    unfold IsD at hx
    rw [hd] at e
    unfold numB
    rw [Lib.atoiAll_plain _ _ (by omega) (by omega), e]
    unfold Lib.signless
    simp only
    rw [if_neg (by omega)]

theorem numB_itoa {m : Int} (h : m.natAbs < 10 ^ 17) : numB (Lib.itoa m) = m := by
  by_cases hm : 0 ≤ m
  · obtain ⟨n, rfl⟩ := Int.eq_ofNat_of_zero_le hm
    rw [Lib.itoa_nonneg]
    exact numB_dd (by simpa using h)
  · obtain ⟨n, hn⟩ := Int.eq_ofNat_of_zero_le (show 0 ≤ -m by omega)
    obtain rfl : m = -(n : Int) := by omega
    rw [Lib.itoa_neg n (by omega)]
    have hn' : n < 10 ^ 17 := by simpa using h
    obtain ⟨a, b, c, -⟩ := dd_all n
    have hlen := (dec_len n 17 (by decide)).1 hn'
    have e : Lib.parseMag (Lib.decDigits n) = .ok n := by
      unfold Lib.parseMag
      rw [if_neg c, parse_all _ 0 a (by rw [Nat.zero_add, Nat.one_mul]; exact Nat.pow_le_pow_right (by decide) (by omega))]
      exact congrArg Lib.NumEnd.ok b
    unfold numB
    rw [Lib.atoiAll_minus, e]
    unfold Lib.signed
    simp only
    rw [if_neg (by omega)]

end Go.Proofs.YtdklikicngmkbaaGreatDoor
