/- Figures of numbers, read and written. Plain mathematics. -/
import Derived.Test.YtnfalniijmccjaaDoorDecL
import Derived.Test.YtnfalniijmccjaaDoorNbA
import Derived.Test.YtnfalniijmccjaaDoorItx
import Derived.Lib.AtoiAllCases
namespace Go.Proofs.YtnfalniijmccjaaDoor
open Go.RowKit

/-- The number that figures are. -/
def val10 (l : List UInt8) : Nat := l.foldl (fun a c => a * 10 + (c.toNat - 48)) 0

theorem val10_snoc (l : List UInt8) (c : UInt8) : val10 (l ++ [c]) = val10 l * 10 + (c.toNat - 48) := by
  unfold val10
  rw [List.foldl_append]
  rfl

def IsD (c : UInt8) : Prop := 48 ≤ c.toNat ∧ c.toNat ≤ 57

theorem of_nat48 {n : Nat} (h : n < 10) : (UInt8.ofNat (48 + n)).toNat = 48 + n := by
  rw [UInt8.toNat_ofNat']
  omega

theorem nat48_of {c : UInt8} (h : IsD c) : UInt8.ofNat (48 + (c.toNat - 48)) = c := by
  unfold IsD at h
  apply UInt8.toNat_inj.1
  rw [of_nat48 (by omega)]
  omega

theorem dd_all : ∀ n : Nat, (∀ c ∈ Lib.decDigits n, IsD c) ∧ val10 (Lib.decDigits n) = n ∧ Lib.decDigits n ≠ [] ∧ (0 < n → (Lib.decDigits n).head? ≠ some 48)
  | n => by
    by_cases h : n < 10
    · rw [dd1 h]
      refine ⟨fun c hc => ?_, ?_, by simp, fun h0 e => ?_⟩
      · simp only [List.mem_singleton] at hc
        subst hc
        unfold IsD
        rw [of_nat48 h]
        omega
      · show (0 * 10 + ((UInt8.ofNat (48 + n)).toNat - 48)) = n
        rw [of_nat48 h]
        omega
      · simp only [List.head?_cons, Option.some.injEq] at e
        have := congrArg UInt8.toNat e
        rw [of_nat48 h, show (48 : UInt8).toNat = 48 from rfl] at this
        omega
    · obtain ⟨a, b, c, d⟩ := dd_all (n / 10)
      rw [dec_step n (by omega)]
      refine ⟨fun x hx => ?_, ?_, by simp, fun _ => ?_⟩
      · rcases List.mem_append.1 hx with hx | hx
        · exact a x hx
        · simp only [List.mem_singleton] at hx
          subst hx
          unfold IsD
          rw [of_nat48 (by omega)]
          omega
      · rw [val10_snoc, b, of_nat48 (by omega)]
        omega
      · have := d (by omega)
        cases hd : Lib.decDigits (n / 10) with
        | nil => exact absurd hd c
        | cons y r =>
          rw [hd] at this
          simpa using this
termination_by n => n

theorem snoc_of {l : List UInt8} (h : l ≠ []) : ∃ r c, l = r ++ [c] := ⟨l.dropLast, l.getLast h, (List.dropLast_concat_getLast h).symm⟩

theorem dd_back : ∀ (k : Nat) (l : List UInt8), l.length = k + 1 → (∀ c ∈ l, IsD c) → (l.length = 1 ∨ l.head? ≠ some 48) → Lib.decDigits (val10 l) = l ∧ (l.head? ≠ some 48 → 0 < val10 l)
  | 0, l, hl, hd, _ => by
    obtain ⟨c, rfl⟩ := List.length_eq_one_iff.1 hl
    have h := hd c (by simp)
    have e : val10 [c] = c.toNat - 48 := by show 0 * 10 + (c.toNat - 48) = _; omega
    rw [e]
    have h' := h
    unfold IsD at h'
    refine ⟨by rw [dd1 (by omega), nat48_of h], fun k => ?_⟩
    have : c.toNat ≠ 48 := fun e => k (by simp only [List.head?_cons, Option.some.injEq]; exact UInt8.toNat_inj.1 e)
    omega
  | k + 1, l, hl, hd, hh => by
    obtain ⟨r, c, rfl⟩ := snoc_of (l := l) (fun e => by subst e; simp at hl)
    have hr : r.length = k + 1 := by simpa using hl
    have hc := hd c (by simp)
    have hc' := hc
    unfold IsD at hc'
    have hhead : (r ++ [c]).head? = r.head? := by
      cases r with
      | nil => simp at hr
      | cons y z => rfl
    have h48 : r.head? ≠ some 48 := by
      rcases hh with hh | hh
      · rw [hl] at hh; omega
      · rwa [hhead] at hh
    obtain ⟨e1, e2⟩ := dd_back k r hr (fun x hx => hd x (by simp [hx])) (.inr h48)
    have hp := e2 h48
    rw [val10_snoc]
    refine ⟨?_, fun _ => by omega⟩
    rw [dec_step _ (by omega), show (val10 r * 10 + (c.toNat - 48)) / 10 = val10 r by omega, show (val10 r * 10 + (c.toNat - 48)) % 10 = c.toNat - 48 by omega, e1, nat48_of hc]

theorem parse_all : ∀ (l : List UInt8) (acc : Nat), (∀ c ∈ l, IsD c) → (acc + 1) * 10 ^ l.length ≤ 10 ^ 18 → Lib.parseUint10 acc l = .ok (l.foldl (fun a c => a * 10 + (c.toNat - 48)) acc)
  | [], _, _, _ => rfl
  | c :: r, acc, hd, hb => by
    have h := hd c (by simp)
    unfold IsD at h
    have hp : 0 < 10 ^ r.length := Nat.pow_pos (by decide)
    rw [List.length_cons, Nat.pow_succ, Nat.mul_comm (10 ^ r.length) 10, ← Nat.mul_assoc] at hb
    have h1 : (acc + 1) * 10 ≤ 10 ^ 18 := Nat.le_trans (Nat.le_mul_of_pos_right _ hp) hb
    have h2 : (acc * 10 + (c.toNat - 48) + 1) * 10 ^ r.length ≤ 10 ^ 18 := Nat.le_trans (Nat.mul_le_mul_right _ (by omega)) hb
    rw [Lib.parseUint10, if_pos ⟨h.1, h.2⟩, if_neg (by omega), if_neg (by omega), parse_all r _ (fun x hx => hd x (by simp [hx])) h2]
    rfl

theorem numB_dd {n : Nat} (h : n < 10 ^ 17) : numB (Lib.decDigits n) = n := by
  obtain ⟨a, b, c, -⟩ := dd_all n
  have hlen := (dec_len n 17 (by decide)).1 h
  have e : Lib.parseMag (Lib.decDigits n) = .ok n := by
    unfold Lib.parseMag
    rw [if_neg c, parse_all _ 0 a (by rw [Nat.zero_add, Nat.one_mul]; exact Nat.pow_le_pow_right (by decide) (by omega))]
    exact congrArg Lib.NumEnd.ok b
  cases hd : Lib.decDigits n with
  | nil => exact absurd hd c
  | cons x r =>
    have hx := a x (by rw [hd]; simp)
    unfold IsD at hx
    rw [hd] at e
    unfold numB
    rw [Lib.atoiAll_plain _ _ (by omega) (by omega), e]
    unfold Lib.signless
    simp only
    rw [if_neg (by omega)]

theorem numB_itoa {m : Int} (h : m.natAbs < 10 ^ 17) : numB (Lib.itoa m) = m := by
  by_cases hm : 0 ≤ m
  · obtain ⟨n, rfl⟩ := Int.eq_ofNat_of_zero_le hm
    rw [Lib.itoa_nonneg]
    exact numB_dd (by simpa using h)
  · obtain ⟨n, hn⟩ := Int.eq_ofNat_of_zero_le (show 0 ≤ -m by omega)
    obtain rfl : m = -(n : Int) := by omega
    rw [Lib.itoa_neg n (by omega)]
    have hn' : n < 10 ^ 17 := by simpa using h
    obtain ⟨a, b, c, -⟩ := dd_all n
    have hlen := (dec_len n 17 (by decide)).1 hn'
    have e : Lib.parseMag (Lib.decDigits n) = .ok n := by
      unfold Lib.parseMag
      rw [if_neg c, parse_all _ 0 a (by rw [Nat.zero_add, Nat.one_mul]; exact Nat.pow_le_pow_right (by decide) (by omega))]
      exact congrArg Lib.NumEnd.ok b
    unfold numB
    rw [Lib.atoiAll_minus, e]
    unfold Lib.signed
    simp only
    rw [if_neg (by omega)]

end Go.Proofs.YtnfalniijmccjaaDoor
