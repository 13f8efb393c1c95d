/- Figures of limbs: plain mathematics. -/
import Derived.Test.YtnegndajejhflaaDoorItx
namespace Go.Proofs.YtnegndajejhflaaDoor

/-- The four figures of a limb. -/
def limbT (x : Int) : List UInt8 := (Lib.decDigits (10000 + x).toNat).tail
/-- The figures of the limbs from a place on, the highest first. -/
def txtAt (l : List Int) (k : Nat) : List UInt8 := Lib.decDigits (l.getD (l.length - 1) 0).toNat ++ ((l.drop k).reverse.tail).flatMap limbT
/-- The text of limbs. -/
def txtL (l : List Int) : List UInt8 := if l = [] then [48] else txtAt l 0

theorem txtAt_top {l : List Int} (h : 0 < l.length) : txtAt l (l.length - 1) = Lib.decDigits (l.getD (l.length - 1) 0).toNat := by
  unfold txtAt
  have e : (l.drop (l.length - 1)).length = 1 := by rw [List.length_drop]; omega
  obtain ⟨x, hx⟩ := List.length_eq_one_iff.1 e
  rw [hx]
  simp

theorem txtAt_step {l : List Int} {k : Nat} (h : k + 1 < l.length) : txtAt l k = txtAt l (k + 1) ++ limbT l[k] := by
  unfold txtAt
  rw [List.drop_eq_getElem_cons (show k < l.length by omega), List.reverse_cons, List.append_assoc]
  congr 1
  have hne : (l.drop (k + 1)).reverse ≠ [] := by
    intro e
    have := congrArg List.length e
    simp at this
    omega
  rw [List.tail_append_of_ne_nil hne, List.flatMap_append]
  simp

theorem dd4 {u : Nat} (h1 : 10000 ≤ u) (h2 : u < 20000) : Lib.decDigits u = [49, UInt8.ofNat (48 + u / 1000 % 10), UInt8.ofNat (48 + u / 100 % 10), UInt8.ofNat (48 + u / 10 % 10), UInt8.ofNat (48 + u % 10)] := by
  rw [Lib.decDigits, dif_neg (by omega), Lib.decDigits, dif_neg (by omega), Lib.decDigits, dif_neg (by omega), Lib.decDigits, dif_neg (by omega), Lib.decDigits, dif_pos (by omega)]
  rw [show u / 10 / 10 / 10 / 10 = 1 by omega, show u / 10 / 10 / 10 % 10 = u / 1000 % 10 by omega, show u / 10 / 10 % 10 = u / 100 % 10 by omega]
  rfl

theorem limbT_eq {x : Int} (h0 : 0 ≤ x) (h1 : x < 10000) : limbT x = [UInt8.ofNat (48 + x.toNat / 1000 % 10), UInt8.ofNat (48 + x.toNat / 100 % 10), UInt8.ofNat (48 + x.toNat / 10 % 10), UInt8.ofNat (48 + x.toNat % 10)] := by
  unfold limbT
  rw [dd4 (by omega) (by omega), List.tail_cons]
  rw [show (10000 + x).toNat / 1000 % 10 = x.toNat / 1000 % 10 by omega, show (10000 + x).toNat / 100 % 10 = x.toNat / 100 % 10 by omega, show (10000 + x).toNat / 10 % 10 = x.toNat / 10 % 10 by omega, show (10000 + x).toNat % 10 = x.toNat % 10 by omega]

theorem limbT_len {x : Int} (h0 : 0 ≤ x) (h1 : x < 10000) : (limbT x).length = 4 := by rw [limbT_eq h0 h1]; rfl

/-- A number in so many figures at least, noughts ahead. -/
def wideT (n wide : Nat) : List UInt8 := List.replicate (wide - (Lib.decDigits n).length) 48 ++ Lib.decDigits n

theorem dd1 {u : Nat} (h : u < 10) : Lib.decDigits u = [UInt8.ofNat (48 + u)] := by rw [Lib.decDigits, dif_pos h]
theorem dd2 {u : Nat} (h1 : 10 ≤ u) (h2 : u < 100) : Lib.decDigits u = [UInt8.ofNat (48 + u / 10), UInt8.ofNat (48 + u % 10)] := by
  rw [Lib.decDigits, dif_neg (by omega), dd1 (by omega)]; rfl
theorem dd3 {u : Nat} (h1 : 100 ≤ u) (h2 : u < 1000) : Lib.decDigits u = [UInt8.ofNat (48 + u / 100), UInt8.ofNat (48 + u / 10 % 10), UInt8.ofNat (48 + u % 10)] := by
  rw [Lib.decDigits, dif_neg (by omega), dd2 (by omega) (by omega), show u / 10 / 10 = u / 100 by omega]; rfl
theorem dd4' {u : Nat} (h1 : 1000 ≤ u) (h2 : u < 10000) : Lib.decDigits u = [UInt8.ofNat (48 + u / 1000), UInt8.ofNat (48 + u / 100 % 10), UInt8.ofNat (48 + u / 10 % 10), UInt8.ofNat (48 + u % 10)] := by
  rw [Lib.decDigits, dif_neg (by omega), dd3 (by omega) (by omega), show u / 10 / 100 = u / 1000 by omega, show u / 10 / 10 % 10 = u / 100 % 10 by omega]; rfl

theorem wide_limb {x : Int} (h0 : 0 ≤ x) (h1 : x < 10000) : wideT x.toNat 4 = limbT x := by
  rw [limbT_eq h0 h1]
  unfold wideT
  have hu : x.toNat < 10000 := by omega
  generalize x.toNat = u at *
  by_cases a : u < 10
  · rw [dd1 a, show u / 1000 % 10 = 0 by omega, show u / 100 % 10 = 0 by omega, show u / 10 % 10 = 0 by omega, show u % 10 = u by omega]; rfl
  by_cases b : u < 100
  · rw [dd2 (by omega) b, show u / 1000 % 10 = 0 by omega, show u / 100 % 10 = 0 by omega, show u / 10 % 10 = u / 10 by omega]; rfl
  by_cases c : u < 1000
  · rw [dd3 (by omega) c, show u / 1000 % 10 = 0 by omega, show u / 100 % 10 = u / 100 by omega]; rfl
  · rw [dd4' (by omega) hu, show u / 1000 % 10 = u / 1000 by omega]; rfl

theorem dd_len_le {u : Nat} (h : u < 10000) : 1 ≤ (Lib.decDigits u).length ∧ (Lib.decDigits u).length ≤ 4 := by
  by_cases a : u < 10
  · rw [dd1 a]; simp
  by_cases b : u < 100
  · rw [dd2 (by omega) b]; simp
  by_cases c : u < 1000
  · rw [dd3 (by omega) c]; simp
  · rw [dd4' (by omega) h]; simp

theorem flat_len (l : List Int) (h : ∀ x ∈ l, 0 ≤ x ∧ x < 10000) : (l.flatMap limbT).length = 4 * l.length := by
  induction l with
  | nil => rfl
  | cons x r ih =>
    rw [List.flatMap_cons, List.length_append, limbT_len (h x List.mem_cons_self).1 (h x List.mem_cons_self).2, ih (fun y hy => h y (List.mem_cons_of_mem _ hy)), List.length_cons]
    omega

theorem txtAt_len {l : List Int} (hl : Lim l) (k : Nat) (h : k < l.length) : (txtAt l k).length ≤ 4 * (l.length - k) ∧ 1 ≤ (txtAt l k).length := by
  have t := hl.getD (l.length - 1)
  have d := dd_len_le (u := (l.getD (l.length - 1) 0).toNat) (by omega)
  unfold txtAt
  rw [List.length_append, flat_len _ (fun x hx => hl x (List.mem_of_mem_drop (List.mem_reverse.1 (List.mem_of_mem_tail hx)))), List.length_tail, List.length_reverse, List.length_drop]
  omega

end Go.Proofs.YtnegndajejhflaaDoor
