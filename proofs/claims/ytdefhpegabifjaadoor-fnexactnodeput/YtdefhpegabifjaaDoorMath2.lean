/- Plain mathematics of limbs, more: sums, differences, products, quotients, powers of ten, as the loops reckon them. -/
import Derived.Test.YtdefhpegabifjaaDoorMath
namespace Go.Proofs.YtdefhpegabifjaaDoor

theorem getD_at {l : List Int} {k : Nat} (h : k < l.length) : l.getD k 0 = l[k] := by
  rw [List.getD_eq_getElem?_getD, List.getElem?_eq_getElem h]; rfl

theorem getD_past {l : List Int} {k : Nat} (h : l.length ≤ k) : l.getD k 0 = 0 := by
  rw [List.getD_eq_getElem?_getD, List.getElem?_eq_none h]; rfl

/-- The first k places, noughts behind the end. -/
theorem val_take_getD (l : List Int) (k : Nat) : val (l.take (k + 1)) = val (l.take k) + l.getD k 0 * 10000 ^ k := by
  by_cases h : k < l.length
  · rw [val_take_succ h, getD_at h]
  · rw [getD_past (by omega), List.take_of_length_le (by omega), List.take_of_length_le (by omega)]; simp

theorem val_set {l : List Int} {k : Nat} (h : k < l.length) (x : Int) : val (l.set k x) = val l + (x - l.getD k 0) * 10000 ^ k := by
  induction l generalizing k with
  | nil => simp at h
  | cons y r ih =>
    cases k with
    | zero => simp [val]; omega
    | succ k =>
      have := ih (k := k) (by simpa using h)
      simp only [List.set_cons_succ, val, this, List.getD_cons_succ, Int.pow_succ]
      grind

theorem Lim.set {l : List Int} (h : Lim l) (k : Nat) {x : Int} (h0 : 0 ≤ x) (h1 : x < 10000) : Lim (l.set k x) := by
  intro y hy
  rcases List.mem_or_eq_of_mem_set hy with hy | rfl
  · exact h y hy
  · exact ⟨h0, h1⟩

theorem Lim.zeros (n : Nat) : Lim (List.replicate n 0) := by
  intro x hx
  rw [List.mem_replicate] at hx
  omega

theorem getD_set {l : List Int} {k : Nat} (h : k < l.length) (x : Int) (j : Nat) : (l.set k x).getD j 0 = if j = k then x else l.getD j 0 := by
  simp only [List.getD_eq_getElem?_getD, List.getElem?_set]
  by_cases e : j = k
  · subst e; simp [h]
  · rw [if_neg (fun e' => e e'.symm), if_neg e]

/-! ### A sum, limb by limb -/
theorem add_step {out a b : List Int} {over x : Int} {i : Nat} (hi : out.length = i) (h : val out + over * 10000 ^ i = val (a.take i) + val (b.take i)) (hx : x = a.getD i 0 + b.getD i 0 + over) :
    val (out ++ [x % 10000]) + x / 10000 * 10000 ^ (i + 1) = val (a.take (i + 1)) + val (b.take (i + 1)) := by
  have := carry_step (c := a.getD i 0 + b.getD i 0) hi h
  rw [show over + (a.getD i 0 + b.getD i 0) = x by omega] at this
  rw [this, val_take_getD, val_take_getD]
  grind

theorem add_end {out : List Int} {a b n : Nat} (hl : Lim out) (ha : (L a).length ≤ n) (hb : (L b).length ≤ n) (h : val out = val ((L a).take n) + val ((L b).take n)) : trim out = L (a + b) := by
  rw [List.take_of_length_le ha, List.take_of_length_le hb, val_L, val_L] at h
  rw [trim_eq hl, h]
  congr 1

/-! ### A difference -/
theorem sub_step {out a b : List Int} {under x d u : Int} {i : Nat} (hi : out.length = i) (h : val out - under * 10000 ^ i = val (a.take i) - val (b.take i)) (hx : x = a.getD i 0 - b.getD i 0 - under) (hd : d - u * 10000 = x) :
    val (out ++ [d]) - u * 10000 ^ (i + 1) = val (a.take (i + 1)) - val (b.take (i + 1)) := by
  rw [val_snoc, hi, val_take_getD, val_take_getD, Int.pow_succ]
  generalize (10000 : Int) ^ i = P at *
  grind

theorem sub_end {out : List Int} {a b : Nat} {under : Int} (hl : Lim out) (hi : out.length = (L a).length) (hab : b ≤ a) (hu : 0 ≤ under)
    (h : val out - under * 10000 ^ (L a).length = val ((L a).take (L a).length) - val ((L b).take (L a).length)) : trim out = L (a - b) := by
  have hb : (L b).length ≤ (L a).length := L_len_le (Nat.lt_of_le_of_lt hab (lt_of_L_len (Nat.le_refl _)))
  rw [List.take_of_length_le (Nat.le_refl _), List.take_of_length_le hb, val_L, val_L] at h
  have a1 := val_lt hl
  rw [hi] at a1
  have p := pw (L a).length
  generalize (10000 : Int) ^ (L a).length = P at *
  have h0 : under = 0 := by
    by_cases k : 1 ≤ under
    · have : 1 * P ≤ under * P := Int.mul_le_mul_of_nonneg_right k (by omega)
      omega
    · omega
  subst h0
  rw [trim_eq hl]
  congr 1
  omega

/-! ### A product -/
theorem mul_step {out a b : List Int} {over x : Int} {i k : Nat} (hk : i + k < out.length) (hx : x = out.getD (i + k) 0 + a.getD i 0 * b.getD k 0 + over)
    (h : val out + over * 10000 ^ (i + k) = val (a.take i) * val b + a.getD i 0 * 10000 ^ i * val (b.take k)) :
    val (out.set (i + k) (x % 10000)) + x / 10000 * 10000 ^ (i + k + 1) = val (a.take i) * val b + a.getD i 0 * 10000 ^ i * val (b.take (k + 1)) := by
  rw [val_set hk, val_take_getD, Int.pow_succ]
  have e := Int.mul_ediv_add_emod x 10000
  have ep : (10000 : Int) ^ (i + k) = 10000 ^ i * 10000 ^ k := Int.pow_add _ _ _
  rw [ep] at h ⊢
  generalize x / 10000 = q at *
  generalize x % 10000 = r at *
  generalize (10000 : Int) ^ i = P at *
  generalize (10000 : Int) ^ k = Q at *
  grind

/-- While something is over, its place lies within the product's places. -/
theorem mul_room {out a b : List Int} {over : Int} {i k : Nat} (ho : 0 < over) (hl : Lim out) (ha : Lim a) (hb : Lim b) (hi : i < a.length) (hk : b.length ≤ k)
    (h : val out + over * 10000 ^ (i + k) = val (a.take i) * val b + a.getD i 0 * 10000 ^ i * val (b.take k)) : k ≤ b.length := by
  rw [List.take_of_length_le hk] at h
  have e : val (a.take (i + 1)) * val b = val (a.take i) * val b + a.getD i 0 * 10000 ^ i * val b := by rw [val_take_getD]; grind
  rw [← e] at h
  have h1 := val_lt (ha.take (i + 1))
  rw [List.length_take, Nat.min_eq_left (by omega)] at h1
  have h2 := val_lt hb
  have h3 := val_nonneg (ha.take (i + 1))
  have h4 := val_nonneg hb
  have h5 := val_nonneg hl
  have h6 : val (a.take (i + 1)) * val b ≤ val (a.take (i + 1)) * 10000 ^ b.length := Int.mul_le_mul_of_nonneg_left (by omega) h3
  have h7 : val (a.take (i + 1)) * 10000 ^ b.length < 10000 ^ (i + 1) * 10000 ^ b.length := Int.mul_lt_mul_of_pos_right h1 (pw _)
  have h8 : 1 * 10000 ^ (i + k) ≤ over * 10000 ^ (i + k) := Int.mul_le_mul_of_nonneg_right (by omega) (Int.le_of_lt (pw _))
  rw [← Int.pow_add] at h7
  have h9 : (10000 : Int) ^ (i + k) < 10000 ^ (i + 1 + b.length) := by omega
  have h10 : (10000 : Nat) ^ (i + k) < 10000 ^ (i + 1 + b.length) := by
    have e1 : ((10000 ^ (i + k) : Nat) : Int) = (10000 : Int) ^ (i + k) := by simp
    have e2 : ((10000 ^ (i + 1 + b.length) : Nat) : Int) = (10000 : Int) ^ (i + 1 + b.length) := by simp
    omega
  have := (Nat.pow_lt_pow_iff_right (by decide : 1 < 10000)).1 h10
  omega

theorem mul_row_end {out a b : List Int} {i k : Nat} (hk : b.length ≤ k) (h : val out + 0 * 10000 ^ (i + k) = val (a.take i) * val b + a.getD i 0 * 10000 ^ i * val (b.take k)) :
    val out = val (a.take (i + 1)) * val b := by
  rw [List.take_of_length_le hk] at h
  rw [val_take_getD]
  grind

theorem mul_end {out : List Int} {a b n : Nat} (hl : Lim out) (hn : (L a).length ≤ n) (h : val out = val ((L a).take n) * val (L b)) : trim out = L (a * b) := by
  rw [List.take_of_length_le hn, val_L, val_L] at h
  rw [trim_eq hl, h]
  congr 1

/-- Columns: one product more. -/
theorem col_step {c l m : List Int} {i j : Nat} (hk : i + j < c.length) {x : Int} (hx : x = c.getD (i + j) 0 + l.getD i 0 * m.getD j 0)
    (h : val c = val (l.take i) * val m + l.getD i 0 * 10000 ^ i * val (m.take j)) :
    val (c.set (i + j) x) = val (l.take i) * val m + l.getD i 0 * 10000 ^ i * val (m.take (j + 1)) := by
  rw [val_set hk, val_take_getD, Int.pow_add, hx, h]
  generalize (10000 : Int) ^ i = P at *
  generalize (10000 : Int) ^ j = Q at *
  grind

theorem col_row_end {c l m : List Int} {i j : Nat} (hj : m.length ≤ j) (h : val c = val (l.take i) * val m + l.getD i 0 * 10000 ^ i * val (m.take j)) : val c = val (l.take (i + 1)) * val m := by
  rw [List.take_of_length_le hj] at h
  rw [val_take_getD, h]
  grind

/-! ### Powers of ten -/
theorem L_mul_base {n : Nat} (h : 0 < n) : L (10000 * n) = 0 :: L n := by
  rw [L_pos (by omega), show 10000 * n / 10000 = n by omega, show 10000 * n % 10000 = 0 by omega]; rfl

theorem L_ten (q r : Nat) (hr : r < 4) : L (10 ^ (4 * q + r)) = List.replicate q 0 ++ [((10 ^ r : Nat) : Int)] := by
  induction q with
  | zero =>
    simp only [Nat.mul_zero, Nat.zero_add, List.replicate_zero, List.nil_append]
    have : 10 ^ r < 10000 := by
      match r, hr with
      | 0, _ => decide
      | 1, _ => decide
      | 2, _ => decide
      | 3, _ => decide
    exact L_small (Nat.pow_pos (by decide)) this
  | succ q ih =>
    have e : 10 ^ (4 * (q + 1) + r) = 10000 * 10 ^ (4 * q + r) := by
      rw [show 4 * (q + 1) + r = 4 + (4 * q + r) by omega, Nat.pow_add]
    rw [e, L_mul_base (Nat.pow_pos (by decide)), ih, List.replicate_succ]
    rfl

/-! ### A quotient, limb by limb from the top -/
theorem div_step {a b q r x : Nat} (_hb : 0 < b) (h : q * b + r = a) : (a * 10000 + x) / b = q * 10000 + (r * 10000 + x) / b ∧ (a * 10000 + x) % b = (r * 10000 + x) % b := by
  have e : a * 10000 + x = (r * 10000 + x) + b * (q * 10000) := by rw [← h]; grind
  rw [e, Nat.add_mul_div_left _ _ _hb, Nat.add_mul_mod_self_left]
  omega

end Go.Proofs.YtdefhpegabifjaaDoor
