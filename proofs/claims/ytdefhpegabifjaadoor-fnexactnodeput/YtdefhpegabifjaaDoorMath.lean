/- Plain mathematics of limbs: what a list of limbs says (val), the one list of a number (L), noughts at the end struck (trim). It imports nothing of the translation. -/
namespace Go.Proofs.YtdefhpegabifjaaDoor

/-- So many limbs of a number at most, the lowest first. -/
def limbsTo : Nat → Nat → List Int
  | 0, _ => []
  | k + 1, n => if n = 0 then [] else ((n % 10000 : Nat) : Int) :: limbsTo k (n / 10000)
/-- The limbs of a number, the lowest first. -/
def L (n : Nat) : List Int := limbsTo n n

theorem limbsTo_enough : ∀ k j n : Nat, n ≤ k → n ≤ j → limbsTo k n = limbsTo j n
  | 0, 0, _, _, _ => rfl
  | 0, j + 1, n, h, _ => by
    have e : n = 0 := by omega
    subst e
    simp [limbsTo]
  | k + 1, 0, n, _, h => by
    have e : n = 0 := by omega
    subst e
    simp [limbsTo]
  | k + 1, j + 1, n, h, h' => by
    by_cases e : n = 0
    · subst e
      simp [limbsTo]
    · have d : n / 10000 < n := Nat.div_lt_self (by omega) (by omega)
      rw [limbsTo, limbsTo, if_neg e, if_neg e, limbsTo_enough k j (n / 10000) (by omega) (by omega)]

theorem L_zero : L 0 = [] := rfl
theorem L_pos {n : Nat} (h : 0 < n) : L n = ((n % 10000 : Nat) : Int) :: L (n / 10000) := by
  have d : n / 10000 < n := Nat.div_lt_self (by omega) (by omega)
  obtain ⟨k, rfl⟩ : ∃ k, n = k + 1 := ⟨n - 1, by omega⟩
  unfold L
  conv => lhs; rw [limbsTo]
  rw [if_neg (by omega), limbsTo_enough k _ ((k + 1) / 10000) (by omega) (Nat.le_refl _)]

/-- What limbs say. -/
def val : List Int → Int
  | [] => 0
  | x :: r => x + 10000 * val r

def Lim (l : List Int) : Prop := ∀ x ∈ l, 0 ≤ x ∧ x < 10000

theorem Lim.nil : Lim [] := by intro x hx; cases hx
theorem Lim.tail {x : Int} {r : List Int} (h : Lim (x :: r)) : Lim r := fun y hy => h y (List.mem_cons_of_mem _ hy)
theorem Lim.head {x : Int} {r : List Int} (h : Lim (x :: r)) : 0 ≤ x ∧ x < 10000 := h x List.mem_cons_self
theorem Lim.app {l m : List Int} (h : Lim l) (k : Lim m) : Lim (l ++ m) := fun y hy => (List.mem_append.1 hy).elim (h y) (k y)
theorem Lim.one {x : Int} (h : 0 ≤ x) (k : x < 10000) : Lim [x] := by intro y hy; simp at hy; subst hy; exact ⟨h, k⟩
theorem Lim.take {l : List Int} (h : Lim l) (k : Nat) : Lim (l.take k) := fun y hy => h y (List.mem_of_mem_take hy)
theorem Lim.drop {l : List Int} (h : Lim l) (k : Nat) : Lim (l.drop k) := fun y hy => h y (List.mem_of_mem_drop hy)
theorem Lim.at {l : List Int} (h : Lim l) {k : Nat} (hk : k < l.length) : 0 ≤ l[k] ∧ l[k] < 10000 := h _ (List.getElem_mem hk)
theorem Lim.getD {l : List Int} (h : Lim l) (k : Nat) : 0 ≤ l.getD k 0 ∧ l.getD k 0 < 10000 := by
  by_cases hk : k < l.length
  · rw [List.getD_eq_getElem?_getD, List.getElem?_eq_getElem hk]; exact h.at hk
  · rw [List.getD_eq_getElem?_getD, List.getElem?_eq_none (by omega)]; simp

theorem val_L (n : Nat) : val (L n) = n := by
  induction n using Nat.strongRecOn with
  | _ n ih =>
    by_cases h : n = 0
    · subst h; simp [L_zero, val]
    · rw [L_pos (by omega), val, ih _ (by omega)]; omega

theorem L_lim (n : Nat) : Lim (L n) := by
  induction n using Nat.strongRecOn with
  | _ n ih =>
    by_cases h : n = 0
    · subst h; simp [L_zero, Lim]
    · rw [L_pos (by omega)]
      intro x hx
      rcases List.mem_cons.1 hx with rfl | hx
      · omega
      · exact ih _ (by omega) x hx

theorem val_nonneg {l : List Int} (h : Lim l) : 0 ≤ val l := by
  induction l with
  | nil => simp [val]
  | cons x r ih => have := ih h.tail; have := h.head; simp only [val]; omega

theorem pw (k : Nat) : (0 : Int) < 10000 ^ k := Int.pow_pos (by decide)
theorem pwN (k : Nat) : 0 < 10000 ^ k := Nat.pow_pos (by decide)

theorem val_lt {l : List Int} (h : Lim l) : val l < 10000 ^ l.length := by
  induction l with
  | nil => simp [val]
  | cons x r ih =>
    have := ih h.tail; have := h.head
    simp only [val, List.length_cons, Int.pow_succ]; omega

theorem val_append (l m : List Int) : val (l ++ m) = val l + 10000 ^ l.length * val m := by
  induction l with
  | nil => simp [val]
  | cons x r ih => simp only [List.cons_append, val, ih, List.length_cons, Int.pow_succ]; grind

theorem val_one (x : Int) : val [x] = x := by simp [val]
theorem val_snoc (l : List Int) (x : Int) : val (l ++ [x]) = val l + 10000 ^ l.length * x := by rw [val_append, val_one]

theorem val_replicate (k : Nat) : val (List.replicate k 0) = 0 := by
  induction k with
  | zero => simp [val]
  | succ k ih => simp [List.replicate_succ, val, ih]

/-- Noughts at the end struck. -/
def trim : List Int → List Int
  | [] => []
  | x :: r => if trim r = [] ∧ x = 0 then [] else x :: trim r

theorem trim_snoc_zero (l : List Int) : trim (l ++ [0]) = trim l := by
  induction l with
  | nil => simp [trim]
  | cons x r ih => simp [trim, ih]

theorem trim_snoc_ne (l : List Int) {x : Int} (h : x ≠ 0) : trim (l ++ [x]) = l ++ [x] := by
  induction l with
  | nil => simp [trim, h]
  | cons y r ih => simp [trim, ih]

theorem trim_eq {l : List Int} (h : Lim l) : trim l = L (val l).toNat := by
  induction l with
  | nil => simp [trim, val, L_zero]
  | cons x r ih =>
    have hr := ih h.tail
    have hx := h.head
    have hv := val_nonneg h.tail
    simp only [trim, val]
    by_cases hz : val r = 0
    · have e : trim r = [] := by rw [hr, hz]; simp [L_zero]
      by_cases hx0 : x = 0
      · simp [e, hx0, hz, L_zero]
      · rw [if_neg (by simp [hx0]), e, hz, L_pos (by omega)]
        have e1 : (x + 10000 * 0).toNat / 10000 = 0 := by omega
        rw [e1, L_zero]
        congr 1
        omega
    · have hne : trim r ≠ [] := by
        rw [hr, L_pos (by omega)]; simp
      rw [if_neg (by simp [hne]), hr, L_pos (n := (x + 10000 * val r).toNat) (by omega)]
      have e1 : (x + 10000 * val r).toNat / 10000 = (val r).toNat := by omega
      rw [e1]
      congr 1
      omega

theorem trim_take_zero {l : List Int} {k : Nat} (hk : k < l.length) (h : l.getD k 0 = 0) : trim (l.take (k + 1)) = trim (l.take k) := by
  have e : l[k] = 0 := by simpa [List.getD_eq_getElem?_getD, List.getElem?_eq_getElem hk] using h
  rw [List.take_succ_eq_append_getElem hk, e, trim_snoc_zero]

theorem trim_take_ne {l : List Int} {k : Nat} (hk : k < l.length) (h : l.getD k 0 ≠ 0) : trim (l.take (k + 1)) = l.take (k + 1) := by
  have e : l[k] ≠ 0 := by simpa [List.getD_eq_getElem?_getD, List.getElem?_eq_getElem hk] using h
  rw [List.take_succ_eq_append_getElem hk, trim_snoc_ne _ e]

theorem trim_self {l : List Int} (h : l = [] ∨ l.getD (l.length - 1) 0 ≠ 0) : trim l = l := by
  rcases h with rfl | h
  · rfl
  · by_cases hl : l = []
    · subst hl; rfl
    · have hp : 0 < l.length := List.length_pos_iff.2 hl
      have := trim_take_ne (l := l) (k := l.length - 1) (by omega) h
      have e : l.take (l.length - 1 + 1) = l := List.take_of_length_le (by omega)
      rwa [e] at this

/-- Limbs in order that don't end in a nought are the limbs of their number. -/
theorem L_of {l : List Int} (h : Lim l) (k : l = [] ∨ l.getD (l.length - 1) 0 ≠ 0) : l = L (val l).toNat := by
  rw [← trim_eq h, trim_self k]

theorem L_inj {a b : Nat} (h : L a = L b) : a = b := by
  have := congrArg val h
  rw [val_L, val_L] at this
  omega

theorem L_last (n : Nat) : L n = [] ∨ (L n).getD ((L n).length - 1) 0 ≠ 0 := by
  induction n using Nat.strongRecOn with
  | _ n ih =>
    by_cases h : n = 0
    · left; subst h; exact L_zero
    · right
      rw [L_pos (by omega)]
      by_cases hq : n / 10000 = 0
      · rw [hq, L_zero]; simp; omega
      · rcases ih (n / 10000) (by omega) with e | e
        · rw [L_pos (by omega)] at e; cases e
        · have hne : L (n / 10000) ≠ [] := by rw [L_pos (by omega)]; simp
          have hp : 0 < (L (n / 10000)).length := List.length_pos_iff.2 hne
          have e2 : (((n % 10000 : Nat) : Int) :: L (n / 10000)).length - 1 = ((L (n / 10000)).length - 1) + 1 := by simp; omega
          rw [e2]
          simpa using e

theorem L_nil {n : Nat} : L n = [] ↔ n = 0 := by
  constructor
  · intro h; exact L_inj (h.trans L_zero.symm)
  · rintro rfl; exact L_zero

theorem L_len_zero {n : Nat} : (L n).length = 0 ↔ n = 0 := by rw [List.length_eq_zero_iff, L_nil]

theorem L_len_le {n k : Nat} (h : n < 10000 ^ k) : (L n).length ≤ k := by
  induction k generalizing n with
  | zero =>
    have : n = 0 := by simpa using h
    subst this
    simp [L_zero]
  | succ k ih =>
    by_cases h0 : n = 0
    · subst h0; simp [L_zero]
    · rw [L_pos (by omega)]
      have : n / 10000 < 10000 ^ k := by rw [Nat.pow_succ] at h; omega
      have := ih this
      simp; omega

theorem lt_of_L_len {n k : Nat} (h : (L n).length ≤ k) : n < 10000 ^ k := by
  have h1 := val_lt (L_lim n)
  rw [val_L] at h1
  have h2 : 10000 ^ (L n).length ≤ 10000 ^ k := Nat.pow_le_pow_right (by decide) h
  have h3 : ((10000 ^ (L n).length : Nat) : Int) = (10000 : Int) ^ (L n).length := by simp
  omega

theorem L_len_iff {n k : Nat} : (L n).length ≤ k ↔ n < 10000 ^ k := ⟨lt_of_L_len, L_len_le⟩

theorem L_small {n : Nat} (h : 0 < n) (k : n < 10000) : L n = [(n : Int)] := by
  rw [L_pos h, show n / 10000 = 0 from by omega, L_zero, show n % 10000 = n from by omega]

/-! ### Which of two is the greater one: by their lengths, then from the top -/
theorem lt_of_len {a b : Nat} (h : (L a).length < (L b).length) : a < b := by
  have h1 := lt_of_L_len (Nat.le_refl (L a).length)
  have h2 : ¬ b < 10000 ^ (L a).length := fun k => by have := L_len_le k; omega
  omega

theorem val_split (l : List Int) (i : Nat) (h : i ≤ l.length) : val l = val (l.take i) + 10000 ^ i * val (l.drop i) := by
  have := val_append (l.take i) (l.drop i)
  rw [List.take_append_drop] at this
  rw [this, List.length_take, Nat.min_eq_left h]

theorem lt_of_top {l m : List Int} (hl : Lim l) (hm : Lim m) {i : Nat} (h1 : i < l.length) (h2 : i < m.length) (hd : l.drop (i + 1) = m.drop (i + 1)) (h : l[i] < m[i]) : val l < val m := by
  rw [val_split l i (by omega), val_split m i (by omega)]
  rw [← List.getElem_cons_drop h1, ← List.getElem_cons_drop h2, hd]
  simp only [val]
  have a := val_lt (hl.take i)
  have b := val_nonneg (hm.take i)
  rw [List.length_take, Nat.min_eq_left (by omega)] at a
  generalize val (m.drop (i + 1)) = t
  generalize val (l.take i) = x at *
  generalize val (m.take i) = y at *
  have p := pw i
  generalize (10000 : Int) ^ i = P at *
  have q : P * (l[i] + 10000 * t) + P ≤ P * (m[i] + 10000 * t) := by
    have : P * (l[i] + 10000 * t) + P = P * (l[i] + 1 + 10000 * t) := by grind
    rw [this]
    exact Int.mul_le_mul_of_nonneg_left (by omega) (by omega)
  omega

/-! ### Carrying: columns of whatever size become limbs -/
/-- One step of carrying. -/
theorem carry_step {ds : List Int} {c over i : _} {v : Int} (hi : ds.length = i) (h : val ds + over * 10000 ^ i = v) :
    val (ds ++ [(over + c) % 10000]) + (over + c) / 10000 * 10000 ^ (i + 1) = v + c * 10000 ^ i := by
  rw [val_snoc, hi, Int.pow_succ]
  have e := Int.mul_ediv_add_emod (over + c) 10000
  generalize (over + c) / 10000 = q at *
  generalize (over + c) % 10000 = r at *
  generalize (10000 : Int) ^ i = P at *
  grind

theorem take_snoc {l : List Int} {k : Nat} (h : k < l.length) : l.take (k + 1) = l.take k ++ [l[k]] := List.take_succ_eq_append_getElem h

theorem val_take_succ {l : List Int} {k : Nat} (h : k < l.length) : val (l.take (k + 1)) = val (l.take k) + l[k] * 10000 ^ k := by
  rw [take_snoc h, val_snoc, List.length_take, Nat.min_eq_left (by omega), Int.mul_comm]

/-- At the end of carrying: nothing is over, and the limbs are those of the number. -/
theorem carry_end {ds : List Int} {over : Int} {n : Nat} (hl : Lim ds) (h : val ds + over * 10000 ^ ds.length = n) (ho : over ≤ 0) : over = 0 ∧ trim ds = L n := by
  have a := val_lt hl
  have b := val_nonneg hl
  have p := pw ds.length
  generalize (10000 : Int) ^ ds.length = P at *
  have h0 : over = 0 := by
    by_cases k : over ≤ -1
    · have : over * P ≤ -1 * P := Int.mul_le_mul_of_nonneg_right k (by omega)
      omega
    · omega
  subst h0
  refine ⟨rfl, ?_⟩
  rw [trim_eq hl]
  congr 1
  omega

/-- While something is over, the number is not below the power. -/
theorem carry_more {ds : List Int} {over : Int} {n K : Nat} (hl : Lim ds) (h : val ds + over * 10000 ^ ds.length = n) (ho : 0 < over) (hn : n < 10000 ^ K) : ds.length < K := by
  have b := val_nonneg hl
  have p := pw ds.length
  have h1 : (1 : Int) * 10000 ^ ds.length ≤ over * 10000 ^ ds.length := Int.mul_le_mul_of_nonneg_right (by omega) (by omega)
  have h2 : ((10000 ^ ds.length : Nat) : Int) = (10000 : Int) ^ ds.length := by simp
  have h3 : 10000 ^ ds.length < 10000 ^ K := by omega
  exact (Nat.pow_lt_pow_iff_right (by decide)).1 h3

end Go.Proofs.YtdefhpegabifjaaDoor
