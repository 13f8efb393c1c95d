/- Plain mathematics of limbs: what a list of limbs says (val), the one list of a number (L), noughts at the end struck (trim). It imports nothing of the translation. Plain mathematics of limbs, more: sums, differences, products, quotients, powers of ten, as the loops reckon them. -/

namespace Go.Proofs.YtdklikicngmkbaaGreatDoor

/-- So many limbs of a number at most, the lowest first. -/
def limbsTo : Nat → Nat → List Int
  | 0, _ => []
  | k + 1, n => if n = 0 then [] else ((n % 10000 : Nat) : Int) :: limbsTo k (n / 10000)
/-- The limbs of a number, the lowest first. -/
def L (n : Nat) : List Int := limbsTo n n

theorem limbsTo_enough : ∀ k j n : Nat, n ≤ k → n ≤ j → limbsTo k n = limbsTo j n
  | 0, 0, _, _, _ => rfl
  | 0, j + 1, n, h, _ => by
    have e : n = 0 := by omega
    subst e
    simp [limbsTo]
  | k + 1, 0, n, _, h => by
    have e : n = 0 := by omega
    subst e
    simp [limbsTo]
  | k + 1, j + 1, n, h, h' => by
    by_cases e : n = 0
    · subst e
      simp [limbsTo]
    · have d : n / 10000 < n := Nat.div_lt_self (by omega) (by omega)
      rw [limbsTo, limbsTo, if_neg e, if_neg e, limbsTo_enough k j (n / 10000) (by omega) (by omega)]

theorem L_zero : L 0 = [] := rfl
theorem L_pos {n : Nat} (h : 0 < n) : L n = ((n % 10000 : Nat) : Int) :: L (n / 10000) := by
  have d : n / 10000 < n := Nat.div_lt_self (by omega) (by omega)
  obtain ⟨k, rfl⟩ : ∃ k, n = k + 1 := ⟨n - 1, by omega⟩
  unfold L
  conv => lhs; rw [limbsTo]
  rw [if_neg (by omega), limbsTo_enough k _ ((k + 1) / 10000) (by omega) (Nat.le_refl _)]

/-- What limbs say. -/
def val : List Int → Int
  | [] => 0
  | x :: r => x + 10000 * val r

def Lim (l : List Int) : Prop := ∀ x ∈ l, 0 ≤ x ∧ x < 10000

theorem Lim.nil : Lim [] := by intro x hx; cases hx
theorem Lim.tail {x : Int} {r : List Int} (h : Lim (x :: r)) : Lim r := fun y hy => h y (List.mem_cons_of_mem _ hy)
theorem Lim.head {x : Int} {r : List Int} (h : Lim (x :: r)) : 0 ≤ x ∧ x < 10000 := h x List.mem_cons_self
theorem Lim.app {l m : List Int} (h : Lim l) (k : Lim m) : Lim (l ++ m) := fun y hy => (List.mem_append.1 hy).elim (h y) (k y)
theorem Lim.one {x : Int} (h : 0 ≤ x) (k : x < 10000) : Lim [x] := by intro y hy; simp at hy; subst hy; exact ⟨h, k⟩
theorem Lim.take {l : List Int} (h : Lim l) (k : Nat) : Lim (l.take k) := fun y hy => h y (List.mem_of_mem_take hy)
theorem Lim.drop {l : List Int} (h : Lim l) (k : Nat) : Lim (l.drop k) := fun y hy => h y (List.mem_of_mem_drop hy)
theorem Lim.at {l : List Int} (h : Lim l) {k : Nat} (hk : k < l.length) : 0 ≤ l[k] ∧ l[k] < 10000 := h _ (List.getElem_mem hk)
theorem Lim.getD {l : List Int} (h : Lim l) (k : Nat) : 0 ≤ l.getD k 0 ∧ l.getD k 0 < 10000 := by
  by_cases hk : k < l.length
  · rw [List.getD_eq_getElem?_getD, List.getElem?_eq_getElem hk]; exact h.at hk
  · rw [List.getD_eq_getElem?_getD, List.getElem?_eq_none (by omega)]; simp

theorem val_L (n : Nat) : val (L n) = n := by
  induction n using Nat.strongRecOn with
  | _ n ih =>
    by_cases h : n = 0
    · subst h; simp [L_zero, val]
    · rw [L_pos (by omega), val, ih _ (by omega)]; omega

theorem L_lim (n : Nat) : Lim (L n) := by
  induction n using Nat.strongRecOn with
  | _ n ih =>
    by_cases h : n = 0
    · subst h; simp [L_zero, Lim]
    · rw [L_pos (by omega)]
      intro x hx
      rcases List.mem_cons.1 hx with rfl | hx
      · omega
      · exact ih _ (by omega) x hx

theorem val_nonneg {l : List Int} (h : Lim l) : 0 ≤ val l := by
  induction l with
  | nil => simp [val]
  | cons x r ih => have := ih h.tail; have := h.head; simp only [val]; omega

theorem pw (k : Nat) : (0 : Int) < 10000 ^ k := Int.pow_pos (by decide)
theorem pwN (k : Nat) : 0 < 10000 ^ k := Nat.pow_pos (by decide)

theorem val_lt {l : List Int} (h : Lim l) : val l < 10000 ^ l.length := by
  induction l with
  | nil => simp [val]
  | cons x r ih =>
    have := ih h.tail; have := h.head
    simp only [val, List.length_cons, Int.pow_succ]; omega

theorem val_append (l m : List Int) : val (l ++ m) = val l + 10000 ^ l.length * val m := by
  induction l with
  | nil => simp [val]
  | cons x r ih => simp only [List.cons_append, val, ih, List.length_cons, Int.pow_succ]; grind

theorem val_one (x : Int) : val [x] = x := by simp [val]
theorem val_snoc (l : List Int) (x : Int) : val (l ++ [x]) = val l + 10000 ^ l.length * x := by rw [val_append, val_one]

theorem val_replicate (k : Nat) : val (List.replicate k 0) = 0 := by
  induction k with
  | zero => simp [val]
  | succ k ih => simp [List.replicate_succ, val, ih]

/-- Noughts at the end struck. -/
def trim : List Int → List Int
  | [] => []
  | x :: r => if trim r = [] ∧ x = 0 then [] else x :: trim r

theorem trim_snoc_zero (l : List Int) : trim (l ++ [0]) = trim l := by
  induction l with
  | nil => simp [trim]
  | cons x r ih => simp [trim, ih]

theorem trim_snoc_ne (l : List Int) {x : Int} (h : x ≠ 0) : trim (l ++ [x]) = l ++ [x] := by
  induction l with
  | nil => simp [trim, h]
  | cons y r ih => simp [trim, ih]

theorem trim_eq {l : List Int} (h : Lim l) : trim l = L (val l).toNat := by
  induction l with
  | nil => simp [trim, val, L_zero]
  | cons x r ih =>
    have hr := ih h.tail
    have hx := h.head
    have hv := val_nonneg h.tail
    simp only [trim, val]
    by_cases hz : val r = 0
    · have e : trim r = [] := by rw [hr, hz]; simp [L_zero]
      by_cases hx0 : x = 0
      · simp [e, hx0, hz, L_zero]
      · rw [if_neg (by simp [hx0]), e, hz, L_pos (by omega)]
        have e1 : (x + 10000 * 0).toNat / 10000 = 0 := by omega
        rw [e1, L_zero]
        congr 1
        omega
    · have hne : trim r ≠ [] := by
        rw [hr, L_pos (by omega)]; simp
      rw [if_neg (by simp [hne]), hr, L_pos (n := (x + 10000 * val r).toNat) (by omega)]
      have e1 : (x + 10000 * val r).toNat / 10000 = (val r).toNat := by omega
      rw [e1]
      congr 1
      omega

theorem trim_take_zero {l : List Int} {k : Nat} (hk : k < l.length) (h : l.getD k 0 = 0) : trim (l.take (k + 1)) = trim (l.take k) := by
  have e : l[k] = 0 := by simpa [List.getD_eq_getElem?_getD, List.getElem?_eq_getElem hk] using h
  rw [List.take_succ_eq_append_getElem hk, e, trim_snoc_zero]

theorem trim_take_ne {l : List Int} {k : Nat} (hk : k < l.length) (h : l.getD k 0 ≠ 0) : trim (l.take (k + 1)) = l.take (k + 1) := by
  have e : l[k] ≠ 0 := by simpa [List.getD_eq_getElem?_getD, List.getElem?_eq_getElem hk] using h
  rw [List.take_succ_eq_append_getElem hk, trim_snoc_ne _ e]

theorem trim_self {l : List Int} (h : l = [] ∨ l.getD (l.length - 1) 0 ≠ 0) : trim l = l := by
  rcases h with rfl | h
  · rfl
  · by_cases hl : l = []
    · subst hl; rfl
    · have hp : 0 < l.length := List.length_pos_iff.2 hl
      have := trim_take_ne (l := l) (k := l.length - 1) (by omega) h
      have e : l.take (l.length - 1 + 1) = l := List.take_of_length_le (by omega)
      rwa [e] at this

/-- Limbs in order that don't end in a nought are the limbs of their number. -/
theorem L_of {l : List Int} (h : Lim l) (k : l = [] ∨ l.getD (l.length - 1) 0 ≠ 0) : l = L (val l).toNat := by
  rw [← trim_eq h, trim_self k]

theorem L_inj {a b : Nat} (h : L a = L b) : a = b := by
  have := congrArg val h
  rw [val_L, val_L] at this
  omega

theorem L_last (n : Nat) : L n = [] ∨ (L n).getD ((L n).length - 1) 0 ≠ 0 := by
  induction n using Nat.strongRecOn with
  | _ n ih =>
    by_cases h : n = 0
    · left; subst h; exact L_zero
    · right
      rw [L_pos (by omega)]
      by_cases hq : n / 10000 = 0
      · rw [hq, L_zero]; simp; omega
      · rcases ih (n / 10000) (by omega) with e | e
        · rw [L_pos (by omega)] at e; cases e
        · have hne : L (n / 10000) ≠ [] := by rw [L_pos (by omega)]; simp
          have hp : 0 < (L (n / 10000)).length := List.length_pos_iff.2 hne
          have e2 : (((n % 10000 : Nat) : Int) :: L (n / 10000)).length - 1 = ((L (n / 10000)).length - 1) + 1 := by simp; omega
          rw [e2]
          simpa using e

theorem L_nil {n : Nat} : L n = [] ↔ n = 0 := by
  constructor
  · intro h; exact L_inj (h.trans L_zero.symm)
  · rintro rfl; exact L_zero

theorem L_len_zero {n : Nat} : (L n).length = 0 ↔ n = 0 := by rw [List.length_eq_zero_iff, L_nil]

theorem L_len_le {n k : Nat} (h : n < 10000 ^ k) : (L n).length ≤ k := by
  induction k generalizing n with
  | zero =>
    have : n = 0 := by simpa using h
    subst this
    simp [L_zero]
  | succ k ih =>
    by_cases h0 : n = 0
    · subst h0; simp [L_zero]
    · rw [L_pos (by omega)]
      have : n / 10000 < 10000 ^ k := by rw [Nat.pow_succ] at h; omega
      have := ih this
      simp; omega

theorem lt_of_L_len {n k : Nat} (h : (L n).length ≤ k) : n < 10000 ^ k := by
  have h1 := val_lt (L_lim n)
  rw [val_L] at h1
  have h2 : 10000 ^ (L n).length ≤ 10000 ^ k := Nat.pow_le_pow_right (by decide) h
  have h3 : ((10000 ^ (L n).length : Nat) : Int) = (10000 : Int) ^ (L n).length := by simp
  omega

theorem L_len_iff {n k : Nat} : (L n).length ≤ k ↔ n < 10000 ^ k := ⟨lt_of_L_len, L_len_le⟩

theorem L_small {n : Nat} (h : 0 < n) (k : n < 10000) : L n = [(n : Int)] := by
  rw [L_pos h, show n / 10000 = 0 from by omega, L_zero, show n % 10000 = n from by omega]

/-! ### Which of two is the greater one: by their lengths, then from the top -/
theorem lt_of_len {a b : Nat} (h : (L a).length < (L b).length) : a < b := by
  have h1 := lt_of_L_len (Nat.le_refl (L a).length)
  have h2 : ¬ b < 10000 ^ (L a).length := fun k => by have := L_len_le k; omega
  omega

theorem val_split (l : List Int) (i : Nat) (h : i ≤ l.length) : val l = val (l.take i) + 10000 ^ i * val (l.drop i) := by
  have := val_append (l.take i) (l.drop i)
  rw [List.take_append_drop] at this
  rw [this, List.length_take, Nat.min_eq_left h]

theorem lt_of_top {l m : List Int} (hl : Lim l) (hm : Lim m) {i : Nat} (h1 : i < l.length) (h2 : i < m.length) (hd : l.drop (i + 1) = m.drop (i + 1)) (h : l[i] < m[i]) : val l < val m := by
  rw [val_split l i (by omega), val_split m i (by omega)]
  rw [← List.getElem_cons_drop h1, ← List.getElem_cons_drop h2, hd]
  simp only [val]
  have a := val_lt (hl.take i)
  have b := val_nonneg (hm.take i)
  rw [List.length_take, Nat.min_eq_left (by omega)] at a
  generalize val (m.drop (i + 1)) = t
  generalize val (l.take i) = x at *
  generalize val (m.take i) = y at *
  have p := pw i
  generalize (10000 : Int) ^ i = P at *
  have q : P * (l[i] + 10000 * t) + P ≤ P * (m[i] + 10000 * t) := by
    have : P * (l[i] + 10000 * t) + P = P * (l[i] + 1 + 10000 * t) := by grind
    rw [this]
    exact Int.mul_le_mul_of_nonneg_left (by omega) (by omega)
  omega

/-! ### Carrying: columns of whatever size become limbs -/
/-- One step of carrying. -/
theorem carry_step {ds : List Int} {c over i : _} {v : Int} (hi : ds.length = i) (h : val ds + over * 10000 ^ i = v) :
    val (ds ++ [(over + c) % 10000]) + (over + c) / 10000 * 10000 ^ (i + 1) = v + c * 10000 ^ i := by
  rw [val_snoc, hi, Int.pow_succ]
  have e := Int.mul_ediv_add_emod (over + c) 10000
  generalize (over + c) / 10000 = q at *
  generalize (over + c) % 10000 = r at *
  generalize (10000 : Int) ^ i = P at *
  grind

theorem take_snoc {l : List Int} {k : Nat} (h : k < l.length) : l.take (k + 1) = l.take k ++ [l[k]] := List.take_succ_eq_append_getElem h

theorem val_take_succ {l : List Int} {k : Nat} (h : k < l.length) : val (l.take (k + 1)) = val (l.take k) + l[k] * 10000 ^ k := by
  rw [take_snoc h, val_snoc, List.length_take, Nat.min_eq_left (by omega), Int.mul_comm]

/-- At the end of carrying: nothing is over, and the limbs are those of the number. -/
theorem carry_end {ds : List Int} {over : Int} {n : Nat} (hl : Lim ds) (h : val ds + over * 10000 ^ ds.length = n) (ho : over ≤ 0) : over = 0 ∧ trim ds = L n := by
  have a := val_lt hl
  have b := val_nonneg hl
  have p := pw ds.length
  generalize (10000 : Int) ^ ds.length = P at *
  have h0 : over = 0 := by
    by_cases k : over ≤ -1
    · have : over * P ≤ -1 * P := Int.mul_le_mul_of_nonneg_right k (by omega)
      omega
    · omega
  subst h0
  refine ⟨rfl, ?_⟩
  rw [trim_eq hl]
  congr 1
  omega

/-- While something is over, the number is not below the power. -/
theorem carry_more {ds : List Int} {over : Int} {n K : Nat} (hl : Lim ds) (h : val ds + over * 10000 ^ ds.length = n) (ho : 0 < over) (hn : n < 10000 ^ K) : ds.length < K := by
  have b := val_nonneg hl
  have p := pw ds.length
  have h1 : (1 : Int) * 10000 ^ ds.length ≤ over * 10000 ^ ds.length := Int.mul_le_mul_of_nonneg_right (by omega) (by omega)
  have h2 : ((10000 ^ ds.length : Nat) : Int) = (10000 : Int) ^ ds.length := by simp
  have h3 : 10000 ^ ds.length < 10000 ^ K := by omega
  exact (Nat.pow_lt_pow_iff_right (by decide)).1 h3

end Go.Proofs.YtdklikicngmkbaaGreatDoor

namespace Go.Proofs.YtdklikicngmkbaaGreatDoor

theorem getD_at {l : List Int} {k : Nat} (h : k < l.length) : l.getD k 0 = l[k] := by
  rw [List.getD_eq_getElem?_getD, List.getElem?_eq_getElem h]; rfl

theorem getD_past {l : List Int} {k : Nat} (h : l.length ≤ k) : l.getD k 0 = 0 := by
  rw [List.getD_eq_getElem?_getD, List.getElem?_eq_none h]; rfl

/-- The first k places, noughts behind the end. -/
theorem val_take_getD (l : List Int) (k : Nat) : val (l.take (k + 1)) = val (l.take k) + l.getD k 0 * 10000 ^ k := by
  by_cases h : k < l.length
  · rw [val_take_succ h, getD_at h]
  · rw [getD_past (by omega), List.take_of_length_le (by omega), List.take_of_length_le (by omega)]; simp

theorem val_set {l : List Int} {k : Nat} (h : k < l.length) (x : Int) : val (l.set k x) = val l + (x - l.getD k 0) * 10000 ^ k := by
  induction l generalizing k with
  | nil => simp at h
  | cons y r ih =>
    cases k with
    | zero => simp [val]; omega
    | succ k =>
      have := ih (k := k) (by simpa using h)
      simp only [List.set_cons_succ, val, this, List.getD_cons_succ, Int.pow_succ]
      grind

theorem Lim.set {l : List Int} (h : Lim l) (k : Nat) {x : Int} (h0 : 0 ≤ x) (h1 : x < 10000) : Lim (l.set k x) := by
  intro y hy
  rcases List.mem_or_eq_of_mem_set hy with hy | rfl
  · exact h y hy
  · exact ⟨h0, h1⟩

theorem Lim.zeros (n : Nat) : Lim (List.replicate n 0) := by
  intro x hx
  rw [List.mem_replicate] at hx
  omega

theorem getD_set {l : List Int} {k : Nat} (h : k < l.length) (x : Int) (j : Nat) : (l.set k x).getD j 0 = if j = k then x else l.getD j 0 := by
  simp only [List.getD_eq_getElem?_getD, List.getElem?_set]
  by_cases e : j = k
  · subst e; simp [h]
  · rw [if_neg (fun e' => e e'.symm), if_neg e]

/-! ### A sum, limb by limb -/
theorem add_step {out a b : List Int} {over x : Int} {i : Nat} (hi : out.length = i) (h : val out + over * 10000 ^ i = val (a.take i) + val (b.take i)) (hx : x = a.getD i 0 + b.getD i 0 + over) :
    val (out ++ [x % 10000]) + x / 10000 * 10000 ^ (i + 1) = val (a.take (i + 1)) + val (b.take (i + 1)) := by
  have := carry_step (c := a.getD i 0 + b.getD i 0) hi h
  rw [show over + (a.getD i 0 + b.getD i 0) = x by omega] at this
  rw [this, val_take_getD, val_take_getD]
  grind

theorem add_end {out : List Int} {a b n : Nat} (hl : Lim out) (ha : (L a).length ≤ n) (hb : (L b).length ≤ n) (h : val out = val ((L a).take n) + val ((L b).take n)) : trim out = L (a + b) := by
  rw [List.take_of_length_le ha, List.take_of_length_le hb, val_L, val_L] at h
  rw [trim_eq hl, h]
  congr 1

/-! ### A difference -/
theorem sub_step {out a b : List Int} {under x d u : Int} {i : Nat} (hi : out.length = i) (h : val out - under * 10000 ^ i = val (a.take i) - val (b.take i)) (hx : x = a.getD i 0 - b.getD i 0 - under) (hd : d - u * 10000 = x) :
    val (out ++ [d]) - u * 10000 ^ (i + 1) = val (a.take (i + 1)) - val (b.take (i + 1)) := by
  rw [val_snoc, hi, val_take_getD, val_take_getD, Int.pow_succ]
  generalize (10000 : Int) ^ i = P at *
  grind

theorem sub_end {out : List Int} {a b : Nat} {under : Int} (hl : Lim out) (hi : out.length = (L a).length) (hab : b ≤ a) (hu : 0 ≤ under)
    (h : val out - under * 10000 ^ (L a).length = val ((L a).take (L a).length) - val ((L b).take (L a).length)) : trim out = L (a - b) := by
  have hb : (L b).length ≤ (L a).length := L_len_le (Nat.lt_of_le_of_lt hab (lt_of_L_len (Nat.le_refl _)))
  rw [List.take_of_length_le (Nat.le_refl _), List.take_of_length_le hb, val_L, val_L] at h
  have a1 := val_lt hl
  rw [hi] at a1
  have p := pw (L a).length
  generalize (10000 : Int) ^ (L a).length = P at *
  have h0 : under = 0 := by
    by_cases k : 1 ≤ under
    · have : 1 * P ≤ under * P := Int.mul_le_mul_of_nonneg_right k (by omega)
      omega
    · omega
  subst h0
  rw [trim_eq hl]
  congr 1
  omega

/-! ### A product -/
theorem mul_step {out a b : List Int} {over x : Int} {i k : Nat} (hk : i + k < out.length) (hx : x = out.getD (i + k) 0 + a.getD i 0 * b.getD k 0 + over)
    (h : val out + over * 10000 ^ (i + k) = val (a.take i) * val b + a.getD i 0 * 10000 ^ i * val (b.take k)) :
    val (out.set (i + k) (x % 10000)) + x / 10000 * 10000 ^ (i + k + 1) = val (a.take i) * val b + a.getD i 0 * 10000 ^ i * val (b.take (k + 1)) := by
  rw [val_set hk, val_take_getD, Int.pow_succ]
  have e := Int.mul_ediv_add_emod x 10000
  have ep : (10000 : Int) ^ (i + k) = 10000 ^ i * 10000 ^ k := Int.pow_add _ _ _
  rw [ep] at h ⊢
  generalize x / 10000 = q at *
  generalize x % 10000 = r at *
  generalize (10000 : Int) ^ i = P at *
  generalize (10000 : Int) ^ k = Q at *
  grind

/-- While something is over, its place lies within the product's places. -/
theorem mul_room {out a b : List Int} {over : Int} {i k : Nat} (ho : 0 < over) (hl : Lim out) (ha : Lim a) (hb : Lim b) (hi : i < a.length) (hk : b.length ≤ k)
    (h : val out + over * 10000 ^ (i + k) = val (a.take i) * val b + a.getD i 0 * 10000 ^ i * val (b.take k)) : k ≤ b.length := by
  rw [List.take_of_length_le hk] at h
  have e : val (a.take (i + 1)) * val b = val (a.take i) * val b + a.getD i 0 * 10000 ^ i * val b := by rw [val_take_getD]; grind
  rw [← e] at h
  have h1 := val_lt (ha.take (i + 1))
  rw [List.length_take, Nat.min_eq_left (by omega)] at h1
  have h2 := val_lt hb
  have h3 := val_nonneg (ha.take (i + 1))
  have h4 := val_nonneg hb
  have h5 := val_nonneg hl
  have h6 : val (a.take (i + 1)) * val b ≤ val (a.take (i + 1)) * 10000 ^ b.length := Int.mul_le_mul_of_nonneg_left (by omega) h3
  have h7 : val (a.take (i + 1)) * 10000 ^ b.length < 10000 ^ (i + 1) * 10000 ^ b.length := Int.mul_lt_mul_of_pos_right h1 (pw _)
  have h8 : 1 * 10000 ^ (i + k) ≤ over * 10000 ^ (i + k) := Int.mul_le_mul_of_nonneg_right (by omega) (Int.le_of_lt (pw _))
  rw [← Int.pow_add] at h7
  have h9 : (10000 : Int) ^ (i + k) < 10000 ^ (i + 1 + b.length) := by omega
  have h10 : (10000 : Nat) ^ (i + k) < 10000 ^ (i + 1 + b.length) := by
    have e1 : ((10000 ^ (i + k) : Nat) : Int) = (10000 : Int) ^ (i + k) := by simp
    have e2 : ((10000 ^ (i + 1 + b.length) : Nat) : Int) = (10000 : Int) ^ (i + 1 + b.length) := by simp
    omega
  have := (Nat.pow_lt_pow_iff_right (by decide : 1 < 10000)).1 h10
  omega

theorem mul_row_end {out a b : List Int} {i k : Nat} (hk : b.length ≤ k) (h : val out + 0 * 10000 ^ (i + k) = val (a.take i) * val b + a.getD i 0 * 10000 ^ i * val (b.take k)) :
    val out = val (a.take (i + 1)) * val b := by
  rw [List.take_of_length_le hk] at h
  rw [val_take_getD]
  grind

theorem mul_end {out : List Int} {a b n : Nat} (hl : Lim out) (hn : (L a).length ≤ n) (h : val out = val ((L a).take n) * val (L b)) : trim out = L (a * b) := by
  rw [List.take_of_length_le hn, val_L, val_L] at h
  rw [trim_eq hl, h]
  congr 1

/-- Columns: one product more. -/
theorem col_step {c l m : List Int} {i j : Nat} (hk : i + j < c.length) {x : Int} (hx : x = c.getD (i + j) 0 + l.getD i 0 * m.getD j 0)
    (h : val c = val (l.take i) * val m + l.getD i 0 * 10000 ^ i * val (m.take j)) :
    val (c.set (i + j) x) = val (l.take i) * val m + l.getD i 0 * 10000 ^ i * val (m.take (j + 1)) := by
  rw [val_set hk, val_take_getD, Int.pow_add, hx, h]
  generalize (10000 : Int) ^ i = P at *
  generalize (10000 : Int) ^ j = Q at *
  grind

theorem col_row_end {c l m : List Int} {i j : Nat} (hj : m.length ≤ j) (h : val c = val (l.take i) * val m + l.getD i 0 * 10000 ^ i * val (m.take j)) : val c = val (l.take (i + 1)) * val m := by
  rw [List.take_of_length_le hj] at h
  rw [val_take_getD, h]
  grind

/-! ### Powers of ten -/
theorem L_mul_base {n : Nat} (h : 0 < n) : L (10000 * n) = 0 :: L n := by
  rw [L_pos (by omega), show 10000 * n / 10000 = n by omega, show 10000 * n % 10000 = 0 by omega]; rfl

theorem L_ten (q r : Nat) (hr : r < 4) : L (10 ^ (4 * q + r)) = List.replicate q 0 ++ [((10 ^ r : Nat) : Int)] := by
  induction q with
  | zero =>
    simp only [Nat.mul_zero, Nat.zero_add, List.replicate_zero, List.nil_append]
    have : 10 ^ r < 10000 := by
      match r, hr with
      | 0, _ => decide
      | 1, _ => decide
      | 2, _ => decide
      | 3, _ => decide
    exact L_small (Nat.pow_pos (by decide)) this
  | succ q ih =>
    have e : 10 ^ (4 * (q + 1) + r) = 10000 * 10 ^ (4 * q + r) := by
      rw [show 4 * (q + 1) + r = 4 + (4 * q + r) by omega, Nat.pow_add]
    rw [e, L_mul_base (Nat.pow_pos (by decide)), ih, List.replicate_succ]
    rfl

/-! ### A quotient, limb by limb from the top -/
theorem div_step {a b q r x : Nat} (_hb : 0 < b) (h : q * b + r = a) : (a * 10000 + x) / b = q * 10000 + (r * 10000 + x) / b ∧ (a * 10000 + x) % b = (r * 10000 + x) % b := by
  have e : a * 10000 + x = (r * 10000 + x) + b * (q * 10000) := by rw [← h]; grind
  rw [e, Nat.add_mul_div_left _ _ _hb, Nat.add_mul_mod_self_left]
  omega

end Go.Proofs.YtdklikicngmkbaaGreatDoor
