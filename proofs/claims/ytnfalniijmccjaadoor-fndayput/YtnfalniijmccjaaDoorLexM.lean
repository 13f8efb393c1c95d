/- Plain mathematics of texts in their order: what lies between a text and the least one above all that begin with it. -/
import GoSem.Op.String
namespace Go.Proofs.YtnfalniijmccjaaDoor

theorem less_nil (t : List UInt8) : Op.bytesLess t [] = false := by cases t <;> rfl
theorem less_cons (a b : UInt8) (x y : List UInt8) : Op.bytesLess (a :: x) (b :: y) = (decide (a < b) || (a == b && Op.bytesLess x y)) := by
  simp [Op.bytesLess]
theorem less_irrefl (x : List UInt8) : Op.bytesLess x x = false := by
  induction x with
  | nil => rfl
  | cons a x ih => rw [less_cons, ih]; simp

theorem less_prefix (s u : List UInt8) : Op.bytesLess (s ++ u) s = false := by
  induction s with
  | nil => exact less_nil _
  | cons a s ih => rw [List.cons_append, less_cons, ih]; simp

theorem all255 (F t : List UInt8) (hF : ∀ x ∈ F, x = 255) (h : Op.bytesLess t F = false) : ∃ u, t = F ++ u := by
  induction F generalizing t with
  | nil => exact ⟨t, rfl⟩
  | cons f F ih =>
    have hf : f = 255 := hF f (by simp)
    subst hf
    cases t with
    | nil => simp [Op.bytesLess] at h
    | cons b t =>
      rw [less_cons] at h
      simp only [Bool.or_eq_false_iff, decide_eq_false_iff_not, Bool.and_eq_false_iff] at h
      have hb : b = 255 := by
        have h1 := h.1
        rw [UInt8.lt_iff_toNat_lt] at h1
        have h2 : b.toNat < 256 := b.toNat_lt
        apply UInt8.toNat_inj.1
        have : (255 : UInt8).toNat = 255 := rfl
        omega
      subst hb
      obtain ⟨u, hu⟩ := ih t (fun x hx => hF x (by simp [hx])) (by simpa using h.2)
      exact ⟨u, by rw [hu]; rfl⟩

theorem above_less (P F u : List UInt8) (c : UInt8) (hc : c.toNat ≠ 255) : Op.bytesLess (P ++ c :: F ++ u) (P ++ [c + 1]) = true := by
  induction P with
  | nil =>
    simp only [List.nil_append, List.cons_append]
    rw [less_cons]
    have h2 : c.toNat < 256 := c.toNat_lt
    have : c < c + 1 := by
      rw [UInt8.lt_iff_toNat_lt, UInt8.toNat_add]
      have : (1 : UInt8).toNat = 1 := rfl
      omega
    simp [this]
  | cons p P ih =>
    simp only [List.cons_append]
    rw [less_cons]
    simpa using ih

theorem between (P F t : List UInt8) (c : UInt8) (hc : c.toNat ≠ 255) (hF : ∀ x ∈ F, x = 255) (h1 : Op.bytesLess t (P ++ c :: F) = false) (h2 : Op.bytesLess t (P ++ [c + 1]) = true) : ∃ u, t = P ++ c :: F ++ u := by
  induction P generalizing t with
  | nil =>
    cases t with
    | nil => simp [Op.bytesLess] at h1
    | cons a t =>
      simp only [List.nil_append] at h1 h2 ⊢
      rw [less_cons] at h1 h2
      simp only [Bool.or_eq_false_iff, decide_eq_false_iff_not, Bool.and_eq_false_iff] at h1
      rw [less_nil] at h2
      simp only [Bool.and_false, Bool.or_false, decide_eq_true_eq] at h2
      have ha : a = c := by
        have k1 := h1.1
        rw [UInt8.lt_iff_toNat_lt] at k1 h2
        rw [UInt8.toNat_add] at h2
        have h3 : c.toNat < 256 := c.toNat_lt
        have : (1 : UInt8).toNat = 1 := rfl
        apply UInt8.toNat_inj.1
        omega
      subst ha
      obtain ⟨u, hu⟩ := all255 F t hF (by simpa using h1.2)
      exact ⟨u, by rw [hu]; rfl⟩
  | cons p P ih =>
    cases t with
    | nil => simp [Op.bytesLess] at h1
    | cons a t =>
      simp only [List.cons_append] at h1 h2 ⊢
      rw [less_cons] at h1 h2
      simp only [Bool.or_eq_false_iff, decide_eq_false_iff_not, Bool.and_eq_false_iff] at h1
      simp only [Bool.or_eq_true, decide_eq_true_eq, Bool.and_eq_true, beq_iff_eq] at h2
      have h2' := h2.resolve_left h1.1
      obtain ⟨rfl, h3⟩ := h2'
      obtain ⟨u, hu⟩ := ih t (by simpa using h1.2) h3
      exact ⟨u, by rw [hu]⟩

end Go.Proofs.YtnfalniijmccjaaDoor
