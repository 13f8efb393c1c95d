/- Whether a disk is ok, by the specification and by the program. -/
import Derived.Test.YtmbkjbjmpemgoaaDkD
namespace Go.Proofs.Ytmbkjbjmpemgoaa
open Go.RowKit

/-- A wait is ok: at a cell, of at most so many bytes. -/
def waitB (p : Int × ByteArray) : Bool := decide (0 ≤ p.1 ∧ p.1 ≤ 41) && decide (p.2.size ≤ 1200)
def shortB (s : ByteArray) : Bool := decide (s.size ≤ 1200)
/-- A disk is ok. -/
def diskB (cs : List ByteArray) (ws : List (Int × ByteArray)) (room left : Int) : Bool := decide (cs.length = 42) && decide (ws.length ≤ 100) && decide (-1 ≤ room) && decide (-1 ≤ left) && cs.all shortB && ws.all waitB

theorem inD_any (w : World) (n a b : Int) : Calls Try.prog 43 #[.int .i64 n, .int .i64 a, .int .i64 b] w fun e w' => e = .returned (.bool (decide (a ≤ n ∧ n ≤ b))) ∧ w' = w := by
  by_cases h : a ≤ n
  · have h' : decide (a ≤ n) = true := by simpa using h
    by_cases k : n ≤ b
    · rw [show decide (a ≤ n ∧ n ≤ b) = true by simp [h, k]]
      go_enter Try.func43, Try.ntmps43
      go_wp2
      go_ret
      exact ⟨rfl, rfl⟩
    · rw [show decide (a ≤ n ∧ n ≤ b) = false by simp; omega]
      have k' : decide (n ≤ b) = false := by simp; omega
      go_enter Try.func43, Try.ntmps43
      go_wp2
      go_ret
      exact ⟨rfl, rfl⟩
  · have h' : decide (a ≤ n) = false := by simpa using h
    rw [show decide (a ≤ n ∧ n ≤ b) = false by simp; omega]
    go_enter Try.func43, Try.ntmps43
    go_wp2
    go_ret
    exact ⟨rfl, rfl⟩

theorem isCell_any (w : World) (n : Int) : Calls Try.prog 40 #[.int .i64 n] w fun e w' => e = .returned (.bool (decide (0 ≤ n ∧ n ≤ 41))) ∧ w' = w := by
  by_cases h : 0 ≤ n
  · have h' : decide (0 ≤ n) = true := by simpa using h
    by_cases k : n < 42
    · rw [show decide (0 ≤ n ∧ n ≤ 41) = true by simp; omega]
      go_enter Try.func40, Try.ntmps40
      go_wp2
      go_ret
      exact ⟨rfl, rfl⟩
    · rw [show decide (0 ≤ n ∧ n ≤ 41) = false by simp; omega]
      have k' : decide (n < 42) = false := by simp; omega
      go_enter Try.func40, Try.ntmps40
      go_wp2
      go_ret
      exact ⟨rfl, rfl⟩
  · have h' : decide (0 ≤ n) = false := by simpa using h
    rw [show decide (0 ≤ n ∧ n ≤ 41) = false by simp; omega]
    go_enter Try.func40, Try.ntmps40
    go_wp2
    go_ret
    exact ⟨rfl, rfl⟩

theorem waitOk_any (w : World) (a : Int) (t : ByteArray) (ht : t.size ≤ maxLen) : Calls Try.prog 30 #[.agg #[.int .i64 a, .string t]] w fun e w' => e = .returned (.bool (waitB (a, t))) ∧ Below w.heap.size w w' := by
  unfold maxLen at ht
  unfold waitB
  have C := fun W => isCell_any W a
  generalize decide (0 ≤ a ∧ a ≤ 41) = d at C ⊢
  by_cases k : t.size ≤ 1200
  · rw [show decide (t.size ≤ 1200) = true by simpa using k]
    have k' : decide ((t.size : Int) ≤ 1200) = true := by simp; omega
    cases d
    all_goals
      go_enter Try.func30, Try.ntmps30
      go_wp2_with fail
      refine (C _).mono ?_
      rintro e w1 ⟨rfl, rfl⟩
      go_wp2
      go_ret
      exact ⟨rfl, (Below.refl _ _).alloc (Nat.le_refl _) _⟩
  · rw [show decide (t.size ≤ 1200) = false by simpa using k]
    have k' : decide ((t.size : Int) ≤ 1200) = false := by simp; omega
    cases d
    all_goals
      go_enter Try.func30, Try.ntmps30
      go_wp2_with fail
      refine (C _).mono ?_
      rintro e w1 ⟨rfl, rfl⟩
      go_wp2
      go_ret
      exact ⟨rfl, (Below.refl _ _).alloc (Nat.le_refl _) _⟩

theorem l7Wait_any (w : World) (a : Int) (t : ByteArray) (ht : t.size ≤ maxLen) : Calls Try.prog 38 #[.agg #[.int .i64 a, .string t]] w fun e w' => e = .returned (.bool (waitB (a, t))) ∧ Below w.heap.size w w' := by
  unfold maxLen at ht
  unfold waitB
  have C := fun W => inD_any W a 0 41
  generalize decide (0 ≤ a ∧ a ≤ 41) = d at C ⊢
  by_cases k : t.size ≤ 1200
  · rw [show decide (t.size ≤ 1200) = true by simpa using k]
    have k' : decide ((t.size : Int) ≤ 1200) = true := by simp; omega
    cases d
    all_goals
      go_enter Try.func38, Try.ntmps38
      go_wp2_with fail
      refine (C _).mono ?_
      rintro e w1 ⟨rfl, rfl⟩
      go_wp2
      go_ret
      exact ⟨rfl, (Below.refl _ _).alloc (Nat.le_refl _) _⟩
  · rw [show decide (t.size ≤ 1200) = false by simpa using k]
    have k' : decide ((t.size : Int) ≤ 1200) = false := by simp; omega
    cases d
    all_goals
      go_enter Try.func38, Try.ntmps38
      go_wp2_with fail
      refine (C _).mono ?_
      rintro e w1 ⟨rfl, rfl⟩
      go_wp2
      go_ret
      exact ⟨rfl, (Below.refl _ _).alloc (Nat.le_refl _) _⟩

/-- The closures of DiskOk. -/
theorem isLong_any (w : World) (t : ByteArray) (ht : t.size ≤ maxLen) : Calls Try.prog 28 #[.string t] w fun e w' => e = .returned (.bool (!shortB t)) ∧ Below w.heap.size w w' := by
  unfold maxLen at ht
  unfold shortB
  by_cases k : t.size ≤ 1200
  · rw [show decide (t.size ≤ 1200) = true by simpa using k]
    have k' : decide ((1200 : Int) < t.size) = false := by simp; omega
    go_enter Try.func28, Try.ntmps28
    go_wp2
    go_ret
    exact ⟨rfl, Below.refl _ _⟩
  · rw [show decide (t.size ≤ 1200) = false by simpa using k]
    have k' : decide ((1200 : Int) < t.size) = true := by simp; omega
    go_enter Try.func28, Try.ntmps28
    go_wp2
    go_ret
    exact ⟨rfl, Below.refl _ _⟩

theorem isBad_any (w : World) (a : Int) (t : ByteArray) (ht : t.size ≤ maxLen) : Calls Try.prog 29 #[.agg #[.int .i64 a, .string t]] w fun e w' => e = .returned (.bool (!waitB (a, t))) ∧ Below w.heap.size w w' := by
  have C := fun W => waitOk_any W a t ht
  generalize waitB (a, t) = d at C ⊢
  cases d
  all_goals
    go_enter Try.func29, Try.ntmps29
    go_wp2_with fail
    refine (C _).mono ?_
    rintro e w1 ⟨rfl, b1⟩
    go_wp2
    go_ret
    exact ⟨rfl, by first | exact b1 | exact ((Below.refl _ _).alloc (Nat.le_refl _) _).trans (b1.mono (by simp))⟩

theorem indexS_any (w : World) (v : Value) (l : List ByteArray) (hr : ReadsS w v l) :
    Calls Try.prog 41 #[v, .func (.func 28) #[] #[]] w fun e w' => (∃ r : Int, e = .returned (.int .i64 r) ∧ decide (0 ≤ r) = !l.all shortB) ∧ Below w.heap.size w w' := by
  obtain ⟨ao, b, off, cap, rfl, hr⟩ := hr
  have h1 := hr.le
  have h2 := hr.big
  unfold maxLen at h2
  go_enter Try.func41, Try.ntmps41
  go_wp2
  go_loopw [8] (fun i wr => ∃ k : Nat, k ≤ l.length ∧ i = .int .i64 k ∧ (l.take k).all shortB = true ∧ Below w.heap.size w wr) (fun i _ => l.length - (intOf i).toNat)
  case atStart => exact ⟨0, Nat.zero_le _, rfl, by simp, Below.refl _ _⟩
  case round =>
    obtain ⟨k, hk, rfl, ht, hbel⟩ := hrel
    have Ht := hide ht
    clear ht
    by_cases hlt : k < l.length
    · have hs := hr.siz k hlt
      have hcc := (hr.later hbel).cell k hlt

      have hat := hr.at_ (by omega)
      subst hat
      clear hr
      have C := fun W => isLong_any W _ hs
      by_cases hg : shortB l[k] = true
      · have hg' : (!shortB l[k]) = false := by rw [hg]; rfl
        have Hg := hide hg
        clear hg
        go_wp2_with fail
        refine (C _).mono ?_
        rintro e w1 ⟨rfl, b1⟩
        go_wp2
        go_roundw
        case rel => exact ⟨k + 1, by omega, by go_num, by rw [List.take_succ_eq_append_getElem hlt, List.all_append, unhide Ht]; simpa using unhide Hg, hbel.trans (b1.mono hbel.size)⟩
        case measure => simp [intOf]; omega
      · have hg' : (!shortB l[k]) = true := by simpa using hg
        have Hg := hide hg
        clear hg
        go_wp2_with fail
        refine (C _).mono ?_
        rintro e w1 ⟨rfl, b1⟩
        go_wp2
        go_ret
        refine ⟨⟨k, rfl, ?_⟩, hbel.trans (b1.mono hbel.size)⟩
        have e : l.all shortB = false := by
          rw [List.all_eq_false]
          exact ⟨l[k], List.getElem_mem hlt, unhide Hg⟩
        rw [e]
        simp
    · go_wp2
      go_ret
      refine ⟨⟨-1, rfl, ?_⟩, hbel⟩
      have := unhide Ht
      rw [List.take_of_length_le (by omega)] at this
      rw [this]
      rfl

theorem indexS_anyC (w : World) (v : Value) (l : List ByteArray) (hr : ReadsS w v l) :
    Calls Try.prog 31 #[v, .func (.func 28) #[] #[]] w fun e w' => e = .returned (.bool (!l.all shortB)) ∧ Below w.heap.size w w' := by
  have C := indexS_any w v l hr
  generalize (!l.all shortB) = d at C ⊢
  have H := hide C
  clear C
  obtain ⟨ao, b, off, cap, rfl, hr⟩ := hr
  go_enter Try.func31, Try.ntmps31
  go_wp2_with fail
  refine (unhide H).mono ?_
  rintro e w1 ⟨⟨r, rfl, hd⟩, b1⟩
  subst hd
  go_wp2
  go_ret
  exact ⟨rfl, b1⟩

theorem indexW_any (w : World) (v : Value) (l : List (Int × ByteArray)) (hr : ReadsW w v l) :
    Calls Try.prog 42 #[v, .func (.func 29) #[] #[]] w fun e w' => (∃ r : Int, e = .returned (.int .i64 r) ∧ decide (0 ≤ r) = !l.all waitB) ∧ Below w.heap.size w w' := by
  obtain ⟨ao, b, off, cap, rfl, hr⟩ := hr
  have h1 := hr.le
  have h2 := hr.big
  unfold maxLen at h2
  go_enter Try.func42, Try.ntmps42
  go_wp2
  go_loopw [8] (fun i wr => ∃ k : Nat, k ≤ l.length ∧ i = .int .i64 k ∧ (l.take k).all waitB = true ∧ Below w.heap.size w wr) (fun i _ => l.length - (intOf i).toNat)
  case atStart => exact ⟨0, Nat.zero_le _, rfl, by simp, Below.refl _ _⟩
  case round =>
    obtain ⟨k, hk, rfl, ht, hbel⟩ := hrel
    have Ht := hide ht
    clear ht
    by_cases hlt : k < l.length
    · have hs := hr.siz k hlt
      have hcc := (hr.later hbel).cell k hlt
      obtain ⟨hc0, hc1⟩ := hcc
      have hat := hr.at_ (by omega)
      subst hat
      clear hr
      have C := fun W => isBad_any W l[k].1 l[k].2 hs
      by_cases hg : waitB l[k] = true
      · have hg' : (!waitB l[k]) = false := by rw [hg]; rfl
        have Hg := hide hg
        clear hg
        go_wp2_with fail
        refine (C _).mono ?_
        rintro e w1 ⟨rfl, b1⟩
        go_wp2
        go_roundw
        case rel => exact ⟨k + 1, by omega, by go_num, by rw [List.take_succ_eq_append_getElem hlt, List.all_append, unhide Ht]; simpa using unhide Hg, hbel.trans (b1.mono hbel.size)⟩
        case measure => simp [intOf]; omega
      · have hg' : (!waitB l[k]) = true := by simpa using hg
        have Hg := hide hg
        clear hg
        go_wp2_with fail
        refine (C _).mono ?_
        rintro e w1 ⟨rfl, b1⟩
        go_wp2
        go_ret
        refine ⟨⟨k, rfl, ?_⟩, hbel.trans (b1.mono hbel.size)⟩
        have e : l.all waitB = false := by
          rw [List.all_eq_false]
          exact ⟨l[k], List.getElem_mem hlt, unhide Hg⟩
        rw [e]
        simp
    · go_wp2
      go_ret
      refine ⟨⟨-1, rfl, ?_⟩, hbel⟩
      have := unhide Ht
      rw [List.take_of_length_le (by omega)] at this
      rw [this]
      rfl

theorem indexW_anyC (w : World) (v : Value) (l : List (Int × ByteArray)) (hr : ReadsW w v l) :
    Calls Try.prog 32 #[v, .func (.func 29) #[] #[]] w fun e w' => e = .returned (.bool (!l.all waitB)) ∧ Below w.heap.size w w' := by
  have C := indexW_any w v l hr
  generalize (!l.all waitB) = d at C ⊢
  have H := hide C
  clear C
  obtain ⟨ao, b, off, cap, rfl, hr⟩ := hr
  go_enter Try.func32, Try.ntmps32
  go_wp2_with fail
  refine (unhide H).mono ?_
  rintro e w1 ⟨⟨r, rfl, hd⟩, b1⟩
  subst hd
  go_wp2
  go_ret
  exact ⟨rfl, b1⟩

end Go.Proofs.Ytmbkjbjmpemgoaa
