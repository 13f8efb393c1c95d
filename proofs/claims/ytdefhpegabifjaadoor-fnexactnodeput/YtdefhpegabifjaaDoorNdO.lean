/- Whether a node is ok: its keys, of both. -/
import Derived.Test.YtdefhpegabifjaaDoorNdC
import Derived.WalkKit
namespace Go.Proofs.YtdefhpegabifjaaDoor
open Go.RowKit
set_option maxRecDepth 100000
set_option linter.unusedSimpArgs false
set_option linter.unusedVariables false

/-- A text is not above another one. -/
def leB (s t : ByteArray) : Bool := Op.bytesLess s.toList t.toList || s.toList == t.toList
/-- A text can be a key; can be a key's text; a number is a node's. -/
def keyL (s : ByteArray) : Bool := decide (1 ≤ s.size) && decide (s.size ≤ 96)
def valL (s : ByteArray) : Bool := decide (s.size ≤ 140)
def isN (n : Int) : Bool := decide (0 ≤ n) && decide (n ≤ 18)
/-- Each text is above the one ahead of it. -/
def ascB (l : List ByteArray) : Bool := (List.range (l.length - 1)).all (fun j => if h : j + 1 < l.length then !leB l[j + 1] l[j] else true)
def AscTo (l : List ByteArray) (k : Nat) : Prop := ∀ j (h : j + 1 < l.length), j + 1 < k → leB l[j + 1] l[j] = false

theorem asc_all {l : List ByteArray} (h : AscTo l l.length) : ascB l = true := by
  unfold ascB
  rw [List.all_eq_true]
  intro j hj
  rw [List.mem_range] at hj
  rw [dif_pos (by omega), h j (by omega) (by omega)]
  rfl
theorem asc_bad {l : List ByteArray} {j : Nat} (h : j + 1 < l.length) (e : leB l[j + 1] l[j] = true) : ascB l = false := by
  unfold ascB
  rw [List.all_eq_false]
  refine ⟨j, by rw [List.mem_range]; omega, ?_⟩
  rw [dif_pos h, e]
  simp
theorem asc_next {l : List ByteArray} {k : Nat} (h : AscTo l (k + 1)) (hk : k + 1 < l.length) (e : leB l[k + 1] l[k] = false) : AscTo l (k + 1 + 1) := by
  intro j hj hjk
  by_cases q : j = k
  · subst q; exact e
  · exact h j hj (by omega)
theorem asc_of {l : List ByteArray} (h : ascB l = true) : AscTo l l.length := by
  intro j hj _
  unfold ascB at h
  rw [List.all_eq_true] at h
  have := h j (by rw [List.mem_range]; omega)
  rw [dif_pos hj] at this
  simpa using this

/-- Keys are ok. -/
def keysB (l : List ByteArray) : Bool := decide (l.length ≤ 4) && l.all keyL && ascB l

theorem areAsc_any (w : World) (v : Value) (l : List ByteArray) (hr : ReadsS w v l) :
    Calls Tryd.prog 40 #[v] w fun e w' => e = .returned (.bool (ascB l)) ∧ Below w.heap.size w w' := by
  obtain ⟨ao, b, off, cap, rfl, hr⟩ := hr
  have h1 := hr.le
  have h2 := hr.big
  have HA := hide (asc_all (l := l))
  have HB := hide (fun j h e => asc_bad (l := l) (j := j) h e)
  generalize ascB l = g at *
  unfold maxLen at h2
  go_enter Tryd.func40, Tryd.ntmps40
  go_wp2
  go_loopw [3] (fun i wr => ∃ k : Nat, 1 ≤ k ∧ i = .int .i64 k ∧ k ≤ l.length + 1 ∧ Hid (AscTo l k) ∧ Below w.heap.size w wr) (fun i _ => l.length - (intOf i).toNat)
  case atStart => exact ⟨1, Nat.le_refl _, rfl, by omega, hide (fun j _ h => by omega), Below.refl _ _⟩
  case round =>
    obtain ⟨k, h1k, rfl, hk, hx, hbel⟩ := hrel
    by_cases hlt : k < l.length
    · obtain ⟨j, rfl⟩ : ∃ j, k = j + 1 := ⟨k - 1, by omega⟩
      have hc := (hr.later hbel).cell (j + 1) hlt
      have hc2 := (hr.later hbel).cell j (by omega)
      have hw : IntKind.i64.wrap (((j + 1 : Nat) : Int) - 1) = (j : Int) := by rw [IntKind.wrap_i64]; omega
      have hw1 : ((j + 1 : Nat) : Int) - 1 = (j : Int) := by omega
      have hat := hr.at_ (by omega)
      subst hat
      have HN := hide (fun e => asc_next (l := l) (k := j) (unhide hx) hlt e)
      have HB2 := hide (fun e => unhide HB j hlt e)
      clear hr hx HB
      have hle : leB l[j + 1] l[j] = (Op.bytesLess l[j + 1].toList l[j].toList || l[j + 1].toList == l[j].toList) := rfl
      cases hq : leB l[j + 1] l[j] with
      | true =>
        rw [hq] at hle
        have HL := hide hle.symm
        clear hle
        have E := hide (unhide HB2 hq)
        clear HB2 HN hq
        generalize l[j + 1] = s at *
        generalize l[j] = t at *
        go_wp2
        go_quiet (fail)
        rw [unhide HL]
        clear HL
        go_wp2
        go_ret
        exact ⟨by rw [unhide E]; rfl, below_draws hbel _⟩
      | false =>
        rw [hq] at hle
        have HL := hide hle.symm
        clear hle
        have E := hide (unhide HN hq)
        clear HB2 HN hq
        generalize l[j + 1] = s at *
        generalize l[j] = t at *
        go_wp2
        go_quiet (fail)
        rw [unhide HL]
        clear HL
        go_wp2
        go_roundw
        case rel => exact ⟨j + 1 + 1, by omega, by go_num, by omega, E, below_draws hbel _⟩
        case measure => simp [intOf]; omega
    · have E := hide (unhide HA (fun j hj hjk => unhide hx j hj (by omega)))
      clear hx HA HB
      go_wp2
      go_ret
      exact ⟨by rw [unhide E]; rfl, hbel⟩

end Go.Proofs.YtdefhpegabifjaaDoor
