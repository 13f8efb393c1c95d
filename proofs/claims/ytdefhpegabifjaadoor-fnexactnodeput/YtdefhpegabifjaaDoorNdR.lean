/- Whether a node is ok, of the specification; whether it is nothing. -/
import Derived.Test.YtdefhpegabifjaaDoorNdQ
namespace Go.Proofs.YtdefhpegabifjaaDoor
open Go.RowKit
set_option maxRecDepth 100000
set_option linter.unusedSimpArgs false
set_option linter.unusedVariables false

theorem inN_any (w : World) (n a b : Int) : Calls Tryd.prog 36 #[.int .i64 n, .int .i64 a, .int .i64 b] w fun e w' => e = .returned (.bool (decide (a ≤ n ∧ n ≤ b))) ∧ w' = w := by
  by_cases h : a ≤ n
  · have h' : decide (a ≤ n) = true := by simpa using h
    by_cases k : n ≤ b
    · rw [show decide (a ≤ n ∧ n ≤ b) = true by simp [h, k]]
      go_enter Tryd.func36, Tryd.ntmps36
      go_wp2
      go_ret
      exact ⟨rfl, rfl⟩
    · rw [show decide (a ≤ n ∧ n ≤ b) = false by simp; omega]
      have k' : decide (n ≤ b) = false := by simp; omega
      go_enter Tryd.func36, Tryd.ntmps36
      go_wp2
      go_ret
      exact ⟨rfl, rfl⟩
  · have h' : decide (a ≤ n) = false := by simpa using h
    rw [show decide (a ≤ n ∧ n ≤ b) = false by simp; omega]
    go_enter Tryd.func36, Tryd.ntmps36
    go_wp2
    go_ret
    exact ⟨rfl, rfl⟩

theorem keyL_in (s : ByteArray) : decide ((1 : Int) ≤ s.size ∧ (s.size : Int) ≤ 96) = keyL s := by
  unfold keyL
  by_cases h : 1 ≤ s.size
  · by_cases k : s.size ≤ 96
    · simp [h, k]; omega
    · simp [h, k]; omega
  · simp [h]; omega
theorem isN_in (n : Int) : decide ((0 : Int) ≤ n ∧ n ≤ 18) = isN n := by
  unfold isN
  by_cases h : 0 ≤ n
  · by_cases k : n ≤ 18
    · simp [h, k]
    · simp [h, k]
  · simp [h]

/-- Keys up to a place. -/
def KeyTo (l : List ByteArray) (k : Nat) : Prop := AscTo l k ∧ (l.take k).all keyL = true

set_option maxHeartbeats 2000000 in
theorem l9KeysOk_any (w : World) (v : Value) (l : List ByteArray) (hr : ReadsS w v l) :
    Calls Tryd.prog 35 #[v] w fun e w' => e = .returned (.bool (keysB l)) ∧ Below w.heap.size w w' := by
  obtain ⟨ao, b, off, cap, rfl, hr⟩ := hr
  have h1 := hr.le
  have h2 := hr.big
  have HA := hide (show KeyTo l l.length → keysB l = decide (l.length ≤ 4) from fun h => by
    have e2 := h.2
    rw [List.take_length] at e2
    unfold keysB
    rw [asc_all h.1, e2]
    simp)
  have HB := hide (fun j h e => show keysB l = false by unfold keysB; rw [asc_bad (l := l) (j := j) h e]; simp)
  have HK := hide (fun j (h : j < l.length) (e : keyL l[j] = false) => show keysB l = false by
    unfold keysB
    rw [show l.all keyL = false by rw [List.all_eq_false]; exact ⟨l[j], List.getElem_mem h, by simp [e]⟩]
    simp)
  generalize keysB l = g at *
  unfold maxLen at h2
  go_enter Tryd.func35, Tryd.ntmps35
  go_wp2
  go_loopw [3] (fun i wr => ∃ k : Nat, i = .int .i64 k ∧ k ≤ l.length ∧ Hid (KeyTo l k) ∧ Below w.heap.size w wr) (fun i _ => l.length - (intOf i).toNat)
  case atStart => exact ⟨0, rfl, by omega, hide ⟨fun j _ h => by omega, by simp⟩, Below.refl _ _⟩
  case round =>
    obtain ⟨k, rfl, hk, hx, hbel⟩ := hrel
    by_cases hlt : k < l.length
    · have hc := (hr.later hbel).cell k hlt
      have hs := hr.siz k hlt
      have hat := hr.at_ (by omega)
      subst hat
      have CI := fun W => inN_any W ((l[k].size : Nat) : Int) 1 96
      rw [keyL_in] at CI
      have HK2 := hide (fun e => unhide HK k hlt e)
      cases hq : keyL l[k] with
      | false =>
        rw [hq] at CI
        have CI := hide CI
        have E := hide (unhide HK2 hq)
        clear HA HB HK HK2 hq hx hr
        generalize l[k] = s at *
        unfold maxLen at hs
        go_wp2
        go_quiet (first | (go_at_call 36; refine Calls.quiet_of_same (unhide CI _)))
        go_wp2
        go_ret
        exact ⟨by rw [unhide E]; rfl, below_draws hbel _⟩
      | true =>
        rw [hq] at CI
        have CI := hide CI
        have hall : (l.take (k + 1)).all keyL = true := by rw [List.take_succ_eq_append_getElem hlt, List.all_append, (unhide hx).2]; simpa using hq
        have HALL := hide hall
        clear hall HK HK2
        by_cases hk0 : k = 0
        · have E := hide (show KeyTo l (k + 1) from ⟨fun j _ h => by omega, unhide HALL⟩)
          have hj0 : decide ((0 : Int) < (k : Int)) = false := by simp; omega
          have hj1 : decide (0 < k) = false := by simp; omega
          clear HA HB hq hx hr HALL hk0
          generalize l[k] = s at *
          unfold maxLen at hs
          go_wp2
          go_quiet (first | (go_at_call 36; refine Calls.quiet_of_same (unhide CI _)))
          go_wp2
          go_roundw
          case rel => exact ⟨k + 1, by go_num, by omega, E, below_draws hbel _⟩
          case measure => simp [intOf]; omega
        · obtain ⟨j, rfl⟩ : ∃ j, k = j + 1 := ⟨k - 1, by omega⟩
          clear hk0
          have hc2 := (hr.later hbel).cell j (by omega)
          have hw : IntKind.i64.wrap (((j + 1 : Nat) : Int) - 1) = (j : Int) := by rw [IntKind.wrap_i64]; omega
          have hw1 : ((j + 1 : Nat) : Int) - 1 = (j : Int) := by omega
          have HN := hide (fun e => show KeyTo l (j + 1 + 1) from ⟨asc_next (l := l) (k := j) (unhide hx).1 hlt e, unhide HALL⟩)
          have HB2 := hide (fun e => unhide HB j hlt e)
          have hj0 : decide ((0 : Int) < ((j + 1 : Nat) : Int)) = true := by simp <;> omega
          clear hr hx HB HALL HA hq
          have hle : leB l[j + 1] l[j] = (Op.bytesLess l[j + 1].toList l[j].toList || l[j + 1].toList == l[j].toList) := rfl
          cases hq : leB l[j + 1] l[j] with
          | true =>
            rw [hq] at hle
            have HL := hide hle.symm
            clear hle
            have E := hide (unhide HB2 hq)
            clear HB2 HN hq
            generalize l[j + 1] = s at *
            generalize l[j] = t at *
            unfold maxLen at hs
            go_wp2
            go_quiet (first | (go_at_call 36; refine Calls.quiet_of_same (unhide CI _)))
            rw [unhide HL]
            clear HL
            go_wp2
            go_ret
            exact ⟨by rw [unhide E]; rfl, below_draws hbel _⟩
          | false =>
            rw [hq] at hle
            have HL := hide hle.symm
            clear hle
            have E := hide (unhide HN hq)
            clear HB2 HN hq
            generalize l[j + 1] = s at *
            generalize l[j] = t at *
            unfold maxLen at hs
            go_wp2
            go_quiet (first | (go_at_call 36; refine Calls.quiet_of_same (unhide CI _)))
            rw [unhide HL]
            clear HL
            go_wp2
            go_roundw
            case rel => exact ⟨j + 1 + 1, by go_num, by omega, E, below_draws hbel _⟩
            case measure => simp [intOf]; omega
    · have ek : k = l.length := by omega
      have E := hide (unhide HA (by have := unhide hx; rwa [ek] at this))
      clear hx HA HB HK
      by_cases g4 : l.length ≤ 4
      · have f4 : decide ((l.length : Int) ≤ 4) = true := by simp; omega
        rw [decide_eq_true g4] at E
        go_wp2
        go_ret
        exact ⟨by rw [unhide E]; rfl, hbel⟩
      · have f4 : decide ((l.length : Int) ≤ 4) = false := by simp; omega
        rw [decide_eq_false g4] at E
        go_wp2
        go_ret
        exact ⟨by rw [unhide E]; rfl, hbel⟩

end Go.Proofs.YtdefhpegabifjaaDoor
