/- Whether all of a list are so: holdAll of texts and of numbers, by function values. -/
import Derived.Test.YtdefhpegabifjaaDoorNdO
namespace Go.Proofs.YtdefhpegabifjaaDoor
open Go.RowKit
set_option maxRecDepth 100000
set_option linter.unusedSimpArgs false
set_option linter.unusedVariables false

theorem keyOk_any (w : World) (s : ByteArray) (hs : s.size ≤ maxLen) : Calls Tryd.prog 39 #[.string s] w fun e w' => e = .returned (.bool (keyL s)) ∧ w' = w := by
  unfold maxLen at hs
  unfold keyL
  by_cases h : 1 ≤ s.size
  · have k : decide ((1 : Int) ≤ s.size) = true := by simp; omega
    by_cases h2 : s.size ≤ 96
    · have k2 : decide ((s.size : Int) ≤ 96) = true := by simp; omega
      rw [decide_eq_true h, decide_eq_true h2]
      go_enter Tryd.func39, Tryd.ntmps39
      go_wp2
      go_ret
      exact ⟨rfl, rfl⟩
    · have k2 : decide ((s.size : Int) ≤ 96) = false := by simp; omega
      rw [decide_eq_true h, decide_eq_false h2]
      go_enter Tryd.func39, Tryd.ntmps39
      go_wp2
      go_ret
      exact ⟨rfl, rfl⟩
  · have k : decide ((1 : Int) ≤ s.size) = false := by simp; omega
    rw [decide_eq_false h]
    go_enter Tryd.func39, Tryd.ntmps39
    go_wp2
    go_ret
    exact ⟨rfl, rfl⟩

theorem valOk_any (w : World) (s : ByteArray) (hs : s.size ≤ maxLen) : Calls Tryd.prog 41 #[.string s] w fun e w' => e = .returned (.bool (valL s)) ∧ w' = w := by
  unfold maxLen at hs
  unfold valL
  by_cases h2 : s.size ≤ 140
  · have k2 : decide ((s.size : Int) ≤ 140) = true := by simp; omega
    rw [decide_eq_true h2]
    go_enter Tryd.func41, Tryd.ntmps41
    go_wp2
    go_ret
    exact ⟨rfl, rfl⟩
  · have k2 : decide ((s.size : Int) ≤ 140) = false := by simp; omega
    rw [decide_eq_false h2]
    go_enter Tryd.func41, Tryd.ntmps41
    go_wp2
    go_ret
    exact ⟨rfl, rfl⟩

theorem isNode_any (w : World) (n : Int) : Calls Tryd.prog 43 #[.int .i64 n] w fun e w' => e = .returned (.bool (isN n)) ∧ w' = w := by
  unfold isN
  by_cases h : 0 ≤ n
  · by_cases h2 : n ≤ 18
    · have k2 : decide (n < 19) = true := by simp; omega
      rw [decide_eq_true h, decide_eq_true h2]
      have k : decide (0 ≤ n) = true := by simpa using h
      go_enter Tryd.func43, Tryd.ntmps43
      go_wp2
      go_ret
      exact ⟨rfl, rfl⟩
    · have k2 : decide (n < 19) = false := by simp; omega
      rw [decide_eq_true h, decide_eq_false h2]
      have k : decide (0 ≤ n) = true := by simpa using h
      go_enter Tryd.func43, Tryd.ntmps43
      go_wp2
      go_ret
      exact ⟨rfl, rfl⟩
  · rw [decide_eq_false h]
    have k : decide (0 ≤ n) = false := by simpa using h
    go_enter Tryd.func43, Tryd.ntmps43
    go_wp2
    go_ret
    exact ⟨rfl, rfl⟩

theorem eachK_any (w : World) (a : Nat) (s : ByteArray) (hs : s.size ≤ maxLen) (hc : w.cell? ⟨a, 0, none⟩ = some (.func (.func 39) #[] #[])) :
    Calls Tryd.prog 52 #[.string s, .pointer (some ⟨a, 0, none⟩)] w fun e w' => e = .returned (.bool (!keyL s)) ∧ w' = w := by
  have C := fun W => keyOk_any W s hs
  generalize keyL s = d at *
  cases d
  all_goals
    go_enter Tryd.func52, Tryd.ntmps52
    go_wp2_with fail
    refine (C _).mono ?_
    rintro e w1 ⟨rfl, hw⟩
    subst hw
    go_wp2
    go_ret
    exact ⟨rfl, rfl⟩

theorem ixK_any (w : World) (a : Nat) (v : Value) (l : List ByteArray) (hr : ReadsS w v l) (hc : w.cell? ⟨a, 0, none⟩ = some (.func (.func 39) #[] #[])) :
    Calls Tryd.prog 58 #[v, .func (.func 52) #[] #[.pointer (some ⟨a, 0, none⟩)]] w fun e w' => (∃ r : Int, e = .returned (.int .i64 r) ∧ decide (0 ≤ r) = !l.all keyL) ∧ w' = w := by
  obtain ⟨ao, b, off, cap, rfl, hr⟩ := hr
  have h1 := hr.le
  have h2 := hr.big
  unfold maxLen at h2
  go_enter Tryd.func58, Tryd.ntmps58
  go_wp2
  go_loopw [8] (fun i wr => ∃ k : Nat, k ≤ l.length ∧ i = .int .i64 k ∧ Hid ((l.take k).all keyL = true) ∧ wr = w) (fun i _ => l.length - (intOf i).toNat)
  case atStart => exact ⟨0, Nat.zero_le _, rfl, hide (by simp), rfl⟩
  case round =>
    obtain ⟨k, hk, rfl, Ht, rfl⟩ := hrel
    by_cases hlt : k < l.length
    · have hs := hr.siz k hlt
      have hcc := hr.cell k hlt
      have hat := hr.at_ (by omega)
      subst hat
      clear hr
      have C := fun W h => eachK_any W a l[k] hs h
      by_cases hg : keyL l[k] = true
      · rw [hg] at C
        have C := hide C
        have E := hide (show (l.take (k + 1)).all keyL = true by rw [List.take_succ_eq_append_getElem hlt, List.all_append, unhide Ht]; simpa using hg)
        clear hg Ht
        go_wp2_with fail
        refine (unhide C _ hc).mono ?_
        rintro e w1 ⟨rfl, hw⟩
        subst hw
        go_wp2
        go_roundw
        case rel => exact ⟨k + 1, by omega, by go_num, E, trivial⟩
        case measure => simp [intOf]; omega
      · have E := hide (show l.all keyL = false by rw [List.all_eq_false]; exact ⟨l[k], List.getElem_mem hlt, hg⟩)
        rw [Bool.not_eq_true] at hg
        rw [hg] at C
        have C := hide C
        clear hg Ht
        go_wp2_with fail
        refine (unhide C _ hc).mono ?_
        rintro e w1 ⟨rfl, hw⟩
        subst hw
        go_wp2
        go_ret
        refine ⟨⟨k, rfl, ?_⟩, rfl⟩
        rw [unhide E]
        simp
    · go_wp2
      go_ret
      refine ⟨⟨-1, rfl, ?_⟩, rfl⟩
      have := unhide Ht
      rw [List.take_of_length_le (by omega)] at this
      rw [this]
      rfl

theorem hasK_any (w : World) (a : Nat) (v : Value) (l : List ByteArray) (hr : ReadsS w v l) (hc : w.cell? ⟨a, 0, none⟩ = some (.func (.func 39) #[] #[])) :
    Calls Tryd.prog 51 #[v, .func (.func 52) #[] #[.pointer (some ⟨a, 0, none⟩)]] w fun e w' => e = .returned (.bool (!l.all keyL)) ∧ w' = w := by
  have C := ixK_any w a v l hr hc
  generalize (!l.all keyL) = d at C ⊢
  have H := hide C
  clear C
  obtain ⟨ao, b, off, cap, rfl, hr⟩ := hr
  go_enter Tryd.func51, Tryd.ntmps51
  go_wp2_with fail
  refine (unhide H).mono ?_
  rintro e w1 ⟨⟨r, rfl, hd⟩, hw⟩
  subst hw
  subst hd
  go_wp2
  go_ret
  exact ⟨rfl, rfl⟩

theorem holdK_any (w : World) (v : Value) (l : List ByteArray) (hr : ReadsS w v l) :
    Calls Tryd.prog 38 #[v, .func (.func 39) #[] #[]] w fun e w' => e = .returned (.bool (l.all keyL)) ∧ Below w.heap.size w w' := by
  have C := hide (fun W a (b : Below w.heap.size w W) h => hasK_any W a v l (hr.later b) h)
  generalize l.all keyL = d at *
  obtain ⟨ao, b, off, cap, rfl, hr⟩ := hr
  clear hr
  have B0 := (Below.refl w.heap.size w).alloc (Nat.le_refl _) (.cells #[.func (.func 39) #[] #[]] 35)
  have hc0 : (w.alloc (.cells #[.func (.func 39) #[] #[]] 35)).cell? ⟨w.heap.size, 0, none⟩ = some (.func (.func 39) #[] #[]) := by go_simp
  cases d
  all_goals
    go_enter Tryd.func38, Tryd.ntmps38
    go_wp2_with fail
    refine (unhide C _ _ B0 hc0).mono ?_
    rintro e w1 ⟨rfl, hw⟩
    subst hw
    go_wp2
    go_ret
    exact ⟨rfl, B0⟩

theorem eachV_any (w : World) (a : Nat) (s : ByteArray) (hs : s.size ≤ maxLen) (hc : w.cell? ⟨a, 0, none⟩ = some (.func (.func 41) #[] #[])) :
    Calls Tryd.prog 52 #[.string s, .pointer (some ⟨a, 0, none⟩)] w fun e w' => e = .returned (.bool (!valL s)) ∧ w' = w := by
  have C := fun W => valOk_any W s hs
  generalize valL s = d at *
  cases d
  all_goals
    go_enter Tryd.func52, Tryd.ntmps52
    go_wp2_with fail
    refine (C _).mono ?_
    rintro e w1 ⟨rfl, hw⟩
    subst hw
    go_wp2
    go_ret
    exact ⟨rfl, rfl⟩

theorem ixV_any (w : World) (a : Nat) (v : Value) (l : List ByteArray) (hr : ReadsS w v l) (hc : w.cell? ⟨a, 0, none⟩ = some (.func (.func 41) #[] #[])) :
    Calls Tryd.prog 58 #[v, .func (.func 52) #[] #[.pointer (some ⟨a, 0, none⟩)]] w fun e w' => (∃ r : Int, e = .returned (.int .i64 r) ∧ decide (0 ≤ r) = !l.all valL) ∧ w' = w := by
  obtain ⟨ao, b, off, cap, rfl, hr⟩ := hr
  have h1 := hr.le
  have h2 := hr.big
  unfold maxLen at h2
  go_enter Tryd.func58, Tryd.ntmps58
  go_wp2
  go_loopw [8] (fun i wr => ∃ k : Nat, k ≤ l.length ∧ i = .int .i64 k ∧ Hid ((l.take k).all valL = true) ∧ wr = w) (fun i _ => l.length - (intOf i).toNat)
  case atStart => exact ⟨0, Nat.zero_le _, rfl, hide (by simp), rfl⟩
  case round =>
    obtain ⟨k, hk, rfl, Ht, rfl⟩ := hrel
    by_cases hlt : k < l.length
    · have hs := hr.siz k hlt
      have hcc := hr.cell k hlt
      have hat := hr.at_ (by omega)
      subst hat
      clear hr
      have C := fun W h => eachV_any W a l[k] hs h
      by_cases hg : valL l[k] = true
      · rw [hg] at C
        have C := hide C
        have E := hide (show (l.take (k + 1)).all valL = true by rw [List.take_succ_eq_append_getElem hlt, List.all_append, unhide Ht]; simpa using hg)
        clear hg Ht
        go_wp2_with fail
        refine (unhide C _ hc).mono ?_
        rintro e w1 ⟨rfl, hw⟩
        subst hw
        go_wp2
        go_roundw
        case rel => exact ⟨k + 1, by omega, by go_num, E, trivial⟩
        case measure => simp [intOf]; omega
      · have E := hide (show l.all valL = false by rw [List.all_eq_false]; exact ⟨l[k], List.getElem_mem hlt, hg⟩)
        rw [Bool.not_eq_true] at hg
        rw [hg] at C
        have C := hide C
        clear hg Ht
        go_wp2_with fail
        refine (unhide C _ hc).mono ?_
        rintro e w1 ⟨rfl, hw⟩
        subst hw
        go_wp2
        go_ret
        refine ⟨⟨k, rfl, ?_⟩, rfl⟩
        rw [unhide E]
        simp
    · go_wp2
      go_ret
      refine ⟨⟨-1, rfl, ?_⟩, rfl⟩
      have := unhide Ht
      rw [List.take_of_length_le (by omega)] at this
      rw [this]
      rfl

theorem hasV_any (w : World) (a : Nat) (v : Value) (l : List ByteArray) (hr : ReadsS w v l) (hc : w.cell? ⟨a, 0, none⟩ = some (.func (.func 41) #[] #[])) :
    Calls Tryd.prog 51 #[v, .func (.func 52) #[] #[.pointer (some ⟨a, 0, none⟩)]] w fun e w' => e = .returned (.bool (!l.all valL)) ∧ w' = w := by
  have C := ixV_any w a v l hr hc
  generalize (!l.all valL) = d at C ⊢
  have H := hide C
  clear C
  obtain ⟨ao, b, off, cap, rfl, hr⟩ := hr
  go_enter Tryd.func51, Tryd.ntmps51
  go_wp2_with fail
  refine (unhide H).mono ?_
  rintro e w1 ⟨⟨r, rfl, hd⟩, hw⟩
  subst hw
  subst hd
  go_wp2
  go_ret
  exact ⟨rfl, rfl⟩

theorem holdV_any (w : World) (v : Value) (l : List ByteArray) (hr : ReadsS w v l) :
    Calls Tryd.prog 38 #[v, .func (.func 41) #[] #[]] w fun e w' => e = .returned (.bool (l.all valL)) ∧ Below w.heap.size w w' := by
  have C := hide (fun W a (b : Below w.heap.size w W) h => hasV_any W a v l (hr.later b) h)
  generalize l.all valL = d at *
  obtain ⟨ao, b, off, cap, rfl, hr⟩ := hr
  clear hr
  have B0 := (Below.refl w.heap.size w).alloc (Nat.le_refl _) (.cells #[.func (.func 41) #[] #[]] 35)
  have hc0 : (w.alloc (.cells #[.func (.func 41) #[] #[]] 35)).cell? ⟨w.heap.size, 0, none⟩ = some (.func (.func 41) #[] #[]) := by go_simp
  cases d
  all_goals
    go_enter Tryd.func38, Tryd.ntmps38
    go_wp2_with fail
    refine (unhide C _ _ B0 hc0).mono ?_
    rintro e w1 ⟨rfl, hw⟩
    subst hw
    go_wp2
    go_ret
    exact ⟨rfl, B0⟩

theorem eachN_any (w : World) (a : Nat) (n : Int) (hc : w.cell? ⟨a, 0, none⟩ = some (.func (.func 43) #[] #[])) :
    Calls Tryd.prog 54 #[.int .i64 n, .pointer (some ⟨a, 0, none⟩)] w fun e w' => e = .returned (.bool (!isN n)) ∧ w' = w := by
  have C := fun W => isNode_any W n
  generalize isN n = d at *
  cases d
  all_goals
    go_enter Tryd.func54, Tryd.ntmps54
    go_wp2_with fail
    refine (C _).mono ?_
    rintro e w1 ⟨rfl, hw⟩
    subst hw
    go_wp2
    go_ret
    exact ⟨rfl, rfl⟩

theorem ixN_any (w : World) (a : Nat) (v : Value) (l : List Int) (hr : Reads w v l) (hc : w.cell? ⟨a, 0, none⟩ = some (.func (.func 43) #[] #[])) :
    Calls Tryd.prog 59 #[v, .func (.func 54) #[] #[.pointer (some ⟨a, 0, none⟩)]] w fun e w' => (∃ r : Int, e = .returned (.int .i64 r) ∧ decide (0 ≤ r) = !l.all isN) ∧ w' = w := by
  obtain ⟨ao, b, off, cap, rfl, hr⟩ := hr
  have h1 := hr.le
  have h2 := hr.big
  unfold maxLen at h2
  go_enter Tryd.func59, Tryd.ntmps59
  go_wp2
  go_loopw [8] (fun i wr => ∃ k : Nat, k ≤ l.length ∧ i = .int .i64 k ∧ Hid ((l.take k).all isN = true) ∧ wr = w) (fun i _ => l.length - (intOf i).toNat)
  case atStart => exact ⟨0, Nat.zero_le _, rfl, hide (by simp), rfl⟩
  case round =>
    obtain ⟨k, hk, rfl, Ht, rfl⟩ := hrel
    by_cases hlt : k < l.length
    · have hcc := hr.cell k hlt
      have hat := hr.at_ (by omega)
      subst hat
      clear hr
      have C := fun W h => eachN_any W a l[k] h
      by_cases hg : isN l[k] = true
      · rw [hg] at C
        have C := hide C
        have E := hide (show (l.take (k + 1)).all isN = true by rw [List.take_succ_eq_append_getElem hlt, List.all_append, unhide Ht]; simpa using hg)
        clear hg Ht
        go_wp2_with fail
        refine (unhide C _ hc).mono ?_
        rintro e w1 ⟨rfl, hw⟩
        subst hw
        go_wp2
        go_roundw
        case rel => exact ⟨k + 1, by omega, by go_num, E, trivial⟩
        case measure => simp [intOf]; omega
      · have E := hide (show l.all isN = false by rw [List.all_eq_false]; exact ⟨l[k], List.getElem_mem hlt, hg⟩)
        rw [Bool.not_eq_true] at hg
        rw [hg] at C
        have C := hide C
        clear hg Ht
        go_wp2_with fail
        refine (unhide C _ hc).mono ?_
        rintro e w1 ⟨rfl, hw⟩
        subst hw
        go_wp2
        go_ret
        refine ⟨⟨k, rfl, ?_⟩, rfl⟩
        rw [unhide E]
        simp
    · go_wp2
      go_ret
      refine ⟨⟨-1, rfl, ?_⟩, rfl⟩
      have := unhide Ht
      rw [List.take_of_length_le (by omega)] at this
      rw [this]
      rfl

theorem hasN_any (w : World) (a : Nat) (v : Value) (l : List Int) (hr : Reads w v l) (hc : w.cell? ⟨a, 0, none⟩ = some (.func (.func 43) #[] #[])) :
    Calls Tryd.prog 53 #[v, .func (.func 54) #[] #[.pointer (some ⟨a, 0, none⟩)]] w fun e w' => e = .returned (.bool (!l.all isN)) ∧ w' = w := by
  have C := ixN_any w a v l hr hc
  generalize (!l.all isN) = d at C ⊢
  have H := hide C
  clear C
  obtain ⟨ao, b, off, cap, rfl, hr⟩ := hr
  go_enter Tryd.func53, Tryd.ntmps53
  go_wp2_with fail
  refine (unhide H).mono ?_
  rintro e w1 ⟨⟨r, rfl, hd⟩, hw⟩
  subst hw
  subst hd
  go_wp2
  go_ret
  exact ⟨rfl, rfl⟩

theorem holdN_any (w : World) (v : Value) (l : List Int) (hr : Reads w v l) :
    Calls Tryd.prog 42 #[v, .func (.func 43) #[] #[]] w fun e w' => e = .returned (.bool (l.all isN)) ∧ Below w.heap.size w w' := by
  have C := hide (fun W a (b : Below w.heap.size w W) h => hasN_any W a v l (hr.later b) h)
  generalize l.all isN = d at *
  obtain ⟨ao, b, off, cap, rfl, hr⟩ := hr
  clear hr
  have B0 := (Below.refl w.heap.size w).alloc (Nat.le_refl _) (.cells #[.func (.func 43) #[] #[]] 52)
  have hc0 : (w.alloc (.cells #[.func (.func 43) #[] #[]] 52)).cell? ⟨w.heap.size, 0, none⟩ = some (.func (.func 43) #[] #[]) := by go_simp
  cases d
  all_goals
    go_enter Tryd.func42, Tryd.ntmps42
    go_wp2_with fail
    refine (unhide C _ _ B0 hc0).mono ?_
    rintro e w1 ⟨rfl, hw⟩
    subst hw
    go_wp2
    go_ret
    exact ⟨rfl, B0⟩

end Go.Proofs.YtdefhpegabifjaaDoor
