/- NameOk of the program, by a contract. -/
import Derived.Test.YtbfhnhhieenddaaNmA
import Derived.Test.YtbfhnhhieenddaaShelf
import Derived.Laws.EntriesVeiled
namespace Go.Proofs.Ytbfhnhhieenddaa
open Go.RowKit
set_option maxRecDepth 100000

theorem isFigure_any (w : World) (x : UInt8) : Calls Try.prog 7 #[.int .u8 x.toNat] w fun e w' => e = .returned (.bool (decide (fgB x))) ∧ w' = w := by
  have hx := x.toNat_lt
  by_cases h1 : 48 ≤ x.toNat
  · by_cases h2 : x.toNat ≤ 57
    · rw [show decide (fgB x) = true by simp [fgB, h1, h2]]
      have g2 : decide ((x.toNat : Int) ≤ 57) = true := by simp; omega
      go_enter Try.func7, Try.ntmps7
      go_wp2
      go_ret
      exact ⟨rfl, rfl⟩
    · rw [show decide (fgB x) = false by simp [fgB, h2]]
      have g2 : decide ((x.toNat : Int) ≤ 57) = false := by simp; omega
      go_enter Try.func7, Try.ntmps7
      go_wp2
      go_ret
      exact ⟨rfl, rfl⟩
  · rw [show decide (fgB x) = false by simp [fgB, h1]]
    go_enter Try.func7, Try.ntmps7
    go_wp2
    go_ret
    exact ⟨rfl, rfl⟩

theorem isNameByte_any (w : World) (x : UInt8) : Calls Try.prog 9 #[.int .u8 x.toNat] w fun e w' => e = .returned (.bool (decide (lowB x ∨ fgB x))) ∧ w' = w := by
  have C := hide (fun W => isFigure_any W x)
  have hx := x.toNat_lt
  by_cases h1 : 97 ≤ x.toNat
  · by_cases h2 : x.toNat ≤ 122
    · rw [show decide (lowB x ∨ fgB x) = true by simp [lowB, h1, h2]]
      go_enter Try.func9, Try.ntmps9
      go_wp2
      go_ret
      exact ⟨rfl, rfl⟩
    · have e : decide (lowB x ∨ fgB x) = decide (fgB x) := by simp [lowB, h2]
      rw [e]
      generalize decide (fgB x) = Q at *
      have g2 : decide ((x.toNat : Int) ≤ 122) = false := by simp; omega
      go_enter Try.func9, Try.ntmps9
      go_wp2_with fail
      refine (unhide C _).mono ?_
      rintro e w1 ⟨rfl, rfl⟩
      go_wp2
      go_ret
      exact ⟨rfl, rfl⟩
  · have e : decide (lowB x ∨ fgB x) = decide (fgB x) := by simp [lowB, h1]
    rw [e]
    generalize decide (fgB x) = Q at *
    go_enter Try.func9, Try.ntmps9
    go_wp2_with fail
    refine (unhide C _).mono ?_
    rintro e w1 ⟨rfl, rfl⟩
    go_wp2
    go_ret
    exact ⟨rfl, rfl⟩

/-- Bytes of a text in a row. -/
def Row8 (w : World) (b : Nat) (s : ByteArray) : Prop := ∀ i (h : i < s.size), w.cell? ⟨b, i, none⟩ = some (.int .u8 s[i].toNat)
theorem Row8.later {w w' : World} {b : Nat} {s : ByteArray} (h : Row8 w b s) (k : Below w.heap.size w w') : Row8 w' b s := fun i hi => cell_later k (h i hi)

theorem conv_row (w : World) (s : ByteArray) : ∃ cap w', (convert 9 25 (.string s)).run Try.prog w = .ok (.slice (some ⟨w.heap.size, 0, none⟩) s.size cap) w' ∧ Below w.heap.size w w' ∧ Row8 w' w.heap.size s := by
  refine ⟨_, _, run_bytes_of_string w 9 25 5 s Try.underlying9 Try.underlying25 Try.underlying5, ?_, ?_⟩
  · exact (Below.refl _ _).drew.alloc (Nat.le_refl _) _
  · intro i hi
    have hb := bytesRow_at s (grownCap w s.size 0 5) i (by simpa using hi)
    generalize bytesRow s (grownCap w s.size 0 5) = C at *
    have h : (w.drew.alloc (.cells C 5 (C.size, C.size + 1))).heap[w.heap.size]? = some (.cells C 5 (C.size, C.size + 1)) := by
      show (w.heap.push _)[w.heap.size]? = _
      simp
    unfold World.cell?
    simp only [h]
    exact hb

theorem closure_any (w : World) (k : Nat) (x : UInt8) (hk : w.cell? ⟨k, 0, none⟩ = some (.func (.func 9) #[] #[])) :
    Calls Try.prog 15 #[.int .u8 x.toNat, .pointer (some ⟨k, 0, none⟩)] w fun e w' => e = .returned (.bool (!(decide (lowB x ∨ fgB x)))) ∧ w' = w := by
  have C := hide (fun W => isNameByte_any W x)
  generalize decide (lowB x ∨ fgB x) = Q at *
  go_enter Try.func15, Try.ntmps15
  go_wp2_with fail
  refine (unhide C _).mono ?_
  rintro e w1 ⟨rfl, rfl⟩
  go_wp2
  go_ret
  exact ⟨rfl, rfl⟩

theorem indexFunc_any (w : World) (b k cap : Nat) (s : ByteArray) (hs : s.size ≤ 8) (hr : Row8 w b s) (hk : w.cell? ⟨k, 0, none⟩ = some (.func (.func 9) #[] #[])) :
    Calls Try.prog 17 #[.slice (some ⟨b, 0, none⟩) s.size cap, .func (.func 15) #[] #[.pointer (some ⟨k, 0, none⟩)]] w fun e w' => ∃ z : Int, e = .returned (.int .i64 z) ∧ (-1 ≤ z ∧ z ≤ 8) ∧ decide (0 ≤ z) = !(s.data.toList.all (fun x => decide (lowB x ∨ fgB x))) ∧ w' = w := by
  go_enter Try.func17, Try.ntmps17
  go_wp2_with fail
  go_loopw [8] (fun ii wr => ∃ i : Nat, ii = .int .i64 i ∧ i ≤ s.size ∧ (∀ j (h : j < s.size), j < i → lowB s[j] ∨ fgB s[j]) ∧ wr = w) (fun ii _ => s.size - (intOf ii).toNat)
  case atStart => exact ⟨0, rfl, Nat.zero_le _, fun j _ h => absurd h (Nat.not_lt_zero _), rfl⟩
  case round =>
    obtain ⟨i, rfl, hi, hF, rfl⟩ := hrel
    have HF := hide hF
    clear hF
    by_cases h : i < s.size
    · have c := hr i h
      have C := hide (closure_any wr k s[i] hk)
      by_cases ho : lowB s[i] ∨ fgB s[i]
      · rw [decide_eq_true ho] at C
        go_wp2_with fail
        refine (unhide C).mono ?_
        rintro e w1 ⟨rfl, hw⟩
        have hw' := hw.symm
        subst hw'
        clear hw C
        go_wp2
        go_roundw
        case rel =>
          refine ⟨i + 1, rfl, by omega, fun j hj hji => ?_, trivial⟩
          by_cases hji' : j < i
          · exact unhide HF j hj hji'
          · obtain rfl : j = i := by omega
            exact ho
        case measure => simp only [intOf]; omega
      · rw [decide_eq_false ho] at C
        have E : s.data.toList.all (fun x => decide (lowB x ∨ fgB x)) = false := by
          rw [List.all_eq_false]
          exact ⟨s[i], by rw [List.mem_iff_getElem]; exact ⟨i, by simpa using h, rfl⟩, by simpa using ho⟩
        have HE := hide E
        clear E ho
        go_wp2_with fail
        refine (unhide C).mono ?_
        rintro e w1 ⟨rfl, hw⟩
        have hw' := hw.symm
        subst hw'
        clear hw C
        go_wp2
        go_ret
        exact ⟨i, rfl, by omega, by rw [unhide HE]; simp, rfl⟩
    · have e : i = s.size := by omega
      have E := hide (nm_all (s := s) fun j hj => unhide HF j hj (by omega))
      go_wp2
      go_ret
      exact ⟨-1, rfl, by omega, by rw [unhide E]; simp, rfl⟩

theorem containsFunc_any (w : World) (b k cap : Nat) (s : ByteArray) (hs : s.size ≤ 8) (hr : Row8 w b s) (hk : w.cell? ⟨k, 0, none⟩ = some (.func (.func 9) #[] #[])) :
    Calls Try.prog 14 #[.slice (some ⟨b, 0, none⟩) s.size cap, .func (.func 15) #[] #[.pointer (some ⟨k, 0, none⟩)]] w fun e w' => e = .returned (.bool (!(s.data.toList.all (fun x => decide (lowB x ∨ fgB x))))) ∧ w' = w := by
  have C := hide (fun W hr hk => indexFunc_any W b k cap s hs hr hk)
  generalize s.data.toList.all (fun x => decide (lowB x ∨ fgB x)) = Q at *
  go_enter Try.func14, Try.ntmps14
  go_wp2_with fail
  refine (unhide C _ hr hk).mono ?_
  rintro e w1 ⟨z, rfl, hz1, hz2, hw⟩
  have hw' := hw.symm
  subst hw'
  have HZ := hide hz2
  clear hz2
  go_wp2
  go_ret
  exact ⟨by rw [← unhide HZ]; rfl, rfl⟩

theorem holdAll_any (w : World) (b cap : Nat) (s : ByteArray) (hs : s.size ≤ 8) (hr : Row8 w b s) :
    Calls Try.prog 8 #[.slice (some ⟨b, 0, none⟩) s.size cap, .func (.func 9) #[] #[]] w fun e w' => e = .returned (.bool (s.data.toList.all (fun x => decide (lowB x ∨ fgB x)))) ∧ Below w.heap.size w w' := by
  have B0 : Below w.heap.size w (w.alloc (.cells #[.func (.func 9) #[] #[]] 23)) := (Below.refl _ _).alloc (Nat.le_refl _) _
  have C := hide (containsFunc_any _ b w.heap.size cap s hs (hr.later B0) (by go_simp))
  generalize s.data.toList.all (fun x => decide (lowB x ∨ fgB x)) = Q at *
  go_enter Try.func8, Try.ntmps8
  go_wp2_with fail
  refine (unhide C).mono ?_
  rintro e w1 ⟨rfl, rfl⟩
  go_wp2
  go_ret
  exact ⟨by simp, B0⟩

theorem blanks (s : ByteArray) : ((⟨#[32]⟩ : ByteArray) ++ s ++ ⟨#[32]⟩).data.toList = 32 :: (s.data.toList ++ [32]) := by
  rw [ByteArray.data_append, ByteArray.data_append]
  simp

theorem contains_any (W : World) (s t : ByteArray) (m : Int) (ht : t.data.toList = wordsT) (hm : W.cell? ⟨0, 0, none⟩ = some (.int .i64 m)) :
    Calls Try.prog 10 #[.string t, .string (⟨#[32]⟩ ++ s ++ ⟨#[32]⟩)] W fun e w' => e = .returned (.bool (Lib.contains wordsT (32 :: (s.data.toList ++ [32])))) ∧ w' = W := by
  have hl : t.size < 4294967281 := by
    have e : t.size = t.data.toList.length := rfl
    rw [e, ht]
    decide +kernel
  have := Try.strings_Contains t (⟨#[32]⟩ ++ s ++ ⟨#[32]⟩) m W hl hm
  rw [ht, blanks] at this
  exact this

set_option maxHeartbeats 1000000 in
theorem implNameOk_any (w : World) (s : ByteArray) (m : Int) (hs : s.size ≤ maxLen) (hm : w.cell? ⟨0, 0, none⟩ = some (.int .i64 m)) :
    Calls Try.prog 5 #[.string s] w fun e w' => e = .returned (.bool (nameB s)) ∧ Below w.heap.size w w' := by
  unfold maxLen at hs
  by_cases h1 : 1 ≤ s.size
  · by_cases h2 : s.size ≤ 8
    · have h1' : decide ((s.size : Int) < 1) = false := by simp; omega
      have h2' : decide ((8 : Int) < s.size) = false := by simp; omega
      have h0 : 0 < s.size := h1
      have CF := hide (fun W => isFigure_any W s[0])
      by_cases hf : fgB s[0]
      · have E := hide (nm_first h0 hf)
        rw [decide_eq_true hf] at CF
        clear hf
        go_enter Try.func5, Try.ntmps5
        go_wp2_with fail
        refine (unhide CF _).mono ?_
        rintro e w1 ⟨rfl, hw⟩
        have hw' := hw.symm
        subst hw'
        go_wp2
        go_ret
        exact ⟨by rw [unhide E]; rfl, Below.refl _ _⟩
      · rw [decide_eq_false hf] at CF
        obtain ⟨cap, wz, hconv, bz, rz⟩ := conv_row w s
        have CH := hide (holdAll_any wz w.heap.size cap s h2 rz)
        cases hA : s.data.toList.all (fun x => decide (lowB x ∨ fgB x)) with
        | false =>
          have E := hide (show nameB s = false by unfold nameB; rw [hA]; simp)
          rw [hA] at CH
          clear hA hf
          go_enter Try.func5, Try.ntmps5
          go_wp2_with fail
          refine (unhide CF _).mono ?_
          rintro e w1 ⟨rfl, hw⟩
          have hw' := hw.symm
          subst hw'
          go_wp2_with fail
          refine (unhide CH).mono ?_
          rintro e w2 ⟨rfl, b2⟩
          go_wp2
          go_ret
          exact ⟨by rw [unhide E]; rfl, bz.trans (b2.mono bz.size)⟩
        | true =>
          have hall : ∀ i (hi : i < s.size), lowB s[i] ∨ fgB s[i] := fun i hi => of_decide_eq_true (List.all_eq_true.1 hA s[i] (by rw [List.mem_iff_getElem]; exact ⟨i, by simpa using hi, rfl⟩))
          have hbl : ∀ x ∈ s.data.toList, x ≠ 32 := by
            intro x hx e
            have := of_decide_eq_true (List.all_eq_true.1 hA x hx)
            subst e
            rcases this with ⟨k1, k2⟩ | ⟨k1, k2⟩
            · exact absurd k1 (by decide)
            · exact absurd k1 (by decide)
          have E := hide (show nameB s = !(Lib.contains wordsT (32 :: (s.data.toList ++ [32]))) by rw [contains_word hbl]; exact nm_yes h0 h2 hall hf)
          have CC := hide (fun W t ht (hm : W.cell? ⟨0, 0, none⟩ = some (.int .i64 m)) => contains_any W s t m ht hm)
          generalize Lib.contains wordsT (32 :: (s.data.toList ++ [32])) = Q at *
          rw [hA] at CH
          clear hA hf hall hbl
          go_enter Try.func5, Try.ntmps5
          go_wp2_with fail
          refine (unhide CF _).mono ?_
          rintro e w1 ⟨rfl, hw⟩
          have hw' := hw.symm
          subst hw'
          go_wp2_with fail
          refine (unhide CH).mono ?_
          rintro e w2 ⟨rfl, b2⟩
          have bw := bz.trans (b2.mono bz.size)
          have hm2 := cell_later bw hm
          go_wp2_with fail
          refine (unhide CC w2 _ (by decide +kernel) hm2).mono ?_
          rintro e w3 ⟨rfl, hw⟩
          have hw' := hw.symm
          subst hw'
          go_wp2
          go_ret
          exact ⟨by rw [unhide E]; rfl, bw⟩
    · have h2' : decide ((8 : Int) < s.size) = true := by simp; omega
      have h1' : decide ((s.size : Int) < 1) = false := by simp; omega
      have E := hide (nm_size (s := s) (by omega))
      go_enter Try.func5, Try.ntmps5
      go_wp2
      go_ret
      exact ⟨by rw [unhide E]; rfl, Below.refl _ _⟩
  · have h1' : decide ((s.size : Int) < 1) = true := by simp; omega
    have E := hide (nm_size (s := s) (by omega))
    go_enter Try.func5, Try.ntmps5
    go_wp2
    go_ret
    exact ⟨by rw [unhide E]; rfl, Below.refl _ _⟩

end Go.Proofs.Ytbfhnhhieenddaa
