/- Whether a decimal may have that scale. DecOk of the program and of the specification. -/
import Derived.Test.YtdklikicngmkbaaGreatDoorProg
import Derived.WalkKit
import Derived.WalkSmall
import Derived.WalkLawsBesides
import Derived.Below
import Derived.Deep.QuietTactic
import Derived.BigQuiet
import Derived.Test.YtdklikicngmkbaaGreatDoorG06
import Derived.Test.YtdklikicngmkbaaGreatDoorG07
namespace Go.Proofs.YtdklikicngmkbaaGreatDoor
open Go.RowKit

theorem scaleOk_any (w : World) (s : Int) : Calls Tryz.prog 175 #[.int .i64 s] w fun e w' => e = .returned (.bool (decide (0 ≤ s ∧ s ≤ 12))) ∧ w' = w := by
  by_cases h : 0 ≤ s
  · have h' : decide (0 ≤ s) = true := by simpa using h
    by_cases k : s ≤ 12
    · rw [decide_eq_true ⟨h, k⟩]
      have k' : decide (s ≤ 12) = true := by simpa using k
      go_enter Tryz.func175, Tryz.ntmps175
      go_wp2
      go_ret
      exact ⟨rfl, rfl⟩
    · rw [decide_eq_false (fun e => k e.2)]
      have k' : decide (s ≤ 12) = false := by simpa using k
      go_enter Tryz.func175, Tryz.ntmps175
      go_wp2
      go_ret
      exact ⟨rfl, rfl⟩
  · have h' : decide (0 ≤ s) = false := by simpa using h
    rw [decide_eq_false (fun e => h e.1)]
    go_enter Tryz.func175, Tryz.ntmps175
    go_wp2
    go_ret
    exact ⟨rfl, rfl⟩

end Go.Proofs.YtdklikicngmkbaaGreatDoor

namespace Go.Proofs.YtdklikicngmkbaaGreatDoor
open Go.RowKit

/-- A decimal is ok. -/
def DecIs (p : Bool) (l : List Int) (s : Int) : Prop := OkBig p l ∧ (txtL l).length ≤ 30 ∧ 0 ≤ s ∧ s ≤ 12
def decD (p : Bool) (l : List Int) (s : Int) : Decidable (DecIs p l s) := by
  have := okD p l
  unfold DecIs
  exact inferInstance
def decB (p : Bool) (l : List Int) (s : Int) : Bool := @decide (DecIs p l s) (decD p l s)
theorem decB_true {p : Bool} {l : List Int} {s : Int} (h : DecIs p l s) : decB p l s = true := by simp [decB, h]
theorem decB_false {p : Bool} {l : List Int} {s : Int} (h : ¬ DecIs p l s) : decB p l s = false := by simp [decB, h]
theorem decB_iff {p : Bool} {l : List Int} {s : Int} : decB p l s = true ↔ DecIs p l s := by simp [decB]

theorem txtL_long {l : List Int} (hl : Lim l) : (txtL l).length ≤ 4 * l.length + 1 := by
  unfold txtL
  split
  · simp
  · rename_i h
    have h0 : 0 < l.length := List.length_pos_iff.2 h
    have := (txtAt_len hl 0 h0).1
    omega

theorem figuresOf_any (w : World) (p : Bool) (v : Value) (l : List Int) (hr : Reads w v l) (hl : Lim l) (hn : l.length ≤ 1000) (ht : Tab w) :
    Calls Tryz.prog 177 #[.agg #[.bool p, v]] w fun e w' => e = .returned (.int .i64 (txtL l).length) ∧ Below w.heap.size w w' := by
  have L1 := txtL_long hl
  have C := hide (fun W (hr : Reads W v l) (t : Tab W) => implText_any W v l hr hl hn t)
  have E := bytes_size (txtL l)
  have z1 : (⟨(txtL l).toArray⟩ : ByteArray).size ≤ 5000 := by omega
  generalize (⟨(txtL l).toArray⟩ : ByteArray) = t at *
  have HE := hide E
  clear E L1
  have HR := hide hr
  obtain ⟨ao, b, off, cap, rfl, hr0⟩ := hr
  clear hr0
  go_enter Tryz.func177, Tryz.ntmps177
  go_wp2_with fail
  refine (unhide C _ ((unhide HR).alloc _) (ht.later ((Below.refl _ _).alloc (Nat.le_refl _) _))).mono ?_
  rintro e w1 ⟨rfl, b1⟩
  go_wp2
  go_ret
  exact ⟨by rw [← unhide HE]; rfl, ((Below.refl _ _).alloc (Nat.le_refl _) _).trans (b1.mono (by simp))⟩

theorem l1Long_any (w : World) (v : Value) (l : List Int) (hr : Reads w v l) (hl : Lim l) (hn : l.length ≤ 1000) :
    Calls Tryz.prog 107 #[v] w fun e w' => e = .returned (.int .i64 ((if l.length = 0 then 0 else (txtL l).length : Nat) : Int)) ∧ Below w.heap.size w w' := by
  have L1 := txtL_long hl
  have C := hide (fun W (hr : Reads W v l) => l1Figures_any W v l hr hl hn)
  have E := bytes_size (txtL l)
  have z1 : (⟨(txtL l).toArray⟩ : ByteArray).size ≤ 5000 := by omega
  generalize (⟨(txtL l).toArray⟩ : ByteArray) = t at *
  have HR := hide hr
  obtain ⟨ao, b, off, cap, rfl, hr0⟩ := hr
  have h1 := hr0.le
  have h2 := hr0.big
  unfold maxLen at h2
  clear hr0
  by_cases h0 : l.length = 0
  · rw [if_pos h0]
    have e0 : ((l.length : Int) == 0) = true := by rw [beq_iff_eq]; omega
    clear E L1
    go_enter Tryz.func107, Tryz.ntmps107
    go_wp2
    go_ret
    exact ⟨rfl, Below.refl _ _⟩
  · rw [if_neg h0, ← E]
    have e0 : ((l.length : Int) == 0) = false := by rw [beq_eq_false_iff_ne]; omega
    clear E L1
    go_enter Tryz.func107, Tryz.ntmps107
    go_wp2_with fail
    refine (unhide C _ (unhide HR)).mono ?_
    rintro e w1 ⟨rfl, b1⟩
    go_wp2
    go_ret
    exact ⟨rfl, b1⟩

theorem implDecOk_any (w : World) (p : Bool) (v : Value) (l : List Int) (s : Int) (hr : Reads w v l) (ht : Tab w) :
    Calls Tryz.prog 125 #[.agg #[.bool p, v, .int .i64 s]] w fun e w' => e = .returned (.bool (decB p l s)) ∧ Below w.heap.size w w' := by
  have HR := hide hr
  have CO := fun W (hr : Reads W v l) => implBigOk_any W p v l hr
  have CS := fun W => scaleOk_any W s
  by_cases hs : 0 ≤ s ∧ s ≤ 12
  · rw [decide_eq_true hs] at CS
    by_cases ho : OkBig p l
    · rw [okB_true ho] at CO
      have CF := hide (fun W (hr : Reads W v l) (t : Tab W) => figuresOf_any W p v l hr ho.2.1 (by have := ho.1; omega) t)
      have L1 := txtL_long ho.2.1
      have L2 := ho.1
      have HO := hide CO
      have E : decB p l s = decide ((txtL l).length ≤ 30) := by
        by_cases h : (txtL l).length ≤ 30
        · rw [decB_true ⟨ho, h, hs⟩, decide_eq_true h]
        · rw [decB_false (fun k => h k.2.1), decide_eq_false h]
      rw [E]
      have hlim := ho
      clear CO E ho hs hlim
      generalize (txtL l).length = n at *
      obtain ⟨q, hq⟩ : ∃ q, decide (n ≤ 30) = q := ⟨_, rfl⟩
      have ek : decide ((n : Int) ≤ 30) = q := by rw [← hq]; by_cases h : n ≤ 30 <;> simp [h] <;> omega
      rw [hq]
      clear hq
      obtain ⟨ao, b, off, cap, rfl, hr0⟩ := hr
      clear hr0
      go_enter Tryz.func125, Tryz.ntmps125
      go_wp2_with fail
      refine (CS _).mono ?_
      rintro e w1 ⟨rfl, rfl⟩
      go_wp2_with fail
      refine (unhide HO _ ((unhide HR).alloc _)).mono ?_
      rintro e w1 ⟨rfl, b1⟩
      have B1 : Below w.heap.size w w1 := ((Below.refl _ _).alloc (Nat.le_refl _) _).trans (b1.mono (by simp))
      have l1 : w.heap.size < w1.heap.size := by have := b1.size; simp at this; omega
      have c0 : w1.cell? ⟨w.heap.size, 0, none⟩ = some (.bool p) := (b1.cell (p := ⟨w.heap.size, 0, none⟩) (by simp)).trans (by go_simp)
      have c1 : w1.cell? ⟨w.heap.size, 1, none⟩ = some (.slice ao l.length cap) := (b1.cell (p := ⟨w.heap.size, 1, none⟩) (by simp)).trans (by go_simp)
      clear b1
      go_wp2_with fail
      refine (unhide CF _ ((unhide HR).later B1) (ht.later B1)).mono ?_
      rintro e w2 ⟨rfl, b2⟩
      have B2 := B1.trans (b2.mono B1.size)
      go_wp2
      go_ret
      exact ⟨rfl, B2⟩
    · rw [okB_false ho] at CO
      rw [decB_false (fun k => ho k.1)]
      have HO := hide CO
      clear CO ho hs
      obtain ⟨ao, b, off, cap, rfl, hr0⟩ := hr
      clear hr0
      go_enter Tryz.func125, Tryz.ntmps125
      go_wp2_with fail
      refine (CS _).mono ?_
      rintro e w1 ⟨rfl, rfl⟩
      go_wp2_with fail
      refine (unhide HO _ ((unhide HR).alloc _)).mono ?_
      rintro e w1 ⟨rfl, b1⟩
      go_wp2
      go_ret
      exact ⟨rfl, ((Below.refl _ _).alloc (Nat.le_refl _) _).trans (b1.mono (by simp))⟩
  · rw [decide_eq_false hs] at CS
    rw [decB_false (fun k => hs k.2.2)]
    clear CO hs
    obtain ⟨ao, b, off, cap, rfl, hr0⟩ := hr
    clear hr0
    go_enter Tryz.func125, Tryz.ntmps125
    go_wp2_with fail
    refine (CS _).mono ?_
    rintro e w1 ⟨rfl, rfl⟩
    go_wp2
    go_ret
    exact ⟨rfl, (Below.refl _ _).alloc (Nat.le_refl _) _⟩

theorem l2Ok_any (w : World) (p : Bool) (v : Value) (l : List Int) (s : Int) (hr : Reads w v l) :
    Calls Tryz.prog 64 #[.agg #[.bool p, v, .int .i64 s]] w fun e w' => e = .returned (.bool (decB p l s)) ∧ Below w.heap.size w w' := by
  have HR := hide hr
  have CO := fun W (hr : Reads W v l) => l1Ok_any W p v l hr
  have CS := fun W => l1In_any W s 0 12
  by_cases ho : OkBig p l
  · rw [okB_true ho] at CO
    have CF := hide (fun W (hr : Reads W v l) => l1Long_any W v l hr ho.2.1 (by have := ho.1; omega))
    have L1 := txtL_long ho.2.1
    have L2 := ho.1
    have HO := hide CO
    have L0 : l.length = 0 → (txtL l).length = 1 := by intro h; rw [List.length_eq_zero_iff.1 h]; rfl
    by_cases hk : (txtL l).length ≤ 30
    · have E : decB p l s = decide (0 ≤ s ∧ s ≤ 12) := by
        by_cases h : 0 ≤ s ∧ s ≤ 12
        · rw [decB_true ⟨ho, hk, h⟩, decide_eq_true h]
        · rw [decB_false (fun k => h k.2.2), decide_eq_false h]
      rw [E]
      have hn : (if l.length = 0 then 0 else (txtL l).length) ≤ 30 := by split <;> omega
      clear CO E ho L0 L1 hk
      generalize (if l.length = 0 then 0 else (txtL l).length) = n at *
      generalize decide (0 ≤ s ∧ s ≤ 12) = q at *
      have ek : decide ((n : Int) ≤ 30) = true := by simp; omega
      obtain ⟨ao, b, off, cap, rfl, hr0⟩ := hr
      clear hr0
      go_enter Tryz.func64, Tryz.ntmps64
      go_wp2_with fail
      refine (unhide HO _ ((unhide HR).alloc _)).mono ?_
      rintro e w1 ⟨rfl, b1⟩
      have B1 : Below w.heap.size w w1 := ((Below.refl _ _).alloc (Nat.le_refl _) _).trans (b1.mono (by simp))
      have l1 : w.heap.size < w1.heap.size := by have := b1.size; simp at this; omega
      have c1 : w1.cell? ⟨w.heap.size, 1, none⟩ = some (.slice ao l.length cap) := (b1.cell (p := ⟨w.heap.size, 1, none⟩) (by simp)).trans (by go_simp)
      have c2 : w1.cell? ⟨w.heap.size, 2, none⟩ = some (.int .i64 s) := (b1.cell (p := ⟨w.heap.size, 2, none⟩) (by simp)).trans (by go_simp)
      clear b1
      go_wp2_with fail
      refine (unhide CF _ ((unhide HR).later B1)).mono ?_
      rintro e w2 ⟨rfl, b2⟩
      have B2 := B1.trans (b2.mono B1.size)
      have c3 := (b2.cell (p := ⟨w.heap.size, 2, none⟩) l1).trans c2
      clear b2 c1 c2
      go_wp2_with fail
      refine (CS _).mono ?_
      rintro e w3 ⟨rfl, rfl⟩
      go_wp2
      go_ret
      exact ⟨rfl, B2⟩
    · rw [decB_false (fun k => hk k.2.1)]
      have hn : 30 < (if l.length = 0 then 0 else (txtL l).length) := by split <;> omega
      have hm : (if l.length = 0 then 0 else (txtL l).length) ≤ 100 := by split <;> omega
      clear CO ho L0 L1 hk
      generalize (if l.length = 0 then 0 else (txtL l).length) = n at *
      have ek : decide ((n : Int) ≤ 30) = false := by simp; omega
      obtain ⟨ao, b, off, cap, rfl, hr0⟩ := hr
      clear hr0
      go_enter Tryz.func64, Tryz.ntmps64
      go_wp2_with fail
      refine (unhide HO _ ((unhide HR).alloc _)).mono ?_
      rintro e w1 ⟨rfl, b1⟩
      have B1 : Below w.heap.size w w1 := ((Below.refl _ _).alloc (Nat.le_refl _) _).trans (b1.mono (by simp))
      have l1 : w.heap.size < w1.heap.size := by have := b1.size; simp at this; omega
      have c1 : w1.cell? ⟨w.heap.size, 1, none⟩ = some (.slice ao l.length cap) := (b1.cell (p := ⟨w.heap.size, 1, none⟩) (by simp)).trans (by go_simp)
      clear b1
      go_wp2_with fail
      refine (unhide CF _ ((unhide HR).later B1)).mono ?_
      rintro e w2 ⟨rfl, b2⟩
      have B2 := B1.trans (b2.mono B1.size)
      go_wp2
      go_ret
      exact ⟨rfl, B2⟩
  · rw [okB_false ho] at CO
    rw [decB_false (fun k => ho k.1)]
    have HO := hide CO
    clear CO ho
    obtain ⟨ao, b, off, cap, rfl, hr0⟩ := hr
    clear hr0
    go_enter Tryz.func64, Tryz.ntmps64
    go_wp2_with fail
    refine (unhide HO _ ((unhide HR).alloc _)).mono ?_
    rintro e w1 ⟨rfl, b1⟩
    go_wp2
    go_ret
    exact ⟨rfl, ((Below.refl _ _).alloc (Nat.le_refl _) _).trans (b1.mono (by simp))⟩

end Go.Proofs.YtdklikicngmkbaaGreatDoor
