/- DecPut of the program and of the specification. -/
import Derived.Test.YtdklikicngmkbaaGreatDoorG08
import Derived.Test.YtdklikicngmkbaaGreatDoorG09
import Derived.Deep.RegionHeld3
namespace Go.Proofs.YtdklikicngmkbaaGreatDoor
open Go.RowKit

/-- The figures of a decimal, with noughts ahead, so that there is one ahead of the dot. -/
def figT (l : List Int) (s : Nat) : ByteArray := ⟨(List.replicate (s + 1 - (txtL l).length) 48 ++ txtL l).toArray⟩

/-- Figures with a dot ahead of the last ones. -/
def dotT (t : ByteArray) (s : Nat) : ByteArray := if s = 0 then t else t.extract 0 (t.size - s) ++ ⟨#[46]⟩ ++ t.extract (t.size - s) t.size

/-- The text of a decimal. -/
def decT (p : Bool) (l : List Int) (s : Nat) : ByteArray := ⟨(sgT p).toArray⟩ ++ dotT (figT l s) s

theorem figT_size {l : List Int} {s : Nat} (h : (txtL l).length ≤ 30) (hs : s ≤ 12) : s < (figT l s).size ∧ (figT l s).size ≤ 30 := by
  unfold figT
  rw [bytes_size, List.length_append, List.length_replicate]
  omega

set_option maxHeartbeats 1000000 in
theorem implDecPut_yes (w : World) (p : Bool) (v : Value) (l : List Int) (s : Nat) (hr : Reads w v l) (h : DecIs p l s) (ht : Tab w) :
    Calls Tryz.prog 286 #[.agg #[.bool p, v, .int .i64 s]] w fun e w' => e = .returned (.string (decT p l s)) ∧ Below w.heap.size w w' := by
  have CO := fun W (hr : Reads W v l) (t : Tab W) => implDecOk_any W p v l s hr t
  rw [decB_true h] at CO
  have HO := hide CO
  obtain ⟨ho, hk, hs0, hs⟩ := h
  have CT := hide (fun W (hr : Reads W v l) (t : Tab W) => implText_any W v l hr ho.2.1 (by have := ho.1; omega) t)
  have C1 := hide (fun W => signText_any W p v)
  have hsz := figT_size hk (by omega : s ≤ 12)
  have E := hide (show (⟨(sgT p).toArray⟩ : ByteArray) ++ dotT (figT l s) s = decT p l s from rfl)
  have E2 : (⟨(List.replicate (s + 1 - (txtL l).length) 48).toArray⟩ : ByteArray) ++ ⟨(txtL l).toArray⟩ = figT l s := bytes_cat _ _
  have zt : (⟨(txtL l).toArray⟩ : ByteArray).size = (txtL l).length := bytes_size _
  have zq : (⟨(List.replicate (s + 1 - (txtL l).length) 48).toArray⟩ : ByteArray).size ≤ 13 := by rw [bytes_size, List.length_replicate]; omega
  have C2 := hide (fun (z : Int) (hz : z = ((s + 1 - (txtL l).length : Nat) : Int)) W => (by subst hz; exact zeros_any W (s + 1 - (txtL l).length) (by omega) : Calls Tryz.prog 204 #[.string ⟨#[48]⟩, .int .i64 z] W fun e w' => e = .returned (.string ⟨(List.replicate (s + 1 - (txtL l).length) 48).toArray⟩) ∧ Below W.heap.size W w'))
  have HZ := hide (show max 0 ((s : Int) + 1 - ((txtL l).length : Int)) = ((s + 1 - (txtL l).length : Nat) : Int) by omega)
  rw [← zt] at HZ C2 E2
  have ht30 : (⟨(txtL l).toArray⟩ : ByteArray).size ≤ 30 := by rw [zt]; exact hk
  rw [← zt] at zq
  generalize (⟨(txtL l).toArray⟩ : ByteArray) = t at *
  generalize (⟨(List.replicate (s + 1 - t.size) 48).toArray⟩ : ByteArray) = q at *
  generalize figT l s = f at *
  have z1 : ¬ (9223372036854775807 < q.size + t.size) := by omega
  have L3 : (sgT p).length ≤ 1 := by unfold sgT; split <;> simp
  have Zs : (⟨(sgT p).toArray⟩ : ByteArray).size ≤ 1 := by rw [bytes_size]; exact L3
  generalize (⟨(sgT p).toArray⟩ : ByteArray) = g at *
  have hs12 : s ≤ 12 := by omega
  clear CO ho hk hs0 hs zt L3
  have HR := hide hr
  obtain ⟨ao, b, off, cap, rfl, hr0⟩ := hr
  clear hr0
  go_enter Tryz.func286, Tryz.ntmps286
  go_wp2_with fail
  refine (unhide HO _ ((unhide HR).alloc _) (ht.later ((Below.refl _ _).alloc (Nat.le_refl _) _))).mono ?_
  rintro e w1 ⟨rfl, b1⟩
  have B1 : Below w.heap.size w w1 := ((Below.refl _ _).alloc (Nat.le_refl _) _).trans (b1.mono (by simp))
  have l1 : w.heap.size < w1.heap.size := by have := b1.size; simp at this; omega
  have c0 : w1.cell? ⟨w.heap.size, 0, none⟩ = some (.bool p) := (b1.cell (p := ⟨w.heap.size, 0, none⟩) (by simp)).trans (by go_simp)
  have c1 : w1.cell? ⟨w.heap.size, 1, none⟩ = some (.slice ao l.length cap) := (b1.cell (p := ⟨w.heap.size, 1, none⟩) (by simp)).trans (by go_simp)
  have c2 : w1.cell? ⟨w.heap.size, 2, none⟩ = some (.int .i64 s) := (b1.cell (p := ⟨w.heap.size, 2, none⟩) (by simp)).trans (by go_simp)
  clear b1 HO
  go_wp2_with fail
  refine (unhide CT _ ((unhide HR).later B1) (ht.later B1)).mono ?_
  rintro e w2 ⟨rfl, b2⟩
  have B2 := B1.trans (b2.mono B1.size)
  have d0 := (b2.cell (p := ⟨w.heap.size, 0, none⟩) l1).trans c0
  have d1 := (b2.cell (p := ⟨w.heap.size, 1, none⟩) l1).trans c1
  have d2 := (b2.cell (p := ⟨w.heap.size, 2, none⟩) l1).trans c2
  have l2 : w.heap.size < w2.heap.size := Nat.lt_of_lt_of_le l1 b2.size
  clear b2 c0 c1 c2 l1 B1 CT
  go_wp2_with fail
  refine (unhide C2 _ (unhide HZ) _).mono ?_
  rintro e w3 ⟨rfl, b3⟩
  have B3 := B2.trans (b3.mono B2.size)
  have c0 := (b3.cell (p := ⟨w.heap.size, 0, none⟩) l2).trans d0
  have c1 := (b3.cell (p := ⟨w.heap.size, 1, none⟩) l2).trans d1
  have c2 := (b3.cell (p := ⟨w.heap.size, 2, none⟩) l2).trans d2
  have l3 : w.heap.size < w3.heap.size := Nat.lt_of_lt_of_le l2 b3.size
  clear b3 d0 d1 d2 l2 B2 C2 HZ
  obtain ⟨k, hk⟩ : ∃ k : Nat, f.size = k + s := ⟨f.size - s, by omega⟩
  by_cases hs0 : s = 0
  · subst hs0
    have E3 := hide (show dotT f 0 = f from if_pos rfl)
    have z2 : ¬ (9223372036854775807 < g.size + f.size) := by omega
    go_wp2_with fail
    refine (unhide C1 _).mono ?_
    rintro e w4 ⟨rfl, b4⟩
    go_wp2
    go_ret
    exact ⟨by rw [← unhide E, unhide E3]; rfl, B3.trans (b4.mono B3.size)⟩
  · have e0 : ((s : Int) == 0) = false := by rw [beq_eq_false_iff_ne]; omega
    have E3 := hide (show dotT f s = f.extract 0 k ++ ⟨#[46]⟩ ++ f.extract k (k + s) by unfold dotT; rw [if_neg hs0, hk, Nat.add_sub_cancel])
    have T3 := ht.later B3
    have Stab := hide (fun (w' : World) (h : Below w3.heap.size w3 w') => (⟨(h.cell (p := ⟨w.heap.size, 0, none⟩) l3).trans c0, (h.cell (p := ⟨w.heap.size, 1, none⟩) l3).trans c1⟩ : w'.cell? ⟨w.heap.size, 0, none⟩ = some (.bool p) ∧ w'.cell? ⟨w.heap.size, 1, none⟩ = some (.slice ao l.length cap)))
    have k30 : k + s ≤ 43 := by omega
    have y0 : (0 : Int) ≤ (k : Int) := by omega
    have y1 : (k : Int) ≤ (k : Int) + (s : Int) := by omega
    have x1 : ¬ (9223372036854775807 < g.size + k) := by omega
    have x2 : ¬ (9223372036854775807 < g.size + k + 1) := by omega
    have x3 : ¬ (9223372036854775807 < g.size + k + 1 + s) := by omega
    go_wp2_with fail
    go_region_held3 (fun w' => w'.cell? ⟨w.heap.size, 0, none⟩ = some (.bool p) ∧ w'.cell? ⟨w.heap.size, 1, none⟩ = some (.slice ao l.length cap))
      (first | exact unhide Stab _ (Below.refl _ _).drew | (refine unhide Stab _ ?_; assumption))
      (first
        | (go_at_call 290; refine (unhide C1 _).mono ?_; rintro e w4 ⟨rfl, b4⟩; have BX : Below w3.heap.size w3 w4 := (Below.refl _ _).drew.trans b4))
    go_wp2
    go_ret
    exact ⟨by rw [← unhide E, unhide E3, ← ByteArray.append_assoc, ← ByteArray.append_assoc]; rfl, B3.trans (BX.mono B3.size)⟩

theorem implDecPut_no (w : World) (p : Bool) (v : Value) (l : List Int) (s : Int) (hr : Reads w v l) (h : ¬ DecIs p l s) (ht : Tab w) :
    Calls Tryz.prog 286 #[.agg #[.bool p, v, .int .i64 s]] w fun e w' => e = .returned (.string ⟨#[]⟩) ∧ Below w.heap.size w w' := by
  have CO := fun W (hr : Reads W v l) (t : Tab W) => implDecOk_any W p v l s hr t
  rw [decB_false h] at CO
  have HO := hide CO
  clear CO h
  have HR := hide hr
  obtain ⟨ao, b, off, cap, rfl, hr0⟩ := hr
  clear hr0
  go_enter Tryz.func286, Tryz.ntmps286
  go_wp2_with fail
  refine (unhide HO _ ((unhide HR).alloc _) (ht.later ((Below.refl _ _).alloc (Nat.le_refl _) _))).mono ?_
  rintro e w1 ⟨rfl, b1⟩
  go_wp2
  go_ret
  exact ⟨rfl, ((Below.refl _ _).alloc (Nat.le_refl _) _).trans (b1.mono (by simp))⟩

theorem figT_size2 {l : List Int} {s : Nat} (h : (txtL l).length ≤ 80) (hs : s ≤ 12) : s < (figT l s).size ∧ (figT l s).size ≤ 93 := by
  unfold figT
  rw [bytes_size, List.length_append, List.length_replicate]
  omega

set_option maxHeartbeats 1000000 in
theorem l2Put_any (w : World) (p : Bool) (v : Value) (l : List Int) (s : Nat) (hr : Reads w v l) (hl : Lim l) (hn : l.length ≤ 16) (hk : (txtL l).length ≤ 80) (hs12 : s ≤ 12) :
    Calls Tryz.prog 113 #[.agg #[.bool p, v, .int .i64 s]] w fun e w' => e = .returned (.string (decT p l s)) ∧ Below w.heap.size w w' := by
  have C2 := hide (fun W (hr : Reads W v l) => l1Figures_any W v l hr hl (by omega))
  have hsz := figT_size2 hk hs12
  have E := hide (show (⟨(sgT p).toArray⟩ : ByteArray) ++ dotT (figT l s) s = decT p l s from rfl)
  have HF := hide (show figT l s = ⟨(List.replicate (s + 1 - (txtL l).length) 48 ++ txtL l).toArray⟩ from rfl)
  generalize figT l s = f at *
  have HR := hide hr
  obtain ⟨ao, b, off, cap, rfl, hr0⟩ := hr
  clear hr0 hl
  go_enter Tryz.func113, Tryz.ntmps113
  go_wp2_with fail
  refine (unhide C2 _ ((unhide HR).alloc _)).mono ?_
  rintro e w1 ⟨rfl, b1⟩
  have B1 : Below w.heap.size w w1 := ((Below.refl _ _).alloc (Nat.le_refl _) _).trans (b1.mono (by simp))
  have c0 : w1.cell? ⟨w.heap.size, 0, none⟩ = some (.bool p) := (b1.cell (p := ⟨w.heap.size, 0, none⟩) (by simp)).trans (by go_simp)
  have c2 : w1.cell? ⟨w.heap.size, 2, none⟩ = some (.int .i64 s) := (b1.cell (p := ⟨w.heap.size, 2, none⟩) (by simp)).trans (by go_simp)
  clear b1 C2
  go_wp2
  go_loopw [3] (fun o wr => ∃ (j : Nat) (t : ByteArray), j ≤ s + 1 - (txtL l).length ∧ o = .string t ∧ Hid (t = ⟨(List.replicate j 48 ++ txtL l).toArray⟩) ∧ t.size ≤ 100 ∧ wr = w1) (fun o _ => 100 - strLen o)
  case atStart => exact ⟨0, _, Nat.zero_le _, rfl, hide rfl, by rw [bytes_size]; omega, rfl⟩
  case round =>
    obtain ⟨j, t, hj, rfl, Ht, hts, rfl⟩ := hrel
    have hz : t.size = j + (txtL l).length := by rw [unhide Ht, bytes_size, List.length_append, List.length_replicate]
    by_cases hlt : t.size ≤ s
    · have g0 : decide ((t.size : Int) ≤ s) = true := by simp; omega
      have E2 := hide (show (⟨#[48]⟩ : ByteArray) ++ t = ⟨(List.replicate (j + 1) 48 ++ txtL l).toArray⟩ by rw [unhide Ht]; exact bytes_cat [48] _)
      have z1 : ¬ (9223372036854775807 < 1 + t.size) := by omega
      have Hz := hide hz
      clear hz
      go_wp2
      go_roundw
      case rel => exact ⟨j + 1, _, by have := unhide Hz; omega, rfl, E2, by rw [ByteArray.size_append]; have : (⟨#[48]⟩ : ByteArray).size = 1 := rfl; omega, by first | trivial | rfl⟩
      case measure =>
        simp only [strLen_eq, ByteArray.size_append]
        have : (⟨#[48]⟩ : ByteArray).size = 1 := rfl
        omega
    · have g0 : decide ((t.size : Int) ≤ s) = false := by simp; omega
      have e1 : t = f := by rw [unhide Ht, unhide HF, show j = s + 1 - (txtL l).length by omega]
      subst e1
      clear hz Ht HF hj
      obtain ⟨k, hk⟩ : ∃ k : Nat, t.size = k + s := ⟨t.size - s, by omega⟩
      have k43 : k + s ≤ 100 := by omega
      by_cases hs0 : s = 0
      · subst hs0
        have E3 := hide (show dotT t 0 = t from if_pos rfl)
        have z2 : ¬ (9223372036854775807 < 1 + t.size) := by omega
        cases p
        · go_wp2
          go_ret
          exact ⟨by rw [← unhide E, unhide E3]; exact congrArg (fun x => Ending.returned (Value.string x)) (ByteArray.empty_append).symm, B1⟩
        · go_wp2
          go_ret
          exact ⟨by rw [← unhide E, unhide E3]; rfl, B1⟩
      · have e0 : decide ((0 : Int) < s) = true := by simp; omega
        have E3 := hide (show dotT t s = t.extract 0 k ++ ⟨#[46]⟩ ++ t.extract k (k + s) by unfold dotT; rw [if_neg hs0, hk, Nat.add_sub_cancel])
        have y0 : (0 : Int) ≤ (k : Int) := by omega
        have y1 : (k : Int) ≤ (k : Int) + (s : Int) := by omega
        have x2 : ¬ (9223372036854775807 < k + 1) := by omega
        have x3 : ¬ (9223372036854775807 < k + 1 + s) := by omega
        have x4 : ¬ (9223372036854775807 < 1 + (k + 1 + s)) := by omega
        cases p
        all_goals
          go_wp2_with fail
          go_quiet (fail)
          go_wp2
          go_ret
        · exact ⟨by rw [← unhide E, unhide E3]; exact congrArg (fun x => Ending.returned (Value.string x)) (ByteArray.empty_append).symm, below_draws B1 _⟩
        · exact ⟨by rw [← unhide E, unhide E3]; rfl, below_draws B1 _⟩

/-- What DecPut answers. -/
def dputR (p : Bool) (l : List Int) (s : Int) : ByteArray := if decB p l s = true then decT p l s.toNat else ⟨#[]⟩

theorem implDecPut_any (w : World) (p : Bool) (v : Value) (l : List Int) (s : Int) (hr : Reads w v l) (ht : Tab w) :
    Calls Tryz.prog 286 #[.agg #[.bool p, v, .int .i64 s]] w fun e w' => e = .returned (.string (dputR p l s)) ∧ Below w.heap.size w w' := by
  unfold dputR
  by_cases h : DecIs p l s
  · rw [if_pos (decB_true h)]
    obtain ⟨k, rfl⟩ : ∃ k : Nat, s = k := ⟨s.toNat, by have := h.2.2.1; omega⟩
    exact implDecPut_yes w p v l k hr h ht
  · rw [if_neg (by rw [decB_false h]; simp)]; exact implDecPut_no w p v l s hr h ht

end Go.Proofs.YtdklikicngmkbaaGreatDoor
