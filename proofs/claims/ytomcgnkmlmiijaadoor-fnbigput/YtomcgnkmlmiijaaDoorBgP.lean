/- BigPut of the program and of the specification. -/
import Derived.Test.YtomcgnkmlmiijaaDoorTxI
import Derived.Test.YtomcgnkmlmiijaaDoorSgT
import Derived.Test.YtomcgnkmlmiijaaDoorGh
import Derived.Deep.RegionHeld3
namespace Go.Proofs.YtomcgnkmlmiijaaDoor
open Go.RowKit

/-- The text of a number that is ok. -/
def bigT (p : Bool) (l : List Int) : ByteArray := ⟨(sgT p ++ txtL l).toArray⟩

theorem txtL_len {l : List Int} (hl : Lim l) : (txtL l).length ≤ 4 * l.length + 1 := by
  unfold txtL
  split
  · simp
  · rename_i h
    have h0 : 0 < l.length := List.length_pos_iff.2 h
    have := (txtAt_len hl 0 h0).1
    omega

theorem implBigPut_yes (w : World) (p : Bool) (v : Value) (l : List Int) (hr : Reads w v l) (h : OkBig p l) (ht : Tab w) :
    Calls Tryd.prog 6 #[.agg #[.bool p, v]] w fun e w' => e = .returned (.string (bigT p l)) ∧ Below w.heap.size w w' := by
  have CO := fun W (hr : Reads W v l) => implBigOk_any W p v l hr
  rw [okB_true h] at CO
  have HO := hide CO
  clear CO
  have C2 := hide (fun W (hr : Reads W v l) (t : Tab W) => implText_any W v l hr h.2.1 (by have := h.1; omega) t)
  have C1 := hide (fun W => signText_any W p v)
  have E := hide (show (⟨(sgT p).toArray⟩ : ByteArray) ++ ⟨(txtL l).toArray⟩ = bigT p l from bytes_cat _ _)
  have L1 := txtL_len h.2.1
  have L2 := h.1
  have L3 : (sgT p).length ≤ 1 := by unfold sgT; split <;> simp
  have Z1 : (⟨(sgT p).toArray⟩ : ByteArray).size ≤ 1 := by rw [bytes_size]; exact L3
  have Z2 : (⟨(txtL l).toArray⟩ : ByteArray).size ≤ 65 := by rw [bytes_size]; omega
  generalize (⟨(sgT p).toArray⟩ : ByteArray) = q at *
  generalize (⟨(txtL l).toArray⟩ : ByteArray) = t at *
  clear L1 L2 L3 h
  have z1 : ¬ (9223372036854775807 < q.size + t.size) := by omega
  have HR := hide hr
  obtain ⟨ao, b, off, cap, rfl, hr0⟩ := hr
  clear hr0
  go_enter Tryd.func6, Tryd.ntmps6
  go_wp2_with fail
  refine (unhide HO _ ((unhide HR).alloc _)).mono ?_
  rintro e w1 ⟨rfl, b1⟩
  have B1 : Below w.heap.size w w1 := ((Below.refl _ _).alloc (Nat.le_refl _) _).trans (b1.mono (by simp))
  have l1 : w.heap.size < w1.heap.size := by have := b1.size; simp at this; omega
  have c0 : w1.cell? ⟨w.heap.size, 0, none⟩ = some (.bool p) := (b1.cell (p := ⟨w.heap.size, 0, none⟩) (by simp)).trans (by go_simp)
  have c1 : w1.cell? ⟨w.heap.size, 1, none⟩ = some (.slice ao l.length cap) := (b1.cell (p := ⟨w.heap.size, 1, none⟩) (by simp)).trans (by go_simp)
  clear b1
  have T1 := ht.later B1
  have R1 := (unhide HR).later B1
  have Stab := hide (fun (w' : World) (h : Below w1.heap.size w1 w') => (⟨(h.cell (p := ⟨w.heap.size, 0, none⟩) l1).trans c0, (h.cell (p := ⟨w.heap.size, 1, none⟩) l1).trans c1⟩ : w'.cell? ⟨w.heap.size, 0, none⟩ = some (.bool p) ∧ w'.cell? ⟨w.heap.size, 1, none⟩ = some (.slice ao l.length cap)))
  go_wp2_with fail
  go_region_held3 (fun w' => w'.cell? ⟨w.heap.size, 0, none⟩ = some (.bool p) ∧ w'.cell? ⟨w.heap.size, 1, none⟩ = some (.slice ao l.length cap))
    (first | exact unhide Stab _ (Below.refl _ _).drew | (refine unhide Stab _ ?_; assumption))
    (first
      | (go_at_call 17; refine (unhide C1 _).mono ?_; rintro e w2 ⟨rfl, b2⟩; have BX : Below w1.heap.size w1 w2 := (Below.refl _ _).drew.trans b2)
      | (go_at_call 18; refine (unhide C2 _ ?_ ?_).mono ?_; exact R1.later BX; exact T1.later BX; rintro e w3 ⟨rfl, b3⟩; have BY : Below w1.heap.size w1 w3 := BX.trans (b3.mono BX.size)))
  go_wp2
  go_ret
  exact ⟨by rw [← unhide E]; rfl, B1.trans (BY.mono B1.size)⟩

theorem implBigPut_no (w : World) (p : Bool) (v : Value) (l : List Int) (hr : Reads w v l) (h : ¬ OkBig p l) :
    Calls Tryd.prog 6 #[.agg #[.bool p, v]] w fun e w' => e = .returned (.string ⟨#[]⟩) ∧ Below w.heap.size w w' := by
  have CO := fun W (hr : Reads W v l) => implBigOk_any W p v l hr
  rw [okB_false h] at CO
  have HO := hide CO
  clear CO h
  have HR := hide hr
  obtain ⟨ao, b, off, cap, rfl, hr0⟩ := hr
  clear hr0
  go_enter Tryd.func6, Tryd.ntmps6
  go_wp2_with fail
  refine (unhide HO _ ((unhide HR).alloc _)).mono ?_
  rintro e w1 ⟨rfl, b1⟩
  go_wp2
  go_ret
  exact ⟨rfl, ((Below.refl _ _).alloc (Nat.le_refl _) _).trans (b1.mono (by simp))⟩

theorem l1Put_any (w : World) (p : Bool) (v : Value) (l : List Int) (hr : Reads w v l) (hl : Lim l) (hn : l.length ≤ 16) :
    Calls Tryd.prog 20 #[.agg #[.bool p, v]] w fun e w' => e = .returned (.string (bigT p l)) ∧ Below w.heap.size w w' := by
  have C2 := hide (fun W (hr : Reads W v l) => l1Figures_any W v l hr hl (by omega))
  have L1 := txtL_len hl
  have Z2 : (⟨(txtL l).toArray⟩ : ByteArray).size ≤ 65 := by rw [bytes_size]; omega
  have E1 := hide (show (⟨#[45]⟩ : ByteArray) ++ ⟨(txtL l).toArray⟩ = bigT true l from bytes_cat [45] _)
  have E2 := hide (show (⟨(txtL l).toArray⟩ : ByteArray) = bigT false l from rfl)
  generalize (⟨(txtL l).toArray⟩ : ByteArray) = t at *
  have z1 : ¬ (9223372036854775807 < 1 + t.size) := by omega
  clear L1
  have HR := hide hr
  obtain ⟨ao, b, off, cap, rfl, hr0⟩ := hr
  clear hr0
  cases p
  · clear E1
    go_enter Tryd.func20, Tryd.ntmps20
    go_wp2_with fail
    refine (unhide C2 _ ((unhide HR).alloc _)).mono ?_
    rintro e w1 ⟨rfl, b1⟩
    have B1 : Below w.heap.size w w1 := ((Below.refl _ _).alloc (Nat.le_refl _) _).trans (b1.mono (by simp))
    have c0 : w1.cell? ⟨w.heap.size, 0, none⟩ = some (.bool false) := (b1.cell (p := ⟨w.heap.size, 0, none⟩) (by simp)).trans (by go_simp)
    go_wp2
    go_ret
    exact ⟨by rw [← unhide E2]; rfl, B1⟩
  · clear E2
    go_enter Tryd.func20, Tryd.ntmps20
    go_wp2_with fail
    refine (unhide C2 _ ((unhide HR).alloc _)).mono ?_
    rintro e w1 ⟨rfl, b1⟩
    have B1 : Below w.heap.size w w1 := ((Below.refl _ _).alloc (Nat.le_refl _) _).trans (b1.mono (by simp))
    have c0 : w1.cell? ⟨w.heap.size, 0, none⟩ = some (.bool true) := (b1.cell (p := ⟨w.heap.size, 0, none⟩) (by simp)).trans (by go_simp)
    go_wp2
    go_ret
    exact ⟨by rw [← unhide E1]; rfl, B1⟩

theorem specBigPut_yes (w : World) (p : Bool) (v : Value) (l : List Int) (hr : Reads w v l) (h : OkBig p l) :
    Calls Tryd.prog 7 #[.agg #[.bool p, v]] w fun e w' => e = .returned (.string (bigT p l)) ∧ Below w.heap.size w w' := by
  have CO := fun W (hr : Reads W v l) => l1Ok_any W p v l hr
  rw [okB_true h] at CO
  have HO := hide CO
  have C2 := hide (fun W (hr : Reads W v l) => l1Put_any W p v l hr h.2.1 h.1)
  clear CO h
  have HR := hide hr
  obtain ⟨ao, b, off, cap, rfl, hr0⟩ := hr
  clear hr0
  go_enter Tryd.func7, Tryd.ntmps7
  go_wp2_with fail
  refine (unhide HO _ ((unhide HR).alloc _)).mono ?_
  rintro e w1 ⟨rfl, b1⟩
  have B1 : Below w.heap.size w w1 := ((Below.refl _ _).alloc (Nat.le_refl _) _).trans (b1.mono (by simp))
  have l1 : w.heap.size < w1.heap.size := by have := b1.size; simp at this; omega
  have c0 : w1.cell? ⟨w.heap.size, 0, none⟩ = some (.bool p) := (b1.cell (p := ⟨w.heap.size, 0, none⟩) (by simp)).trans (by go_simp)
  have c1 : w1.cell? ⟨w.heap.size, 1, none⟩ = some (.slice ao l.length cap) := (b1.cell (p := ⟨w.heap.size, 1, none⟩) (by simp)).trans (by go_simp)
  clear b1
  go_wp2_with fail
  refine (unhide C2 _ ((unhide HR).later B1)).mono ?_
  rintro e w2 ⟨rfl, b2⟩
  go_wp2
  go_ret
  exact ⟨rfl, B1.trans (b2.mono B1.size)⟩

theorem specBigPut_no (w : World) (p : Bool) (v : Value) (l : List Int) (hr : Reads w v l) (h : ¬ OkBig p l) :
    Calls Tryd.prog 7 #[.agg #[.bool p, v]] w fun e w' => e = .returned (.string ⟨#[]⟩) ∧ Below w.heap.size w w' := by
  have CO := fun W (hr : Reads W v l) => l1Ok_any W p v l hr
  rw [okB_false h] at CO
  have HO := hide CO
  clear CO h
  have HR := hide hr
  obtain ⟨ao, b, off, cap, rfl, hr0⟩ := hr
  clear hr0
  go_enter Tryd.func7, Tryd.ntmps7
  go_wp2_with fail
  refine (unhide HO _ ((unhide HR).alloc _)).mono ?_
  rintro e w1 ⟨rfl, b1⟩
  go_wp2
  go_ret
  exact ⟨rfl, ((Below.refl _ _).alloc (Nat.le_refl _) _).trans (b1.mono (by simp))⟩

/-- What BigPut answers. -/
def putR (p : Bool) (l : List Int) : ByteArray := if okB p l = true then bigT p l else ⟨#[]⟩

theorem implBigPut_any (w : World) (p : Bool) (v : Value) (l : List Int) (hr : Reads w v l) (ht : Tab w) :
    Calls Tryd.prog 6 #[.agg #[.bool p, v]] w fun e w' => e = .returned (.string (putR p l)) ∧ Below w.heap.size w w' := by
  unfold putR
  by_cases h : OkBig p l
  · rw [if_pos (okB_true h)]; exact implBigPut_yes w p v l hr h ht
  · rw [if_neg (by rw [okB_false h]; simp)]; exact implBigPut_no w p v l hr h
theorem specBigPut_any (w : World) (p : Bool) (v : Value) (l : List Int) (hr : Reads w v l) :
    Calls Tryd.prog 7 #[.agg #[.bool p, v]] w fun e w' => e = .returned (.string (putR p l)) ∧ Below w.heap.size w w' := by
  unfold putR
  by_cases h : OkBig p l
  · rw [if_pos (okB_true h)]; exact specBigPut_yes w p v l hr h
  · rw [if_neg (by rw [okB_false h]; simp)]; exact specBigPut_no w p v l hr h

end Go.Proofs.YtomcgnkmlmiijaaDoor
