/- SpanGet of the program, by a contract. -/
import Derived.Test.YtdklikicngmkbaaGreatDoorG18
import Derived.Test.YtdklikicngmkbaaGreatDoorG14
import Derived.Deep.DeepCutAuto
namespace Go.Proofs.YtdklikicngmkbaaGreatDoor
open Go.RowKit
set_option maxRecDepth 100000

/-- A box for two numbers that stands empty. -/
structure EbI (w : World) (k : Nat) : Prop where
  c0 : w.cell? ⟨k, 0, none⟩ = some (.int .i64 0)
  c1 : w.cell? ⟨k, 1, none⟩ = some (.int .i64 0)
  f0 : w.frozen? ⟨k, 0, none⟩ = false
  f1 : w.frozen? ⟨k, 1, none⟩ = false
  lt : k < w.heap.size

theorem EbI.later {w w' : World} {k : Nat} (h : EbI w k) (b : Below w.heap.size w w') : EbI w' k :=
  ⟨cell_later b h.c0, cell_later b h.c1, (b.frozen (p := ⟨k, 0, none⟩) h.lt).trans h.f0, (b.frozen (p := ⟨k, 1, none⟩) h.lt).trans h.f1, Nat.lt_of_lt_of_le h.lt b.size⟩

theorem EbI.new (X : World) : EbI (X.alloc (.cells #[.int .i64 0, .int .i64 0] 29)) X.heap.size := ⟨by go_simp, by go_simp, by go_simp, by go_simp, by simp⟩

theorem EbI.alloc {X w' : World} (b : Below (X.alloc (.cells #[.int .i64 0, .int .i64 0] 29)).heap.size (X.alloc (.cells #[.int .i64 0, .int .i64 0] 29)) w') : EbI w' X.heap.size := (EbI.new X).later b

theorem EbI.drew {X w' : World} (b : Below (X.alloc (.cells #[.int .i64 0, .int .i64 0] 29)).drew.heap.size (X.alloc (.cells #[.int .i64 0, .int .i64 0] 29)).drew w') : EbI w' X.heap.size :=
  ((EbI.new X).later (Below.refl _ _).drew).later b

theorem SpB.fill {w w1 W : World} (h : SpB w w1) (k : Below w1.heap.size w1 W) {b : Nat} (e : EbI W b) (hb : w1.heap.size ≤ b) (x y : Int) :
    SpB w ((W.setCell ⟨b, 0, none⟩ (.int .i64 x)).setCell ⟨b, 1, none⟩ (.int .i64 y)) ∧ ((W.setCell ⟨b, 0, none⟩ (.int .i64 x)).setCell ⟨b, 1, none⟩ (.int .i64 y)).cell? ⟨b, 0, none⟩ = some (.int .i64 x) ∧
      ((W.setCell ⟨b, 0, none⟩ (.int .i64 x)).setCell ⟨b, 1, none⟩ (.int .i64 y)).cell? ⟨b, 1, none⟩ = some (.int .i64 y) :=
  ⟨h.later ((k.setCell (p := ⟨b, 0, none⟩) hb _).setCell (p := ⟨b, 1, none⟩) hb _), (set_in e.c0 e.c1 _ _).1, (set_in e.c0 e.c1 _ _).2⟩

theorem SpB.made {w w1 W : World} (h : SpB w w1) (k : Below w1.heap.size w1 W) (x y : Int) :
    SpB w (W.alloc (.cells #[.int .i64 x, .int .i64 y] 29)) ∧ (W.alloc (.cells #[.int .i64 x, .int .i64 y] 29)).cell? ⟨W.heap.size, 0, none⟩ = some (.int .i64 x) ∧
      (W.alloc (.cells #[.int .i64 x, .int .i64 y] 29)).cell? ⟨W.heap.size, 1, none⟩ = some (.int .i64 y) :=
  ⟨(h.later k).later ((Below.refl _ _).alloc (Nat.le_refl _) _), by go_simp, by go_simp⟩

/-- What stands ahead of a d at the end. -/
def cutD (B : ByteArray) : ByteArray := ⟨(Lib.trimSuffix B.data.toList [100]).toArray⟩

theorem cutD_list (B : ByteArray) (A : List UInt8) (h : B.data.toList = A ++ [100]) : (cutD B).data.toList = A := by
  unfold cutD
  rw [h]
  have hs : Lib.hasSuffix (A ++ [100]) [100] = true := by simp [Lib.hasSuffix]
  simp [Lib.trimSuffix, hs]

/-- What SpanPut writes. -/
def spanPutR (m d : Int) : ByteArray := if SpanIs m d then spanT m d else ⟨#[]⟩

theorem implSpanPut_any (w : World) (m d : Int) (ht : Tab w) : Calls Tryz.prog 119 #[.agg #[.int .i64 m, .int .i64 d]] w fun e w' => e = .returned (.string (spanPutR m d)) ∧ Below w.heap.size w w' := by
  unfold spanPutR
  by_cases h : SpanIs m d
  · rw [if_pos h]; exact implSpanPut_yes w m d h ht
  · rw [if_neg h]; exact implSpanPut_no w m d h

/-- The program's way: what it makes of both parts is held against the text. -/
theorem impl_span {s : ByteArray} {k : Nat} (hk : CAt 109 s k) {x y : Int} (hx : x = numB (s.extract 0 k).data.toList) (hy : y = numB (cutD (partC s k)).data.toList) :
    (spanPutR x y = s → SpT s x y) ∧ (spanPutR x y ≠ s → ∀ a b, ¬ SpT s a b) := by
  constructor
  · intro e
    by_cases h : SpanIs x y
    · exact ⟨h, by rw [← e]; unfold spanPutR; rw [if_pos h]⟩
    · exfalso
      unfold spanPutR at e
      rw [if_neg h] at e
      apply h
      subst e
      have hk0 : k = 0 := by have := hk.1; have : (⟨#[]⟩ : ByteArray).size = 0 := rfl; omega
      subst hk0
      have ex : x = 0 := by rw [hx]; rfl
      have ey : y = 0 := by rw [hy]; rfl
      rw [ex, ey]
      unfold SpanIs
      omega
  · intro e a b h
    have hl := spanT_list a b
    rw [h.2] at hl
    obtain ⟨h1, h2, h3⟩ := cat_same hl (itoa_no (by decide)) hk
    have hi := h.1
    have h4 : (cutD (partC s k)).data.toList = Lib.itoa b := by
      apply cutD_list
      unfold partC
      rw [if_pos h1]
      exact h3
    rw [h2, numB_itoa (by obtain ⟨⟨_, _⟩, _, _⟩ := hi; omega)] at hx
    rw [h4, numB_itoa (by obtain ⟨⟨_, _⟩, _, _⟩ := hi; omega)] at hy
    subst hx hy
    apply e
    unfold spanPutR
    rw [if_pos hi]
    exact h.2

theorem txt_ne {s t : ByteArray} (h : s ≠ t) : (s.toList == t.toList) = false := by
  rw [beq_eq_false_iff_ne]
  intro k
  rw [ByteArray.toList_eq, ByteArray.toList_eq] at k
  exact h (ByteArray.ext (Array.toList_inj.1 k))

theorem cutD_size (B : ByteArray) : (cutD B).size ≤ B.size := by
  have : (cutD B).size = (Lib.trimSuffix B.data.toList [100]).length := by unfold cutD; exact bytes_size _
  rw [this]
  have hl := list_size B
  unfold Lib.trimSuffix
  split
  · rw [List.length_take]; omega
  · omega

set_option maxHeartbeats 4000000 in
theorem implSpanGet_any (w : World) (s : ByteArray) (hs : s.size ≤ 2000000) (tt : Tab w) (he : Er w) : Calls Tryz.prog 75 #[.string s] w (GivesSpan w s) := by
  have K0 := SpB.start w
  obtain ⟨k, hk⟩ := cat_is 109 s
  obtain ⟨x, hx⟩ : ∃ x, x = numB (s.extract 0 k).data.toList := ⟨_, rfl⟩
  obtain ⟨y, hy⟩ : ∃ y, y = numB (cutD (partC s k)).data.toList := ⟨_, rfl⟩
  have HI := hide (impl_span hk hx hy)
  have zA : (s.extract 0 k).size ≤ 281474976710656 := by rw [ByteArray.size_extract]; omega
  have zB : (partC s k).size ≤ 281474976710656 := by
    unfold partC
    split
    · rw [ByteArray.size_extract]; omega
    · exact Nat.zero_le _
  have zT : (cutD (partC s k)).size ≤ 281474976710656 := Nat.le_trans (cutD_size _) zB
  have CC := hide (fun W => cutC_any W 109 s k hk (by unfold maxLen; omega))
  have CN0 := hide (fun W (b : Below w.heap.size w W) => numberOf_any W _ zA (he.later b))
  have CN1 := hide (fun W (b : Below w.heap.size w W) => numberOf_any W _ zT (he.later b))
  have CT : Hid (∀ W, Calls Tryz.prog 76 #[.string (partC s k), .string ⟨#[100]⟩] W fun e w' => e = .returned (.string (cutD (partC s k))) ∧ w' = W) := fun W => Tryz.strings_TrimSuffix (partC s k) ⟨#[100]⟩ W (by omega)
  have CP := hide (fun W (b : Below w.heap.size w W) => implSpanPut_any W x y (tt.later b))
  rw [← hx] at CN0
  rw [← hy] at CN1
  clear hx hy hk zA zB zT
  generalize s.extract 0 k = A at *
  generalize partC s k = B at *
  generalize cutD B = T at *
  go_enter Tryz.func75, Tryz.ntmps75
  go_wp2_with fail
  refine (unhide CC _).mono ?_
  rintro e w1 ⟨rfl, b1⟩
  have K1 := K0.later b1
  clear K0 b1 CC
  have hkb := K1.below
  go_wp2_with fail
  refine (unhide CN0 _ K1.below).mono ?_
  rintro e w2 ⟨rfl, b2⟩
  have K2 := K1.later b2
  go_wp2_with fail
  refine (unhide CT _).mono ?_
  rintro e w3 ⟨rfl, hw⟩
  subst hw
  go_wp2_with fail
  refine (unhide CN1 _ K2.below).mono ?_
  rintro e w4 ⟨rfl, b4⟩
  obtain ⟨K5, n0, n1⟩ := K2.made b4 x y
  clear CN0 CN1 CT K1 hkb b2 b4 K2
  go_wp2_with fail
  refine (unhide CP _ K5.below).mono ?_
  rintro e w5 ⟨rfl, b5⟩
  obtain ⟨kb, kc0, kc1, kf0, kf1, kl⟩ := K5.later b5
  have m0 := cell_later b5 n0
  have m1 := cell_later b5 n1
  clear K5 b5 n0 n1 CP
  generalize spanPutR x y = P at *
  by_cases e : P = s
  · have e1 : (P.toList == s.toList) = true := by simp [e]
    have e2 : (P.toList != s.toList) = false := by simp [e]
    have HE := hide ((unhide HI).1 e)
    clear HI e
    go_wp2
    refine bodyPost_ret (v := .tuple #[.agg #[.int .i64 x, .int .i64 y], .bool true]) (by simp [results, Tryz.results75, go_sem, kc0, kc1]) rfl ?_
    exact gives_some ((kb.setCell (Nat.le_refl _) _).setCell (Nat.le_refl _) _) (unhide HE)
  · have e1 := txt_ne e
    have e2 : (P.toList != s.toList) = true := by simpa using e1
    have HN := hide ((unhide HI).2 e)
    clear HI e
    go_wp2
    refine bodyPost_ret (v := .tuple #[.agg #[.int .i64 0, .int .i64 0], .bool false]) (by simp [results, Tryz.results75, go_sem, kc0, kc1]) rfl ?_
    exact gives_none (by first | exact kb | exact (kb.setCell (Nat.le_refl _) _).setCell (Nat.le_refl _) _) (unhide HN)

end Go.Proofs.YtdklikicngmkbaaGreatDoor
