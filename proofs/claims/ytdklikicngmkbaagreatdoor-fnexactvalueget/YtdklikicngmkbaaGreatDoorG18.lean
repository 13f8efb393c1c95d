/- A text that is cut at the first of a byte: the specification's l1Cut by a contract. SpanGet of the specification, by a contract. -/
import Derived.Test.YtdklikicngmkbaaGreatDoorG17
import Derived.Test.YtdklikicngmkbaaGreatDoorG16
namespace Go.Proofs.YtdklikicngmkbaaGreatDoor
open Go.RowKit
set_option maxRecDepth 100000

/-- What a call answers that hands out a list of texts of its own. -/
def GivesT (w : World) (l : List ByteArray) (e : Ending) (w' : World) : Prop :=
  ∃ g cap, e = .returned (.slice (some ⟨g, 0, none⟩) l.length cap) ∧ OwnT w.heap.size w' (.slice (some ⟨g, 0, none⟩) l.length cap) l ∧ Below w.heap.size w w'

set_option maxHeartbeats 1000000 in
theorem l1Cut_no (w : World) (s : ByteArray) (c : UInt8) (d : Nat) (hd : CAt c s d) (he : d = s.size) (hs : s.size ≤ maxLen) :
    Calls Tryz.prog 131 #[.string s, .int .u8 c.toNat, .int .i64 1] w (GivesT w [s]) := by
  unfold maxLen at hs
  have HD := hide (fun j (h : j < s.size) => hd.2.1 j h (by omega))
  clear hd he
  have HO := hide (ownT_empty w (Nat.le_refl w.heap.size))
  have B0 : Below w.heap.size w (w.alloc (.cells #[] 9)) := (Below.refl _ _).alloc (Nat.le_refl _) _
  have hsz : w.heap.size + 1 ≤ (w.alloc (.cells #[] 9)).heap.size := by rw [World.size_alloc]; exact Nat.le_refl _
  go_enter Tryz.func131, Tryz.ntmps131
  go_wp2
  generalize w.alloc (.cells #[] 9) = W0 at *
  go_loopw [7, 8, 9] (fun oo ff ii wr => ∃ i g0 cap0 : Nat, oo = .slice (some ⟨g0, 0, none⟩) 0 cap0 ∧ ff = .int .i64 0 ∧ ii = .int .i64 i ∧ i ≤ s.size ∧ Hid (OwnT w.heap.size W0 (.slice (some ⟨g0, 0, none⟩) 0 cap0) []) ∧ wr = W0) (fun _ _ ii _ => s.size - (intOf ii).toNat)
  case atStart => exact ⟨0, w.heap.size, 0, rfl, rfl, rfl, Nat.zero_le _, HO, rfl⟩
  case round =>
    obtain ⟨i, g0, cap0, rfl, rfl, rfl, hi, HO1, rfl⟩ := hrel
    clear HO
    by_cases h : i < s.size
    · have hc : ((s[i].toNat : Int) == (c.toNat : Int)) = false := by
        rw [beq_eq_false_iff_ne]
        have := unhide HD i h
        omega
      have w5 : IntKind.i64.wrap ((i : Int) + 1) = (i : Int) + 1 := by rw [IntKind.wrap_i64]; omega
      go_wp2
      go_roundw
      case rel => exact ⟨i + 1, g0, cap0, rfl, rfl, by simp, by omega, HO1, trivial⟩
      case measure => simp only [intOf]; omega
    · have g : decide ((i : Int) < (s.size : Int)) = false := by simp; omega
      go_wp2_with (at_builtin; refine wpList_pushS rfl _ _ 70 rfl Tryz.underlying70 w.heap.size _ [] _ (unhide HO1) rfl rfl (by simp) (by omega) ?_; intro g1 cap1 w1 hown1 hb1 hc1 hm1 hBg1 hgs1)
      go_ret
      exact ⟨g1, cap1, rfl, hown1, B0.trans hb1⟩

set_option maxHeartbeats 2000000 in
theorem l1Cut_yes (w : World) (s : ByteArray) (c : UInt8) (d : Nat) (hd : CAt c s d) (he : d < s.size) (hs : s.size ≤ maxLen) :
    Calls Tryz.prog 131 #[.string s, .int .u8 c.toNat, .int .i64 1] w (GivesT w [s.extract 0 d, s.extract (d + 1) s.size]) := by
  unfold maxLen at hs
  have HD := hide (fun j (h : j < s.size) (k : j < d) => hd.2.1 j h k)
  have HE := hide (hd.2.2 he)
  clear hd
  have HO := hide (ownT_empty w (Nat.le_refl w.heap.size))
  have B0 : Below w.heap.size w (w.alloc (.cells #[] 9)) := (Below.refl _ _).alloc (Nat.le_refl _) _
  have hsz : w.heap.size + 1 ≤ (w.alloc (.cells #[] 9)).heap.size := by rw [World.size_alloc]; exact Nat.le_refl _
  go_enter Tryz.func131, Tryz.ntmps131
  go_wp2
  generalize w.alloc (.cells #[] 9) = W0 at *
  go_loopw [7, 8, 9] (fun oo ff ii wr => (∃ i g0 cap0 : Nat, oo = .slice (some ⟨g0, 0, none⟩) 0 cap0 ∧ ff = .int .i64 0 ∧ ii = .int .i64 i ∧ i ≤ d ∧ Hid (OwnT w.heap.size W0 (.slice (some ⟨g0, 0, none⟩) 0 cap0) []) ∧ wr = W0) ∨
    (∃ g cap : Nat, oo = .slice (some ⟨g, 0, none⟩) 1 cap ∧ ff = .int .i64 ((d : Int) + 1) ∧ ii = .int .i64 ((d : Int) + 1) ∧ Hid (OwnT w.heap.size wr (.slice (some ⟨g, 0, none⟩) 1 cap) [s.extract 0 d]) ∧ Below w.heap.size w wr ∧ w.heap.size + 1 ≤ wr.heap.size)) (fun _ _ ii _ => s.size + 1 - (intOf ii).toNat)
  case atStart => exact .inl ⟨0, w.heap.size, 0, rfl, rfl, rfl, Nat.zero_le _, HO, rfl⟩
  case round =>
    clear HO
    rcases hrel with ⟨i, g0, cap0, rfl, rfl, rfl, hi, HO1, rfl⟩ | ⟨g0, cap0, rfl, rfl, rfl, ho, hb, hz⟩
    · have hin : i < s.size := by omega
      have w5 : IntKind.i64.wrap ((i : Int) + 1) = (i : Int) + 1 := by rw [IntKind.wrap_i64]; omega
      by_cases h : i < d
      · have hc : ((s[i].toNat : Int) == (c.toNat : Int)) = false := by
          rw [beq_eq_false_iff_ne]
          have := unhide HD i hin h
          omega
        go_wp2
        go_roundw
        case rel => exact .inl ⟨i + 1, g0, cap0, rfl, rfl, by simp, by omega, HO1, trivial⟩
        case measure => simp only [intOf]; omega
      · obtain rfl : i = d := by omega
        have hc : ((s[i].toNat : Int) == (c.toNat : Int)) = true := by
          rw [beq_iff_eq]
          have := unhide HE
          omega
        have hk2 : (0 : Int) ≤ (i : Int) := by omega
        have hk3 : (i : Int) ≤ (s.size : Int) := by omega
        go_wp2_with (at_builtin; refine wpList_pushS rfl _ _ 70 rfl Tryz.underlying70 w.heap.size _ [] _ (unhide HO1) rfl rfl (by simp) (by omega) ?_; intro g1 cap1 w1 hown1 hb1 hc1 hm1 hBg1 hgs1)
        go_roundw
        case rel => exact .inr ⟨g1, cap1, rfl, rfl, rfl, hown1, B0.trans hb1, by have := hb1.size; omega⟩
        case measure => simp only [intOf]; omega
    · have hk1 : (d : Int) + 1 ≤ (s.size : Int) := by omega
      have hk2 : (0 : Int) ≤ (d : Int) + 1 := by omega
      go_wp2_with (at_builtin; refine wpList_pushS rfl _ _ 70 rfl Tryz.underlying70 w.heap.size _ [s.extract 0 d] _ (unhide ho) rfl rfl (by simp) (by omega) ?_; intro g1 cap1 w1 hown1 hb1 hc1 hm1 hBg1 hgs1)
      all_goals
        go_ret
        exact ⟨g1, cap1, rfl, hown1, hb.trans hb1⟩

end Go.Proofs.YtdklikicngmkbaaGreatDoor

namespace Go.Proofs.YtdklikicngmkbaaGreatDoor
open Go.RowKit
set_option linter.unusedSimpArgs false
set_option maxRecDepth 100000

/-- The place for a span, made first. -/
structure SpB (w0 w : World) : Prop where
  below : Below w0.heap.size w0 w
  c0 : w.cell? ⟨w0.heap.size, 0, none⟩ = some (.int .i64 0)
  c1 : w.cell? ⟨w0.heap.size, 1, none⟩ = some (.int .i64 0)
  f0 : w.frozen? ⟨w0.heap.size, 0, none⟩ = false
  f1 : w.frozen? ⟨w0.heap.size, 1, none⟩ = false
  lt : w0.heap.size < w.heap.size

theorem SpB.later {w0 w w' : World} (h : SpB w0 w) (b : Below w.heap.size w w') : SpB w0 w' :=
  ⟨h.below.trans (b.mono h.below.size), cell_later b h.c0, cell_later b h.c1, (b.frozen (p := ⟨w0.heap.size, 0, none⟩) h.lt).trans h.f0, (b.frozen (p := ⟨w0.heap.size, 1, none⟩) h.lt).trans h.f1, Nat.lt_of_lt_of_le h.lt b.size⟩
theorem SpB.start (w : World) : SpB w (w.alloc (.cells #[.int .i64 0, .int .i64 0] 29)) :=
  ⟨(Below.refl _ _).alloc (Nat.le_refl _) _, by go_simp, by go_simp, by go_simp, by go_simp, by simp⟩

theorem set_in {W : World} {R : Nat} {a b : Value} (h0 : W.cell? ⟨R, 0, none⟩ = some a) (h1 : W.cell? ⟨R, 1, none⟩ = some b) (x y : Value) :
    ((W.setCell ⟨R, 0, none⟩ x).setCell ⟨R, 1, none⟩ y).cell? ⟨R, 0, none⟩ = some x ∧ ((W.setCell ⟨R, 0, none⟩ x).setCell ⟨R, 1, none⟩ y).cell? ⟨R, 1, none⟩ = some y := ⟨by go_simp, by go_simp⟩

theorem set_alloc {W : World} {R : Nat} {a b : Value} (h0 : W.cell? ⟨R, 0, none⟩ = some a) (h1 : W.cell? ⟨R, 1, none⟩ = some b) (x y : Value) (o : Obj) :
    (((W.setCell ⟨R, 0, none⟩ x).setCell ⟨R, 1, none⟩ y).alloc o).cell? ⟨R, 0, none⟩ = some x ∧ (((W.setCell ⟨R, 0, none⟩ x).setCell ⟨R, 1, none⟩ y).alloc o).cell? ⟨R, 1, none⟩ = some y :=
  ⟨cell_later ((Below.refl _ _).alloc (Nat.le_refl _) _) (set_in h0 h1 x y).1, cell_later ((Below.refl _ _).alloc (Nat.le_refl _) _) (set_in h0 h1 x y).2⟩

theorem set_alloc2 {W : World} {R : Nat} {a b : Value} (h0 : W.cell? ⟨R, 0, none⟩ = some a) (h1 : W.cell? ⟨R, 1, none⟩ = some b) (x y : Value) (o o' : Obj) :
    ((((W.setCell ⟨R, 0, none⟩ x).setCell ⟨R, 1, none⟩ y).alloc o).alloc o').cell? ⟨R, 0, none⟩ = some x ∧ ((((W.setCell ⟨R, 0, none⟩ x).setCell ⟨R, 1, none⟩ y).alloc o).alloc o').cell? ⟨R, 1, none⟩ = some y :=
  ⟨cell_later ((Below.refl _ _).alloc (Nat.le_refl _) _) (set_alloc h0 h1 x y o).1, cell_later ((Below.refl _ _).alloc (Nat.le_refl _) _) (set_alloc h0 h1 x y o).2⟩

/-- What SpanGet answers. -/
def GivesSpan (w : World) (s : ByteArray) (e : Ending) (w' : World) : Prop :=
  ∃ (m d : Int) (ok : Bool), e = .returned (.tuple #[.agg #[.int .i64 m, .int .i64 d], .bool ok]) ∧ Below w.heap.size w w' ∧ ((ok = true ∧ SpT s m d) ∨ (ok = false ∧ m = 0 ∧ d = 0 ∧ ∀ a b, ¬ SpT s a b))

theorem gives_none {w w' : World} {s : ByteArray} (hb : Below w.heap.size w w') (h : ∀ a b, ¬ SpT s a b) : GivesSpan w s (.returned (.tuple #[.agg #[.int .i64 0, .int .i64 0], .bool false])) w' := ⟨0, 0, false, rfl, hb, .inr ⟨rfl, rfl, rfl, h⟩⟩

theorem gives_some {w w' : World} {s : ByteArray} {m d : Int} (hb : Below w.heap.size w w') (h : SpT s m d) : GivesSpan w s (.returned (.tuple #[.agg #[.int .i64 m, .int .i64 d], .bool true])) w' := ⟨m, d, true, rfl, hb, .inl ⟨rfl, h⟩⟩

set_option maxHeartbeats 2000000 in
theorem l3SpanGet_any (w : World) (s : ByteArray) (hs : s.size ≤ maxLen) : Calls Tryz.prog 81 #[.string s] w (GivesSpan w s) := by
  have hs' := hs
  unfold maxLen at hs'
  have K0 := SpB.start w
  by_cases hz : s.size = 0
  · have k0 : ((s.size : Int) == 0) = true := by simp [hz]
    have HN := hide (show ∀ a b, ¬ SpT s a b from fun a b h => by
      have := congrArg List.length (spanT_list a b)
      rw [h.2, list_size, hz] at this
      simp at this)
    clear hz
    obtain ⟨kb, kc0, kc1, kf0, kf1, kl⟩ := id K0
    go_enter Tryz.func81, Tryz.ntmps81
    go_wp2
    refine bodyPost_ret (v := .tuple #[.agg #[.int .i64 0, .int .i64 0], .bool false]) (by simp [results, Tryz.results81, go_sem]) rfl ?_
    exact gives_none (by first | exact kb | exact (kb.setCell (Nat.le_refl _) _).setCell (Nat.le_refl _) _) (unhide HN)
  obtain ⟨n, hn⟩ : ∃ n, s.size = n + 1 := ⟨s.size - 1, by omega⟩
  have hn' : n < s.size := by omega
  have k0 : ((s.size : Int) == 0) = false := by rw [beq_eq_false_iff_ne]; omega
  have hw : IntKind.i64.wrap ((s.size : Int) - 1) = (n : Int) := by rw [IntKind.wrap_i64]; omega
  have hw2 : (s.size : Int) - 1 = (n : Int) := by omega
  have ht : (s.extract 0 n).size ≤ maxLen := by rw [ByteArray.size_extract]; unfold maxLen; omega
  obtain ⟨k, hk⟩ := cat_is 109 (s.extract 0 n)
  have HA := hide (fun (m d : Int) (h : SpT s m d) => spec_span hn hk h)
  have HB := hide (fun (m d : Int) (a : s[n].toNat = 100) (b : k < (s.extract 0 n).size) => spec_span_back (m := m) (d := d) hn hn' a hk b)
  have hle : (n : Int) ≤ (s.size : Int) := by omega
  have hge : (0 : Int) ≤ (n : Int) := by omega
  obtain ⟨c, hc⟩ : ∃ c, s[n].toNat = c := ⟨_, rfl⟩
  rw [hc] at HB
  have HC := hide hc
  clear hz hn
  by_cases h100 : c = 100
  case neg =>
    have k1 : ((c : Int) != 100) = true := by simp; omega
    have HN := hide (show ∀ a b, ¬ SpT s a b from fun a b h => h100 (by rw [← unhide HC]; exact (unhide HA a b h).1 hn'))
    clear HA HB h100 hk
    obtain ⟨kb, kc0, kc1, kf0, kf1, kl⟩ := id K0
    go_enter Tryz.func81, Tryz.ntmps81
    go_wp2
    refine bodyPost_ret (v := .tuple #[.agg #[.int .i64 0, .int .i64 0], .bool false]) (by simp [results, Tryz.results81, go_sem]) rfl ?_
    exact gives_none (by first | exact kb | exact (kb.setCell (Nat.le_refl _) _).setCell (Nat.le_refl _) _) (unhide HN)
  have k1 : ((c : Int) != 100) = false := by simp [h100]
  by_cases hks : k < (s.extract 0 n).size
  case neg =>
    have HN := hide (show ∀ a b, ¬ SpT s a b from fun a b h => hks (unhide HA a b h).2.1)
    have C : Hid (∀ W, Calls Tryz.prog 131 #[.string (s.extract 0 n), .int .u8 109, .int .i64 1] W (GivesT W [s.extract 0 n])) := fun W => l1Cut_no W (s.extract 0 n) 109 k hk (by have := hk.1; omega) ht
    clear HA HB h100 hk hks
    go_enter Tryz.func81, Tryz.ntmps81
    go_wp2_with fail
    refine (unhide C _).mono ?_
    rintro e w1 ⟨g, cap, rfl, o1, b1⟩
    obtain ⟨kb, kc0, kc1, kf0, kf1, kl⟩ := K0.later b1
    clear o1 b1
    go_wp2
    refine bodyPost_ret (v := .tuple #[.agg #[.int .i64 0, .int .i64 0], .bool false]) (by simp [results, Tryz.results81, go_sem, kc0, kc1]) rfl ?_
    exact gives_none (by first | exact kb | exact (kb.setCell (Nat.le_refl _) _).setCell (Nat.le_refl _) _) (unhide HN)
  have C : Hid (∀ W, Calls Tryz.prog 131 #[.string (s.extract 0 n), .int .u8 109, .int .i64 1] W (GivesT W [(s.extract 0 n).extract 0 k, (s.extract 0 n).extract (k + 1) (s.extract 0 n).size])) := fun W => l1Cut_yes W (s.extract 0 n) 109 k hk hks ht
  have HB1 := hide (fun m d => unhide HB m d h100 hks)
  have za : ((s.extract 0 n).extract 0 k).size ≤ maxLen := by rw [ByteArray.size_extract]; omega
  have zb : ((s.extract 0 n).extract (k + 1) (s.extract 0 n).size).size ≤ maxLen := by rw [ByteArray.size_extract]; omega
  have HA1 := hide (fun (m d : Int) (h : SpT s m d) => (unhide HA m d h).2.2)
  clear HA HB h100 hk
  generalize (s.extract 0 n).extract 0 k = A at *
  generalize (s.extract 0 n).extract (k + 1) (s.extract 0 n).size = B at *
  go_enter Tryz.func81, Tryz.ntmps81
  go_wp2_with fail
  refine (unhide C _).mono ?_
  rintro e w1 ⟨g, cap, rfl, o1, b1⟩
  have K1 := K0.later b1
  have q0 := o1.cellAt (i := 0) (by simp)
  have q1 := o1.cellAt (i := 1) (by simp)
  simp only [List.getElem_cons_zero, List.getElem_cons_succ] at q0 q1
  clear o1 b1 C K0
  go_wp2_with fail
  refine (l1Int_any _ A za).mono ?_
  rintro e w2 ⟨x, ok1, rfl, rfl, h1, h1'⟩
  have H1 := hide h1
  have H1' := hide h1'
  clear h1 h1'
  go_wp2_with fail
  refine (l1Int_any _ B zb).mono ?_
  rintro e w3 ⟨y, ok2, rfl, rfl, h2, h2'⟩
  have H2 := hide h2
  have H2' := hide h2'
  clear h2 h2' q0 q1
  obtain ⟨kb, kc0, kc1, kf0, kf1, kl⟩ := id K1
  have Z1 := fun x y o => (set_alloc kc0 kc1 x y o).1
  have Z2 := fun x y o => (set_alloc kc0 kc1 x y o).2
  have Z3 := fun x y o o' => (set_alloc2 kc0 kc1 x y o o').1
  have Z4 := fun x y o o' => (set_alloc2 kc0 kc1 x y o o').2
  have HZ := hide (And.intro Z1 (And.intro Z2 (And.intro Z3 Z4)))
  clear Z1 Z2 Z3 Z4
  cases ok1
  · have HN := hide (show ∀ a b, ¬ SpT s a b from fun a b h => unhide H1' rfl _ (unhide HA1 a b h).1)
    clear H1 H1' H2 H2' HA1 HB1
    go_wp2
    refine bodyPost_ret (v := .tuple #[.agg #[.int .i64 0, .int .i64 0], .bool false]) (by simp [results, Tryz.results81, go_sem, kc0, kc1, (unhide HZ).1, (unhide HZ).2.1, (unhide HZ).2.2.1, (unhide HZ).2.2.2]) rfl ?_
    exact gives_none (by first | exact kb.alloc (by omega) _ | exact ((kb.alloc (by omega) _).setCell (Nat.le_refl _) _).setCell (Nat.le_refl _) _ | exact ((kb.setCell (Nat.le_refl _) _).setCell (Nat.le_refl _) _).alloc (by simp [World.setCell]; omega) _) (unhide HN)
  cases ok2
  · have HN := hide (show ∀ a b, ¬ SpT s a b from fun a b h => unhide H2' rfl _ (unhide HA1 a b h).2)
    clear H1 H1' H2 H2' HA1 HB1
    go_wp2
    refine bodyPost_ret (v := .tuple #[.agg #[.int .i64 0, .int .i64 0], .bool false]) (by simp [results, Tryz.results81, go_sem, kc0, kc1, (unhide HZ).1, (unhide HZ).2.1, (unhide HZ).2.2.1, (unhide HZ).2.2.2]) rfl ?_
    exact gives_none (by first | exact kb.alloc (by omega) _ | exact ((kb.alloc (by omega) _).setCell (Nat.le_refl _) _).setCell (Nat.le_refl _) _ | exact ((kb.setCell (Nat.le_refl _) _).setCell (Nat.le_refl _) _).alloc (by simp [World.setCell]; omega) _) (unhide HN)
  have CO := hide (fun W => specL3SpanOk_any W x y)
  have E : SpanIs x y → SpT s x y := fun h => unhide HB1 x y (unhide H1 rfl) (unhide H2 rfl) h
  have N : ¬ SpanIs x y → ∀ a b, ¬ SpT s a b := fun h a b hs => by
    have e1 := itoa_inj (a := x) (by have := (unhide H1 rfl).2; omega) ((unhide H1 rfl).1.symm.trans (unhide HA1 a b hs).1.1)
    have e2 := itoa_inj (a := y) (by have := (unhide H2 rfl).2; omega) ((unhide H2 rfl).1.symm.trans (unhide HA1 a b hs).2.1)
    subst e1 e2
    exact h hs.1
  clear H1 H1' H2 H2' HA1 HB1
  go_wp2_with fail
  refine (unhide CO _).mono ?_
  rintro e w4 ⟨rfl, hw4⟩
  subst hw4
  by_cases hi : SpanIs x y
  · rw [decide_eq_true hi]
    have HE := hide (E hi)
    clear hi E N CO
    go_wp2
    refine bodyPost_ret (v := .tuple #[.agg #[.int .i64 x, .int .i64 y], .bool true]) (by simp [results, Tryz.results81, go_sem, kc0, kc1, (unhide HZ).1, (unhide HZ).2.1, (unhide HZ).2.2.1, (unhide HZ).2.2.2]) rfl ?_
    exact gives_some (by first | exact (((kb.alloc (by omega) _).alloc (by simp; omega) _).setCell (Nat.le_refl _) _).setCell (Nat.le_refl _) _ | exact (((kb.setCell (Nat.le_refl _) _).setCell (Nat.le_refl _) _).alloc (by simp [World.setCell]; omega) _).alloc (by simp [World.setCell]; omega) _) (unhide HE)
  · rw [decide_eq_false hi]
    have HN := hide (N hi)
    clear hi E N CO
    go_wp2
    refine bodyPost_ret (v := .tuple #[.agg #[.int .i64 0, .int .i64 0], .bool false]) (by simp [results, Tryz.results81, go_sem, kc0, kc1, (unhide HZ).1, (unhide HZ).2.1, (unhide HZ).2.2.1, (unhide HZ).2.2.2]) rfl ?_
    exact gives_none (by first | exact (((kb.alloc (by omega) _).alloc (by simp; omega) _).setCell (Nat.le_refl _) _).setCell (Nat.le_refl _) _ | exact (((kb.setCell (Nat.le_refl _) _).setCell (Nat.le_refl _) _).alloc (by simp [World.setCell]; omega) _).alloc (by simp [World.setCell]; omega) _) (unhide HN)

end Go.Proofs.YtdklikicngmkbaaGreatDoor
