/- A text that is cut at the first of a byte: the specification's l1Cut by a contract. SpanGet of the specification, by a contract. SpanGet of the program, by a contract. -/
import Derived.Test.YtdklikicngmkbaaGreatDoorG17
import Derived.Test.YtdklikicngmkbaaGreatDoorG16
import Derived.Test.YtdklikicngmkbaaGreatDoorG14
import Derived.Deep.DeepCutAuto
namespace Go.Proofs.YtdklikicngmkbaaGreatDoor
open Go.RowKit
set_option maxRecDepth 100000

/-- What a call answers that hands out a list of texts of its own. -/
def GivesT (w : World) (l : List ByteArray) (e : Ending) (w' : World) : Prop :=
  ∃ g cap, e = .returned (.slice (some ⟨g, 0, none⟩) l.length cap) ∧ OwnT w.heap.size w' (.slice (some ⟨g, 0, none⟩) l.length cap) l ∧ Below w.heap.size w w'

set_option maxHeartbeats 1000000 in
theorem l1Cut_no (w : World) (s : ByteArray) (c : UInt8) (d : Nat) (hd : CAt c s d) (he : d = s.size) (hs : s.size ≤ maxLen) :
    Calls Tryz.prog 131 #[.string s, .int .u8 c.toNat, .int .i64 1] w (GivesT w [s]) := by
  unfold maxLen at hs
  have HD := hide (fun j (h : j < s.size) => hd.2.1 j h (by omega))
  clear hd he
  have HO := hide (ownT_empty w (Nat.le_refl w.heap.size))
  have B0 : Below w.heap.size w (w.alloc (.cells #[] 9)) := (Below.refl _ _).alloc (Nat.le_refl _) _
  have hsz : w.heap.size + 1 ≤ (w.alloc (.cells #[] 9)).heap.size := by rw [World.size_alloc]; exact Nat.le_refl _
  go_enter Tryz.func131, Tryz.ntmps131
  go_wp2
  generalize w.alloc (.cells #[] 9) = W0 at *
  go_loopw [7, 8, 9] (fun oo ff ii wr => ∃ i g0 cap0 : Nat, oo = .slice (some ⟨g0, 0, none⟩) 0 cap0 ∧ ff = .int .i64 0 ∧ ii = .int .i64 i ∧ i ≤ s.size ∧ Hid (OwnT w.heap.size W0 (.slice (some ⟨g0, 0, none⟩) 0 cap0) []) ∧ wr = W0) (fun _ _ ii _ => s.size - (intOf ii).toNat)
  case atStart => exact ⟨0, w.heap.size, 0, rfl, rfl, rfl, Nat.zero_le _, HO, rfl⟩
  case round =>
    obtain ⟨i, g0, cap0, rfl, rfl, rfl, hi, HO1, rfl⟩ := hrel
    clear HO
    by_cases h : i < s.size
    · have hc : ((s[i].toNat : Int) == (c.toNat : Int)) = false := by
        rw [beq_eq_false_iff_ne]
        have := unhide HD i h
        omega
      have w5 : IntKind.i64.wrap ((i : Int) + 1) = (i : Int) + 1 := by rw [IntKind.wrap_i64]; omega
      go_wp2
      go_roundw
      case rel => exact ⟨i + 1, g0, cap0, rfl, rfl, by simp, by omega, HO1, trivial⟩
      case measure => simp only [intOf]; omega
    · have g : decide ((i : Int) < (s.size : Int)) = false := by simp; omega
      go_wp2_with (at_builtin; refine wpList_pushS rfl _ _ 70 rfl Tryz.underlying70 w.heap.size _ [] _ (unhide HO1) rfl rfl (by simp) (by omega) ?_; intro g1 cap1 w1 hown1 hb1 hc1 hm1 hBg1 hgs1)
      go_ret
      exact ⟨g1, cap1, rfl, hown1, B0.trans hb1⟩

set_option maxHeartbeats 2000000 in
theorem l1Cut_yes (w : World) (s : ByteArray) (c : UInt8) (d : Nat) (hd : CAt c s d) (he : d < s.size) (hs : s.size ≤ maxLen) :
    Calls Tryz.prog 131 #[.string s, .int .u8 c.toNat, .int .i64 1] w (GivesT w [s.extract 0 d, s.extract (d + 1) s.size]) := by
  unfold maxLen at hs
  have HD := hide (fun j (h : j < s.size) (k : j < d) => hd.2.1 j h k)
  have HE := hide (hd.2.2 he)
  clear hd
  have HO := hide (ownT_empty w (Nat.le_refl w.heap.size))
  have B0 : Below w.heap.size w (w.alloc (.cells #[] 9)) := (Below.refl _ _).alloc (Nat.le_refl _) _
  have hsz : w.heap.size + 1 ≤ (w.alloc (.cells #[] 9)).heap.size := by rw [World.size_alloc]; exact Nat.le_refl _
  go_enter Tryz.func131, Tryz.ntmps131
  go_wp2
  generalize w.alloc (.cells #[] 9) = W0 at *
  go_loopw [7, 8, 9] (fun oo ff ii wr => (∃ i g0 cap0 : Nat, oo = .slice (some ⟨g0, 0, none⟩) 0 cap0 ∧ ff = .int .i64 0 ∧ ii = .int .i64 i ∧ i ≤ d ∧ Hid (OwnT w.heap.size W0 (.slice (some ⟨g0, 0, none⟩) 0 cap0) []) ∧ wr = W0) ∨
    (∃ g cap : Nat, oo = .slice (some ⟨g, 0, none⟩) 1 cap ∧ ff = .int .i64 ((d : Int) + 1) ∧ ii = .int .i64 ((d : Int) + 1) ∧ Hid (OwnT w.heap.size wr (.slice (some ⟨g, 0, none⟩) 1 cap) [s.extract 0 d]) ∧ Below w.heap.size w wr ∧ w.heap.size + 1 ≤ wr.heap.size)) (fun _ _ ii _ => s.size + 1 - (intOf ii).toNat)
  case atStart => exact .inl ⟨0, w.heap.size, 0, rfl, rfl, rfl, Nat.zero_le _, HO, rfl⟩
  case round =>
    clear HO
    rcases hrel with ⟨i, g0, cap0, rfl, rfl, rfl, hi, HO1, rfl⟩ | ⟨g0, cap0, rfl, rfl, rfl, ho, hb, hz⟩
    · have hin : i < s.size := by omega
      have w5 : IntKind.i64.wrap ((i : Int) + 1) = (i : Int) + 1 := by rw [IntKind.wrap_i64]; omega
      by_cases h : i < d
      · have hc : ((s[i].toNat : Int) == (c.toNat : Int)) = false := by
          rw [beq_eq_false_iff_ne]
          have := unhide HD i hin h
          omega
        go_wp2
        go_roundw
        case rel => exact .inl ⟨i + 1, g0, cap0, rfl, rfl, by simp, by omega, HO1, trivial⟩
        case measure => simp only [intOf]; omega
      · obtain rfl : i = d := by omega
        have hc : ((s[i].toNat : Int) == (c.toNat : Int)) = true := by
          rw [beq_iff_eq]
          have := unhide HE
          omega
        have hk2 : (0 : Int) ≤ (i : Int) := by omega
        have hk3 : (i : Int) ≤ (s.size : Int) := by omega
        go_wp2_with (at_builtin; refine wpList_pushS rfl _ _ 70 rfl Tryz.underlying70 w.heap.size _ [] _ (unhide HO1) rfl rfl (by simp) (by omega) ?_; intro g1 cap1 w1 hown1 hb1 hc1 hm1 hBg1 hgs1)
        go_roundw
        case rel => exact .inr ⟨g1, cap1, rfl, rfl, rfl, hown1, B0.trans hb1, by have := hb1.size; omega⟩
        case measure => simp only [intOf]; omega
    · have hk1 : (d : Int) + 1 ≤ (s.size : Int) := by omega
      have hk2 : (0 : Int) ≤ (d : Int) + 1 := by omega
      go_wp2_with (at_builtin; refine wpList_pushS rfl _ _ 70 rfl Tryz.underlying70 w.heap.size _ [s.extract 0 d] _ (unhide ho) rfl rfl (by simp) (by omega) ?_; intro g1 cap1 w1 hown1 hb1 hc1 hm1 hBg1 hgs1)
      all_goals
        go_ret
        exact ⟨g1, cap1, rfl, hown1, hb.trans hb1⟩

end Go.Proofs.YtdklikicngmkbaaGreatDoor

namespace Go.Proofs.YtdklikicngmkbaaGreatDoor
open Go.RowKit
set_option linter.unusedSimpArgs false
set_option maxRecDepth 100000

/-- The place for a span, made first. -/
structure SpB (w0 w : World) : Prop where
  below : Below w0.heap.size w0 w
  c0 : w.cell? ⟨w0.heap.size, 0, none⟩ = some (.int .i64 0)
  c1 : w.cell? ⟨w0.heap.size, 1, none⟩ = some (.int .i64 0)
  f0 : w.frozen? ⟨w0.heap.size, 0, none⟩ = false
  f1 : w.frozen? ⟨w0.heap.size, 1, none⟩ = false
  lt : w0.heap.size < w.heap.size

theorem SpB.later {w0 w w' : World} (h : SpB w0 w) (b : Below w.heap.size w w') : SpB w0 w' :=
  ⟨h.below.trans (b.mono h.below.size), cell_later b h.c0, cell_later b h.c1, (b.frozen (p := ⟨w0.heap.size, 0, none⟩) h.lt).trans h.f0, (b.frozen (p := ⟨w0.heap.size, 1, none⟩) h.lt).trans h.f1, Nat.lt_of_lt_of_le h.lt b.size⟩
theorem SpB.start (w : World) : SpB w (w.alloc (.cells #[.int .i64 0, .int .i64 0] 29)) :=
  ⟨(Below.refl _ _).alloc (Nat.le_refl _) _, by go_simp, by go_simp, by go_simp, by go_simp, by simp⟩

theorem set_in {W : World} {R : Nat} {a b : Value} (h0 : W.cell? ⟨R, 0, none⟩ = some a) (h1 : W.cell? ⟨R, 1, none⟩ = some b) (x y : Value) :
    ((W.setCell ⟨R, 0, none⟩ x).setCell ⟨R, 1, none⟩ y).cell? ⟨R, 0, none⟩ = some x ∧ ((W.setCell ⟨R, 0, none⟩ x).setCell ⟨R, 1, none⟩ y).cell? ⟨R, 1, none⟩ = some y := ⟨by go_simp, by go_simp⟩

theorem set_alloc {W : World} {R : Nat} {a b : Value} (h0 : W.cell? ⟨R, 0, none⟩ = some a) (h1 : W.cell? ⟨R, 1, none⟩ = some b) (x y : Value) (o : Obj) :
    (((W.setCell ⟨R, 0, none⟩ x).setCell ⟨R, 1, none⟩ y).alloc o).cell? ⟨R, 0, none⟩ = some x ∧ (((W.setCell ⟨R, 0, none⟩ x).setCell ⟨R, 1, none⟩ y).alloc o).cell? ⟨R, 1, none⟩ = some y :=
  ⟨cell_later ((Below.refl _ _).alloc (Nat.le_refl _) _) (set_in h0 h1 x y).1, cell_later ((Below.refl _ _).alloc (Nat.le_refl _) _) (set_in h0 h1 x y).2⟩

theorem set_alloc2 {W : World} {R : Nat} {a b : Value} (h0 : W.cell? ⟨R, 0, none⟩ = some a) (h1 : W.cell? ⟨R, 1, none⟩ = some b) (x y : Value) (o o' : Obj) :
    ((((W.setCell ⟨R, 0, none⟩ x).setCell ⟨R, 1, none⟩ y).alloc o).alloc o').cell? ⟨R, 0, none⟩ = some x ∧ ((((W.setCell ⟨R, 0, none⟩ x).setCell ⟨R, 1, none⟩ y).alloc o).alloc o').cell? ⟨R, 1, none⟩ = some y :=
  ⟨cell_later ((Below.refl _ _).alloc (Nat.le_refl _) _) (set_alloc h0 h1 x y o).1, cell_later ((Below.refl _ _).alloc (Nat.le_refl _) _) (set_alloc h0 h1 x y o).2⟩

/-- What SpanGet answers. -/
def GivesSpan (w : World) (s : ByteArray) (e : Ending) (w' : World) : Prop :=
  ∃ (m d : Int) (ok : Bool), e = .returned (.tuple #[.agg #[.int .i64 m, .int .i64 d], .bool ok]) ∧ Below w.heap.size w w' ∧ ((ok = true ∧ SpT s m d) ∨ (ok = false ∧ m = 0 ∧ d = 0 ∧ ∀ a b, ¬ SpT s a b))

theorem gives_none {w w' : World} {s : ByteArray} (hb : Below w.heap.size w w') (h : ∀ a b, ¬ SpT s a b) : GivesSpan w s (.returned (.tuple #[.agg #[.int .i64 0, .int .i64 0], .bool false])) w' := ⟨0, 0, false, rfl, hb, .inr ⟨rfl, rfl, rfl, h⟩⟩

theorem gives_some {w w' : World} {s : ByteArray} {m d : Int} (hb : Below w.heap.size w w') (h : SpT s m d) : GivesSpan w s (.returned (.tuple #[.agg #[.int .i64 m, .int .i64 d], .bool true])) w' := ⟨m, d, true, rfl, hb, .inl ⟨rfl, h⟩⟩

set_option maxHeartbeats 2000000 in
theorem l3SpanGet_any (w : World) (s : ByteArray) (hs : s.size ≤ maxLen) : Calls Tryz.prog 81 #[.string s] w (GivesSpan w s) := by
  have hs' := hs
  unfold maxLen at hs'
  have K0 := SpB.start w
  by_cases hz : s.size = 0
  · have k0 : ((s.size : Int) == 0) = true := by simp [hz]
    have HN := hide (show ∀ a b, ¬ SpT s a b from fun a b h => by
      have := congrArg List.length (spanT_list a b)
      rw [h.2, list_size, hz] at this
      simp at this)
    clear hz
    obtain ⟨kb, kc0, kc1, kf0, kf1, kl⟩ := id K0
    go_enter Tryz.func81, Tryz.ntmps81
    go_wp2
    refine bodyPost_ret (v := .tuple #[.agg #[.int .i64 0, .int .i64 0], .bool false]) (by simp [results, Tryz.results81, go_sem]) rfl ?_
    exact gives_none (by first | exact kb | exact (kb.setCell (Nat.le_refl _) _).setCell (Nat.le_refl _) _) (unhide HN)
  obtain ⟨n, hn⟩ : ∃ n, s.size = n + 1 := ⟨s.size - 1, by omega⟩
  have hn' : n < s.size := by omega
  have k0 : ((s.size : Int) == 0) = false := by rw [beq_eq_false_iff_ne]; omega
  have hw : IntKind.i64.wrap ((s.size : Int) - 1) = (n : Int) := by rw [IntKind.wrap_i64]; omega
  have hw2 : (s.size : Int) - 1 = (n : Int) := by omega
  have ht : (s.extract 0 n).size ≤ maxLen := by rw [ByteArray.size_extract]; unfold maxLen; omega
  obtain ⟨k, hk⟩ := cat_is 109 (s.extract 0 n)
  have HA := hide (fun (m d : Int) (h : SpT s m d) => spec_span hn hk h)
  have HB := hide (fun (m d : Int) (a : s[n].toNat = 100) (b : k < (s.extract 0 n).size) => spec_span_back (m := m) (d := d) hn hn' a hk b)
  have hle : (n : Int) ≤ (s.size : Int) := by omega
  have hge : (0 : Int) ≤ (n : Int) := by omega
  obtain ⟨c, hc⟩ : ∃ c, s[n].toNat = c := ⟨_, rfl⟩
  rw [hc] at HB
  have HC := hide hc
  clear hz hn
  by_cases h100 : c = 100
  case neg =>
    have k1 : ((c : Int) != 100) = true := by simp; omega
    have HN := hide (show ∀ a b, ¬ SpT s a b from fun a b h => h100 (by rw [← unhide HC]; exact (unhide HA a b h).1 hn'))
    clear HA HB h100 hk
    obtain ⟨kb, kc0, kc1, kf0, kf1, kl⟩ := id K0
    go_enter Tryz.func81, Tryz.ntmps81
    go_wp2
    refine bodyPost_ret (v := .tuple #[.agg #[.int .i64 0, .int .i64 0], .bool false]) (by simp [results, Tryz.results81, go_sem]) rfl ?_
    exact gives_none (by first | exact kb | exact (kb.setCell (Nat.le_refl _) _).setCell (Nat.le_refl _) _) (unhide HN)
  have k1 : ((c : Int) != 100) = false := by simp [h100]
  by_cases hks : k < (s.extract 0 n).size
  case neg =>
    have HN := hide (show ∀ a b, ¬ SpT s a b from fun a b h => hks (unhide HA a b h).2.1)
    have C : Hid (∀ W, Calls Tryz.prog 131 #[.string (s.extract 0 n), .int .u8 109, .int .i64 1] W (GivesT W [s.extract 0 n])) := fun W => l1Cut_no W (s.extract 0 n) 109 k hk (by have := hk.1; omega) ht
    clear HA HB h100 hk hks
    go_enter Tryz.func81, Tryz.ntmps81
    go_wp2_with fail
    refine (unhide C _).mono ?_
    rintro e w1 ⟨g, cap, rfl, o1, b1⟩
    obtain ⟨kb, kc0, kc1, kf0, kf1, kl⟩ := K0.later b1
    clear o1 b1
    go_wp2
    refine bodyPost_ret (v := .tuple #[.agg #[.int .i64 0, .int .i64 0], .bool false]) (by simp [results, Tryz.results81, go_sem, kc0, kc1]) rfl ?_
    exact gives_none (by first | exact kb | exact (kb.setCell (Nat.le_refl _) _).setCell (Nat.le_refl _) _) (unhide HN)
  have C : Hid (∀ W, Calls Tryz.prog 131 #[.string (s.extract 0 n), .int .u8 109, .int .i64 1] W (GivesT W [(s.extract 0 n).extract 0 k, (s.extract 0 n).extract (k + 1) (s.extract 0 n).size])) := fun W => l1Cut_yes W (s.extract 0 n) 109 k hk hks ht
  have HB1 := hide (fun m d => unhide HB m d h100 hks)
  have za : ((s.extract 0 n).extract 0 k).size ≤ maxLen := by rw [ByteArray.size_extract]; omega
  have zb : ((s.extract 0 n).extract (k + 1) (s.extract 0 n).size).size ≤ maxLen := by rw [ByteArray.size_extract]; omega
  have HA1 := hide (fun (m d : Int) (h : SpT s m d) => (unhide HA m d h).2.2)
  clear HA HB h100 hk
  generalize (s.extract 0 n).extract 0 k = A at *
  generalize (s.extract 0 n).extract (k + 1) (s.extract 0 n).size = B at *
  go_enter Tryz.func81, Tryz.ntmps81
  go_wp2_with fail
  refine (unhide C _).mono ?_
  rintro e w1 ⟨g, cap, rfl, o1, b1⟩
  have K1 := K0.later b1
  have q0 := o1.cellAt (i := 0) (by simp)
  have q1 := o1.cellAt (i := 1) (by simp)
  simp only [List.getElem_cons_zero, List.getElem_cons_succ] at q0 q1
  clear o1 b1 C K0
  go_wp2_with fail
  refine (l1Int_any _ A za).mono ?_
  rintro e w2 ⟨x, ok1, rfl, rfl, h1, h1'⟩
  have H1 := hide h1
  have H1' := hide h1'
  clear h1 h1'
  go_wp2_with fail
  refine (l1Int_any _ B zb).mono ?_
  rintro e w3 ⟨y, ok2, rfl, rfl, h2, h2'⟩
  have H2 := hide h2
  have H2' := hide h2'
  clear h2 h2' q0 q1
  obtain ⟨kb, kc0, kc1, kf0, kf1, kl⟩ := id K1
  have Z1 := fun x y o => (set_alloc kc0 kc1 x y o).1
  have Z2 := fun x y o => (set_alloc kc0 kc1 x y o).2
  have Z3 := fun x y o o' => (set_alloc2 kc0 kc1 x y o o').1
  have Z4 := fun x y o o' => (set_alloc2 kc0 kc1 x y o o').2
  have HZ := hide (And.intro Z1 (And.intro Z2 (And.intro Z3 Z4)))
  clear Z1 Z2 Z3 Z4
  cases ok1
  · have HN := hide (show ∀ a b, ¬ SpT s a b from fun a b h => unhide H1' rfl _ (unhide HA1 a b h).1)
    clear H1 H1' H2 H2' HA1 HB1
    go_wp2
    refine bodyPost_ret (v := .tuple #[.agg #[.int .i64 0, .int .i64 0], .bool false]) (by simp [results, Tryz.results81, go_sem, kc0, kc1, (unhide HZ).1, (unhide HZ).2.1, (unhide HZ).2.2.1, (unhide HZ).2.2.2]) rfl ?_
    exact gives_none (by first | exact kb.alloc (by omega) _ | exact ((kb.alloc (by omega) _).setCell (Nat.le_refl _) _).setCell (Nat.le_refl _) _ | exact ((kb.setCell (Nat.le_refl _) _).setCell (Nat.le_refl _) _).alloc (by simp [World.setCell]; omega) _) (unhide HN)
  cases ok2
  · have HN := hide (show ∀ a b, ¬ SpT s a b from fun a b h => unhide H2' rfl _ (unhide HA1 a b h).2)
    clear H1 H1' H2 H2' HA1 HB1
    go_wp2
    refine bodyPost_ret (v := .tuple #[.agg #[.int .i64 0, .int .i64 0], .bool false]) (by simp [results, Tryz.results81, go_sem, kc0, kc1, (unhide HZ).1, (unhide HZ).2.1, (unhide HZ).2.2.1, (unhide HZ).2.2.2]) rfl ?_
    exact gives_none (by first | exact kb.alloc (by omega) _ | exact ((kb.alloc (by omega) _).setCell (Nat.le_refl _) _).setCell (Nat.le_refl _) _ | exact ((kb.setCell (Nat.le_refl _) _).setCell (Nat.le_refl _) _).alloc (by simp [World.setCell]; omega) _) (unhide HN)
  have CO := hide (fun W => specL3SpanOk_any W x y)
  have E : SpanIs x y → SpT s x y := fun h => unhide HB1 x y (unhide H1 rfl) (unhide H2 rfl) h
  have N : ¬ SpanIs x y → ∀ a b, ¬ SpT s a b := fun h a b hs => by
    have e1 := itoa_inj (a := x) (by have := (unhide H1 rfl).2; omega) ((unhide H1 rfl).1.symm.trans (unhide HA1 a b hs).1.1)
    have e2 := itoa_inj (a := y) (by have := (unhide H2 rfl).2; omega) ((unhide H2 rfl).1.symm.trans (unhide HA1 a b hs).2.1)
    subst e1 e2
    exact h hs.1
  clear H1 H1' H2 H2' HA1 HB1
  go_wp2_with fail
  refine (unhide CO _).mono ?_
  rintro e w4 ⟨rfl, hw4⟩
  subst hw4
  by_cases hi : SpanIs x y
  · rw [decide_eq_true hi]
    have HE := hide (E hi)
    clear hi E N CO
    go_wp2
    refine bodyPost_ret (v := .tuple #[.agg #[.int .i64 x, .int .i64 y], .bool true]) (by simp [results, Tryz.results81, go_sem, kc0, kc1, (unhide HZ).1, (unhide HZ).2.1, (unhide HZ).2.2.1, (unhide HZ).2.2.2]) rfl ?_
    exact gives_some (by first | exact (((kb.alloc (by omega) _).alloc (by simp; omega) _).setCell (Nat.le_refl _) _).setCell (Nat.le_refl _) _ | exact (((kb.setCell (Nat.le_refl _) _).setCell (Nat.le_refl _) _).alloc (by simp [World.setCell]; omega) _).alloc (by simp [World.setCell]; omega) _) (unhide HE)
  · rw [decide_eq_false hi]
    have HN := hide (N hi)
    clear hi E N CO
    go_wp2
    refine bodyPost_ret (v := .tuple #[.agg #[.int .i64 0, .int .i64 0], .bool false]) (by simp [results, Tryz.results81, go_sem, kc0, kc1, (unhide HZ).1, (unhide HZ).2.1, (unhide HZ).2.2.1, (unhide HZ).2.2.2]) rfl ?_
    exact gives_none (by first | exact (((kb.alloc (by omega) _).alloc (by simp; omega) _).setCell (Nat.le_refl _) _).setCell (Nat.le_refl _) _ | exact (((kb.setCell (Nat.le_refl _) _).setCell (Nat.le_refl _) _).alloc (by simp [World.setCell]; omega) _).alloc (by simp [World.setCell]; omega) _) (unhide HN)

end Go.Proofs.YtdklikicngmkbaaGreatDoor

namespace Go.Proofs.YtdklikicngmkbaaGreatDoor
open Go.RowKit
set_option maxRecDepth 100000

/-- A box for two numbers that stands empty. -/
structure EbI (w : World) (k : Nat) : Prop where
  c0 : w.cell? ⟨k, 0, none⟩ = some (.int .i64 0)
  c1 : w.cell? ⟨k, 1, none⟩ = some (.int .i64 0)
  f0 : w.frozen? ⟨k, 0, none⟩ = false
  f1 : w.frozen? ⟨k, 1, none⟩ = false
  lt : k < w.heap.size

theorem EbI.later {w w' : World} {k : Nat} (h : EbI w k) (b : Below w.heap.size w w') : EbI w' k :=
  ⟨cell_later b h.c0, cell_later b h.c1, (b.frozen (p := ⟨k, 0, none⟩) h.lt).trans h.f0, (b.frozen (p := ⟨k, 1, none⟩) h.lt).trans h.f1, Nat.lt_of_lt_of_le h.lt b.size⟩

theorem EbI.new (X : World) : EbI (X.alloc (.cells #[.int .i64 0, .int .i64 0] 29)) X.heap.size := ⟨by go_simp, by go_simp, by go_simp, by go_simp, by simp⟩

theorem EbI.alloc {X w' : World} (b : Below (X.alloc (.cells #[.int .i64 0, .int .i64 0] 29)).heap.size (X.alloc (.cells #[.int .i64 0, .int .i64 0] 29)) w') : EbI w' X.heap.size := (EbI.new X).later b

theorem EbI.drew {X w' : World} (b : Below (X.alloc (.cells #[.int .i64 0, .int .i64 0] 29)).drew.heap.size (X.alloc (.cells #[.int .i64 0, .int .i64 0] 29)).drew w') : EbI w' X.heap.size :=
  ((EbI.new X).later (Below.refl _ _).drew).later b

theorem SpB.fill {w w1 W : World} (h : SpB w w1) (k : Below w1.heap.size w1 W) {b : Nat} (e : EbI W b) (hb : w1.heap.size ≤ b) (x y : Int) :
    SpB w ((W.setCell ⟨b, 0, none⟩ (.int .i64 x)).setCell ⟨b, 1, none⟩ (.int .i64 y)) ∧ ((W.setCell ⟨b, 0, none⟩ (.int .i64 x)).setCell ⟨b, 1, none⟩ (.int .i64 y)).cell? ⟨b, 0, none⟩ = some (.int .i64 x) ∧
      ((W.setCell ⟨b, 0, none⟩ (.int .i64 x)).setCell ⟨b, 1, none⟩ (.int .i64 y)).cell? ⟨b, 1, none⟩ = some (.int .i64 y) :=
  ⟨h.later ((k.setCell (p := ⟨b, 0, none⟩) hb _).setCell (p := ⟨b, 1, none⟩) hb _), (set_in e.c0 e.c1 _ _).1, (set_in e.c0 e.c1 _ _).2⟩

theorem SpB.made {w w1 W : World} (h : SpB w w1) (k : Below w1.heap.size w1 W) (x y : Int) :
    SpB w (W.alloc (.cells #[.int .i64 x, .int .i64 y] 29)) ∧ (W.alloc (.cells #[.int .i64 x, .int .i64 y] 29)).cell? ⟨W.heap.size, 0, none⟩ = some (.int .i64 x) ∧
      (W.alloc (.cells #[.int .i64 x, .int .i64 y] 29)).cell? ⟨W.heap.size, 1, none⟩ = some (.int .i64 y) :=
  ⟨(h.later k).later ((Below.refl _ _).alloc (Nat.le_refl _) _), by go_simp, by go_simp⟩

/-- What stands ahead of a d at the end. -/
def cutD (B : ByteArray) : ByteArray := ⟨(Lib.trimSuffix B.data.toList [100]).toArray⟩

theorem cutD_list (B : ByteArray) (A : List UInt8) (h : B.data.toList = A ++ [100]) : (cutD B).data.toList = A := by
  unfold cutD
  rw [h]
  have hs : Lib.hasSuffix (A ++ [100]) [100] = true := by simp [Lib.hasSuffix]
  simp [Lib.trimSuffix, hs]

/-- What SpanPut writes. -/
def spanPutR (m d : Int) : ByteArray := if SpanIs m d then spanT m d else ⟨#[]⟩

theorem implSpanPut_any (w : World) (m d : Int) (ht : Tab w) : Calls Tryz.prog 119 #[.agg #[.int .i64 m, .int .i64 d]] w fun e w' => e = .returned (.string (spanPutR m d)) ∧ Below w.heap.size w w' := by
  unfold spanPutR
  by_cases h : SpanIs m d
  · rw [if_pos h]; exact implSpanPut_yes w m d h ht
  · rw [if_neg h]; exact implSpanPut_no w m d h

/-- The program's way: what it makes of both parts is held against the text. -/
theorem impl_span {s : ByteArray} {k : Nat} (hk : CAt 109 s k) {x y : Int} (hx : x = numB (s.extract 0 k).data.toList) (hy : y = numB (cutD (partC s k)).data.toList) :
    (spanPutR x y = s → SpT s x y) ∧ (spanPutR x y ≠ s → ∀ a b, ¬ SpT s a b) := by
  constructor
  · intro e
    by_cases h : SpanIs x y
    · exact ⟨h, by rw [← e]; unfold spanPutR; rw [if_pos h]⟩
    · exfalso
      unfold spanPutR at e
      rw [if_neg h] at e
      apply h
      subst e
      have hk0 : k = 0 := by have := hk.1; have : (⟨#[]⟩ : ByteArray).size = 0 := rfl; omega
      subst hk0
      have ex : x = 0 := by rw [hx]; rfl
      have ey : y = 0 := by rw [hy]; rfl
      rw [ex, ey]
      unfold SpanIs
      omega
  · intro e a b h
    have hl := spanT_list a b
    rw [h.2] at hl
    obtain ⟨h1, h2, h3⟩ := cat_same hl (itoa_no (by decide)) hk
    have hi := h.1
    have h4 : (cutD (partC s k)).data.toList = Lib.itoa b := by
      apply cutD_list
      unfold partC
      rw [if_pos h1]
      exact h3
    rw [h2, numB_itoa (by obtain ⟨⟨_, _⟩, _, _⟩ := hi; omega)] at hx
    rw [h4, numB_itoa (by obtain ⟨⟨_, _⟩, _, _⟩ := hi; omega)] at hy
    subst hx hy
    apply e
    unfold spanPutR
    rw [if_pos hi]
    exact h.2

theorem txt_ne {s t : ByteArray} (h : s ≠ t) : (s.toList == t.toList) = false := by
  rw [beq_eq_false_iff_ne]
  intro k
  rw [ByteArray.toList_eq, ByteArray.toList_eq] at k
  exact h (ByteArray.ext (Array.toList_inj.1 k))

theorem cutD_size (B : ByteArray) : (cutD B).size ≤ B.size := by
  have : (cutD B).size = (Lib.trimSuffix B.data.toList [100]).length := by unfold cutD; exact bytes_size _
  rw [this]
  have hl := list_size B
  unfold Lib.trimSuffix
  split
  · rw [List.length_take]; omega
  · omega

set_option maxHeartbeats 4000000 in
theorem implSpanGet_any (w : World) (s : ByteArray) (hs : s.size ≤ 2000000) (tt : Tab w) (he : Er w) : Calls Tryz.prog 75 #[.string s] w (GivesSpan w s) := by
  have K0 := SpB.start w
  obtain ⟨k, hk⟩ := cat_is 109 s
  obtain ⟨x, hx⟩ : ∃ x, x = numB (s.extract 0 k).data.toList := ⟨_, rfl⟩
  obtain ⟨y, hy⟩ : ∃ y, y = numB (cutD (partC s k)).data.toList := ⟨_, rfl⟩
  have HI := hide (impl_span hk hx hy)
  have zA : (s.extract 0 k).size ≤ 281474976710656 := by rw [ByteArray.size_extract]; omega
  have zB : (partC s k).size ≤ 281474976710656 := by
    unfold partC
    split
    · rw [ByteArray.size_extract]; omega
    · exact Nat.zero_le _
  have zT : (cutD (partC s k)).size ≤ 281474976710656 := Nat.le_trans (cutD_size _) zB
  have CC := hide (fun W => cutC_any W 109 s k hk (by unfold maxLen; omega))
  have CN0 := hide (fun W (b : Below w.heap.size w W) => numberOf_any W _ zA (he.later b))
  have CN1 := hide (fun W (b : Below w.heap.size w W) => numberOf_any W _ zT (he.later b))
  have CT : Hid (∀ W, Calls Tryz.prog 76 #[.string (partC s k), .string ⟨#[100]⟩] W fun e w' => e = .returned (.string (cutD (partC s k))) ∧ w' = W) := fun W => Tryz.strings_TrimSuffix (partC s k) ⟨#[100]⟩ W (by omega)
  have CP := hide (fun W (b : Below w.heap.size w W) => implSpanPut_any W x y (tt.later b))
  rw [← hx] at CN0
  rw [← hy] at CN1
  clear hx hy hk zA zB zT
  generalize s.extract 0 k = A at *
  generalize partC s k = B at *
  generalize cutD B = T at *
  go_enter Tryz.func75, Tryz.ntmps75
  go_wp2_with fail
  refine (unhide CC _).mono ?_
  rintro e w1 ⟨rfl, b1⟩
  have K1 := K0.later b1
  clear K0 b1 CC
  have hkb := K1.below
  go_wp2_with fail
  refine (unhide CN0 _ K1.below).mono ?_
  rintro e w2 ⟨rfl, b2⟩
  have K2 := K1.later b2
  go_wp2_with fail
  refine (unhide CT _).mono ?_
  rintro e w3 ⟨rfl, hw⟩
  subst hw
  go_wp2_with fail
  refine (unhide CN1 _ K2.below).mono ?_
  rintro e w4 ⟨rfl, b4⟩
  obtain ⟨K5, n0, n1⟩ := K2.made b4 x y
  clear CN0 CN1 CT K1 hkb b2 b4 K2
  go_wp2_with fail
  refine (unhide CP _ K5.below).mono ?_
  rintro e w5 ⟨rfl, b5⟩
  obtain ⟨kb, kc0, kc1, kf0, kf1, kl⟩ := K5.later b5
  have m0 := cell_later b5 n0
  have m1 := cell_later b5 n1
  clear K5 b5 n0 n1 CP
  generalize spanPutR x y = P at *
  by_cases e : P = s
  · have e1 : (P.toList == s.toList) = true := by simp [e]
    have e2 : (P.toList != s.toList) = false := by simp [e]
    have HE := hide ((unhide HI).1 e)
    clear HI e
    go_wp2
    refine bodyPost_ret (v := .tuple #[.agg #[.int .i64 x, .int .i64 y], .bool true]) (by simp [results, Tryz.results75, go_sem, kc0, kc1]) rfl ?_
    exact gives_some ((kb.setCell (Nat.le_refl _) _).setCell (Nat.le_refl _) _) (unhide HE)
  · have e1 := txt_ne e
    have e2 : (P.toList != s.toList) = true := by simpa using e1
    have HN := hide ((unhide HI).2 e)
    clear HI e
    go_wp2
    refine bodyPost_ret (v := .tuple #[.agg #[.int .i64 0, .int .i64 0], .bool false]) (by simp [results, Tryz.results75, go_sem, kc0, kc1]) rfl ?_
    exact gives_none (by first | exact kb | exact (kb.setCell (Nat.le_refl _) _).setCell (Nat.le_refl _) _) (unhide HN)

end Go.Proofs.YtdklikicngmkbaaGreatDoor
