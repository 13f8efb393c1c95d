/- Lists of texts and of waits that a call owns; copies of a disk, and disks that are the same. -/
import Derived.Test.YtmbkjbjmpemgoaaDkA
import Derived.Laws.OwnMore
namespace Go.Proofs.Ytmbkjbjmpemgoaa
open Go.RowKit

/-- The cells of texts, and of waits. -/
def strs (l : List ByteArray) : List Value := l.map Value.string
def wts (l : List (Int × ByteArray)) : List Value := l.flatMap (fun p => [.int .i64 p.1, .string p.2])

theorem strs_len (l : List ByteArray) : (strs l).length = l.length := by simp [strs]
theorem strs_set (l : List ByteArray) (i : Nat) (x : ByteArray) : (strs l).set i (.string x) = strs (l.set i x) := by simp [strs, List.map_set]
theorem strs_empty (n : Nat) : List.replicate n (Value.string ByteArray.empty) = strs (List.replicate n ByteArray.empty) := by simp [strs]
theorem strs_at {l : List ByteArray} {i : Nat} (h : i < l.length) : (strs l)[i]? = some (.string l[i]) := by simp [strs, h]
theorem wts_cons (p : Int × ByteArray) (l : List (Int × ByteArray)) : wts (p :: l) = .int .i64 p.1 :: .string p.2 :: wts l := rfl
theorem wts_len (l : List (Int × ByteArray)) : (wts l).length = l.length * 2 := by
  induction l with
  | nil => rfl
  | cons p l ih => rw [wts_cons, List.length_cons, List.length_cons, List.length_cons, ih]; omega
theorem wts_at : ∀ {l : List (Int × ByteArray)} {i : Nat} (h : i < l.length), (wts l)[i * 2]? = some (.int .i64 l[i].1) ∧ (wts l)[i * 2 + 1]? = some (.string l[i].2)
  | p :: l, 0, _ => by simp [wts_cons]
  | p :: l, i + 1, h => by
    have := wts_at (l := l) (i := i) (by simpa using h)
    rw [wts_cons, show (i + 1) * 2 = i * 2 + 1 + 1 by omega]
    simpa using this
theorem wts_set : ∀ (l : List (Int × ByteArray)) (i : Nat) (p : Int × ByteArray), i < l.length → ((wts l).set (i * 2) (.int .i64 p.1)).set (i * 2 + 1) (.string p.2) = wts (l.set i p)
  | q :: l, 0, p, _ => by simp [wts_cons]
  | q :: l, i + 1, p, h => by
    have := wts_set l i p (by simpa using h)
    rw [wts_cons, show (i + 1) * 2 = i * 2 + 1 + 1 by omega]
    simp only [List.set_cons_succ, this]
    rfl

def OwnS (B : Nat) (w : World) (v : Value) (l : List ByteArray) : Prop := w.ownsRow B 9 1 v l.length (strs l)
def OwnW (B : Nat) (w : World) (v : Value) (l : List (Int × ByteArray)) : Prop := w.ownsRow B 48 2 v l.length (wts l)

theorem ownsRow_later {B : Nat} {e : TypeId} {k : Nat} {v : Value} {n : Nat} {xs : List Value} {w w' : World} (h : w.ownsRow B e k v n xs) (hb : Below w.heap.size w w') : w'.ownsRow B e k v n xs := by
  obtain ⟨h1, h2⟩ := h
  refine ⟨h1, ?_⟩
  rcases h2 with h2 | ⟨g, cap, cur, rfl, hB, hg, hr⟩
  · exact .inl h2
  · exact .inr ⟨g, cap, cur, rfl, hB, by rw [hb.block g (Array.getElem?_eq_some_iff.1 hg).1]; exact hg, hr⟩

theorem ownsRow_mono {B B' : Nat} {e : TypeId} {k : Nat} {v : Value} {n : Nat} {xs : List Value} {w : World} (h : w.ownsRow B e k v n xs) (hb : B' ≤ B) : w.ownsRow B' e k v n xs := by
  obtain ⟨h1, h2⟩ := h
  refine ⟨h1, ?_⟩
  rcases h2 with h2 | ⟨g, cap, cur, rfl, hB, hr⟩
  · exact .inl h2
  · exact .inr ⟨g, cap, cur, rfl, by omega, hr⟩

theorem ownsRow_shape {B : Nat} {e : TypeId} {k : Nat} {v : Value} {n : Nat} {xs : List Value} {w : World} (h : w.ownsRow B e k v n xs) : ∃ ao cap, v = .slice ao n cap := by
  obtain ⟨_, h2⟩ := h
  rcases h2 with ⟨rfl, rfl⟩ | ⟨g, cap, cur, rfl, _⟩
  · exact ⟨_, _, rfl⟩
  · exact ⟨_, _, rfl⟩

theorem OwnS.reads {B : Nat} {w : World} {v : Value} {l : List ByteArray} (h : OwnS B w v l) (hs : ∀ i (h : i < l.length), l[i].size ≤ maxLen) : ReadsS w v l := by
  have h' := h
  obtain ⟨h1, h2⟩ := h
  rcases h2 with ⟨rfl, e⟩ | ⟨g, cap, cur, rfl, hB, hg, hn, hm, _, ht⟩
  · exact ⟨none, 0, 0, 0, by rw [e], ⟨by omega, by simp [maxLen], fun k => (by omega), fun _ => rfl, fun i hi => (by omega), hs⟩⟩
  · refine ⟨some ⟨g, 0, none⟩, g, 0, cap, rfl, ⟨hn, hm, fun _ => rfl, fun k => (by cases k), fun i hi => ?_, hs⟩⟩
    have := World.ownsRow.cellAt (h' : w.ownsRow B 9 1 _ _ _) i (by omega)
    rw [Nat.zero_add, this, strs_at hi]

theorem OwnW.reads {B : Nat} {w : World} {v : Value} {l : List (Int × ByteArray)} (h : OwnW B w v l) (hs : ∀ i (h : i < l.length), l[i].2.size ≤ maxLen) : ReadsW w v l := by
  have h' := h
  obtain ⟨h1, h2⟩ := h
  rcases h2 with ⟨rfl, e⟩ | ⟨g, cap, cur, rfl, hB, hg, hn, hm, _, ht⟩
  · exact ⟨none, 0, 0, 0, by rw [e], ⟨by omega, by simp [maxLen], fun k => (by omega), fun _ => rfl, fun i hi => (by omega), hs⟩⟩
  · refine ⟨some ⟨g, 0, none⟩, g, 0, cap, rfl, ⟨hn, hm, fun _ => rfl, fun k => (by cases k), fun i hi => ?_, hs⟩⟩
    have c0 := World.ownsRow.cellAt (h' : w.ownsRow B 48 2 _ _ _) (i * 2) (by omega)
    have c1 := World.ownsRow.cellAt (h' : w.ownsRow B 48 2 _ _ _) (i * 2 + 1) (by omega)
    rw [Nat.zero_add, c0, c1]
    exact wts_at hi

theorem Try.infoS : (Try.prog.info? 9).map (fun i => (i.zero, i.size, i.bytes)) = some (some (.string ByteArray.empty), 1, 16) := by kernel_rfl
theorem Try.infoW : (Try.prog.info? 48).map (fun i => (i.zero, i.size, i.bytes)) = some (some (.agg #[.int .i64 0, .string ByteArray.empty]), 2, 24) := by kernel_rfl

/-- What a call answers that hands out texts of its own. -/
def GivesS (w : World) (l : List ByteArray) (e : Ending) (w' : World) : Prop :=
  ∃ ao cap, e = .returned (.slice ao l.length cap) ∧ OwnS w.heap.size w' (.slice ao l.length cap) l ∧ Below w.heap.size w w'
def GivesW (w : World) (l : List (Int × ByteArray)) (e : Ending) (w' : World) : Prop :=
  ∃ ao cap, e = .returned (.slice ao l.length cap) ∧ OwnW w.heap.size w' (.slice ao l.length cap) l ∧ Below w.heap.size w w'

theorem takeS_set {α : Type} {m l : List α} {k : Nat} (h : m.take k = l.take k) (hk : k < l.length) (hm : k < m.length) : (m.set k l[k]).take (k + 1) = l.take (k + 1) := by
  rw [List.take_succ_eq_append_getElem (by simpa using hm), List.take_succ_eq_append_getElem hk, List.getElem_set_self, List.take_set, List.set_eq_of_length_le (by rw [List.length_take]; omega), h]

theorem toStringS_any (w : World) (v : Value) (l : List ByteArray) (hr : ReadsS w v l) (hl : l.length ≤ 1048576) :
    Calls Try.prog 26 #[v] w (GivesS w l) := by
  obtain ⟨ao, b, off, cap, rfl, hr⟩ := hr
  obtain ⟨i0, hi, hz0, hz1, hz2⟩ := info_parts Try.infoS
  go_enter Try.func26, Try.ntmps26
  go_wp2_with (at_make; refine wpList_make_full _ rfl _ _ 22 rfl w.heap.size 9 i0 (.string ByteArray.empty) 1 Try.underlying22 hi hz0 hz1 _ _ _ _ l.length rfl rfl rfl rfl ?b2 ?b3 (Nat.le_refl _) ?_)
  case b2 => rw [hz2]; omega
  case b3 => unfold maxLen; omega
  intro w0 hown0 hgrow0
  go_wp2
  have hm0 : (madeCells #[Value.string ByteArray.empty] l.length).toList = strs (List.replicate l.length ByteArray.empty) := by rw [toList_madeCells_one, strs_empty]
  rw [hm0] at hown0
  go_loopw [4] (fun i wr => ∃ (k : Nat) (m : List ByteArray), k ≤ l.length ∧ i = .int .i64 k ∧ m.length = l.length ∧ m.take k = l.take k ∧ wr.ownsRow w.heap.size 9 1 (.slice (some ⟨w.heap.size, 0, none⟩) l.length l.length) l.length (strs m) ∧ Below w.heap.size w wr)
    (fun i _ => l.length - (intOf i).toNat)
  case atStart => exact ⟨0, _, Nat.zero_le _, rfl, by simp, by simp, hown0, (Below.refl _ _).grown hgrow0 (Nat.le_refl _) (fun k h => by cases h)⟩
  case round =>
    obtain ⟨k, m, hk, rfl, hm, ht, hown, hbel⟩ := hrel
    by_cases hlt : k < l.length
    · have hc := (hr.later hbel).cell k hlt
      have hd := hown.cellAt k (by omega)
      rw [strs_at (by omega)] at hd
      have hf := hown.frozenAt k
      obtain ⟨hst, hgr⟩ := hown.stored k (.string l[k])
      rw [strs_set] at hst
      have hat := hr.at_ (by omega)
      subst hat
      clear hown hr
      go_wp2
      go_roundw
      case rel => exact ⟨k + 1, _, by omega, by go_num, by simpa using hm, takeS_set ht hlt (by omega), hst, hbel.setCell (Nat.le_refl _) _⟩
      case measure => simp [intOf]; omega
    · go_wp2
      go_ret
      have e : m = l := by rw [List.take_of_length_le (by omega), List.take_of_length_le (by omega)] at ht; exact ht
      subst e
      exact ⟨_, _, rfl, hown, hbel⟩

theorem toWait_any (w : World) (a : Int) (t : ByteArray) :
    Calls Try.prog 39 #[.agg #[.int .i64 a, .string t]] w fun e w' => e = .returned (.agg #[.int .i64 a, .string t]) ∧ Below w.heap.size w w' := by
  go_enter Try.func39, Try.ntmps39
  go_wp2
  refine bodyPost_ret (v := .agg #[.int .i64 a, .string t]) (by simp [results, Try.results39, go_sem]) rfl ⟨rfl, ?_⟩
  exact (((Below.refl _ _).alloc (Nat.le_refl _) _).alloc (by simp) _).alloc (by simp; omega) _

theorem madeW : ∀ n : Nat, (madeCells #[Value.int .i64 0, .string ByteArray.empty] (n * 2)).toList = wts (List.replicate n (0, ByteArray.empty)) := by
  intro n
  apply List.ext_getElem?
  intro j
  by_cases hj : j < n * 2
  · have h2 : j / 2 < (List.replicate n ((0 : Int), ByteArray.empty)).length := by simp; omega
    obtain ⟨k0, k1⟩ := wts_at h2
    rcases Nat.mod_two_eq_zero_or_one j with e | e
    · rw [show j / 2 * 2 = j by omega] at k0
      rw [k0]
      simp [madeCells, hj, e]
    · rw [show j / 2 * 2 + 1 = j by omega] at k1
      rw [k1]
      simp [madeCells, hj, e]
  · rw [List.getElem?_eq_none (by simp [madeCells]; omega), List.getElem?_eq_none (by rw [wts_len]; simp; omega)]

theorem toWaitS_any (w : World) (v : Value) (l : List (Int × ByteArray)) (hr : ReadsW w v l) (hl : l.length ≤ 1048576) :
    Calls Try.prog 27 #[v] w (GivesW w l) := by
  obtain ⟨ao, b, off, cap, rfl, hr⟩ := hr
  obtain ⟨i0, hi, hz0, hz1, hz2⟩ := info_parts Try.infoW
  go_enter Try.func27, Try.ntmps27
  go_wp2_with (at_make; refine wpList_make_full _ rfl _ _ 23 rfl w.heap.size 48 i0 _ 2 Try.underlying23 hi hz0 hz1 _ _ _ _ l.length rfl rfl rfl rfl ?b2 ?b3 (Nat.le_refl _) ?_)
  case b2 => rw [hz2]; omega
  case b3 => unfold maxLen; omega
  intro w0 hown0 hgrow0
  rw [madeW] at hown0
  go_wp2
  go_loopw [4] (fun i wr => ∃ (k : Nat) (m : List (Int × ByteArray)), k ≤ l.length ∧ i = .int .i64 k ∧ m.length = l.length ∧ m.take k = l.take k ∧ wr.ownsRow w.heap.size 48 2 (.slice (some ⟨w.heap.size, 0, none⟩) l.length l.length) l.length (wts m) ∧ Below w.heap.size w wr ∧ w.heap.size < wr.heap.size)
    (fun i _ => l.length - (intOf i).toNat)
  case atStart =>
    have hb := (Below.refl w.heap.size w).grown hgrow0 (Nat.le_refl _) (fun k h => by cases h)
    exact ⟨0, _, Nat.zero_le _, rfl, by simp, by simp, hown0, hb, (hown0.lt _ rfl).2⟩
  case round =>
    obtain ⟨k, m, hk, rfl, hm, ht, hown, hbel, hsz⟩ := hrel
    by_cases hlt : k < l.length
    · obtain ⟨hc0, hc1⟩ := (hr.later hbel).cell k hlt
      have hat := hr.at_ (by omega)
      subst hat
      clear hr
      go_wp2_with fail
      refine (toWait_any _ _ _).mono ?_
      rintro e w1 ⟨rfl, b1⟩
      have hown1 := ownsRow_later hown b1
      obtain ⟨hd0, hd1⟩ := wts_at (l := m) (i := k) (by omega)
      have hk0 := hown1.cellAt (k * 2) (by omega)
      have hk1 := hown1.cellAt (k * 2 + 1) (by omega)
      rw [hd0] at hk0
      rw [hd1] at hk1
      have hf0 := hown1.frozenAt (k * 2)
      have hf1 := hown1.frozenAt (k * 2 + 1)
      obtain ⟨hst, _⟩ := hown1.stored (k * 2) (.int .i64 l[k].1)
      obtain ⟨hst, _⟩ := hst.stored (k * 2 + 1) (.string l[k].2)
      rw [wts_set m k l[k] (by omega)] at hst
      clear hown hown1 hd0 hd1 hc0 hc1
      have hz := b1.size
      go_wp2
      go_roundw
      case rel => exact ⟨k + 1, _, by omega, by go_num, by simpa using hm, takeS_set ht hlt (by omega), hst, ((hbel.trans (b1.mono hbel.size)).setCell (Nat.le_refl _) _).setCell (Nat.le_refl _) _, by simp; omega⟩
      case measure => simp [intOf]; omega
    · go_wp2
      go_ret
      have e : m = l := by rw [List.take_of_length_le (by omega), List.take_of_length_le (by omega)] at ht; exact ht
      subst e
      exact ⟨_, _, rfl, hown, hbel⟩

end Go.Proofs.Ytmbkjbjmpemgoaa
