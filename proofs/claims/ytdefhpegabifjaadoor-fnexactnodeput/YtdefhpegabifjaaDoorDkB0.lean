/- Texts that a call owns; a copy of texts. -/
import Derived.Test.YtdefhpegabifjaaDoorDkA0
import Derived.Laws.OwnMore
namespace Go.Proofs.YtdefhpegabifjaaDoor
open Go.RowKit


/-- The cells of texts, and of waits. -/
def strs (l : List ByteArray) : List Value := l.map Value.string

theorem strs_len (l : List ByteArray) : (strs l).length = l.length := by simp [strs]

theorem strs_set (l : List ByteArray) (i : Nat) (x : ByteArray) : (strs l).set i (.string x) = strs (l.set i x) := by simp [strs, List.map_set]

theorem strs_empty (n : Nat) : List.replicate n (Value.string ByteArray.empty) = strs (List.replicate n ByteArray.empty) := by simp [strs]

theorem strs_at {l : List ByteArray} {i : Nat} (h : i < l.length) : (strs l)[i]? = some (.string l[i]) := by simp [strs, h]

def OwnS (B : Nat) (w : World) (v : Value) (l : List ByteArray) : Prop := w.ownsRow B 9 1 v l.length (strs l)

theorem ownsRow_later {B : Nat} {e : TypeId} {k : Nat} {v : Value} {n : Nat} {xs : List Value} {w w' : World} (h : w.ownsRow B e k v n xs) (hb : Below w.heap.size w w') : w'.ownsRow B e k v n xs := by
  obtain ⟨h1, h2⟩ := h
  refine ⟨h1, ?_⟩
  rcases h2 with h2 | ⟨g, cap, cur, rfl, hB, hg, hr⟩
  · exact .inl h2
  · exact .inr ⟨g, cap, cur, rfl, hB, by rw [hb.block g (Array.getElem?_eq_some_iff.1 hg).1]; exact hg, hr⟩

theorem ownsRow_mono {B B' : Nat} {e : TypeId} {k : Nat} {v : Value} {n : Nat} {xs : List Value} {w : World} (h : w.ownsRow B e k v n xs) (hb : B' ≤ B) : w.ownsRow B' e k v n xs := by
  obtain ⟨h1, h2⟩ := h
  refine ⟨h1, ?_⟩
  rcases h2 with h2 | ⟨g, cap, cur, rfl, hB, hr⟩
  · exact .inl h2
  · exact .inr ⟨g, cap, cur, rfl, by omega, hr⟩

theorem ownsRow_shape {B : Nat} {e : TypeId} {k : Nat} {v : Value} {n : Nat} {xs : List Value} {w : World} (h : w.ownsRow B e k v n xs) : ∃ ao cap, v = .slice ao n cap := by
  obtain ⟨_, h2⟩ := h
  rcases h2 with ⟨rfl, rfl⟩ | ⟨g, cap, cur, rfl, _⟩
  · exact ⟨_, _, rfl⟩
  · exact ⟨_, _, rfl⟩

theorem OwnS.reads {B : Nat} {w : World} {v : Value} {l : List ByteArray} (h : OwnS B w v l) (hs : ∀ i (h : i < l.length), l[i].size ≤ maxLen) : ReadsS w v l := by
  have h' := h
  obtain ⟨h1, h2⟩ := h
  rcases h2 with ⟨rfl, e⟩ | ⟨g, cap, cur, rfl, hB, hg, hn, hm, _, ht⟩
  · exact ⟨none, 0, 0, 0, by rw [e], ⟨by omega, by simp [maxLen], fun k => (by omega), fun _ => rfl, fun i hi => (by omega), hs⟩⟩
  · refine ⟨some ⟨g, 0, none⟩, g, 0, cap, rfl, ⟨hn, hm, fun _ => rfl, fun k => (by cases k), fun i hi => ?_, hs⟩⟩
    have := World.ownsRow.cellAt (h' : w.ownsRow B 9 1 _ _ _) i (by omega)
    rw [Nat.zero_add, this, strs_at hi]

theorem Tryd.infoS : (Tryd.prog.info? 9).map (fun i => (i.zero, i.size, i.bytes)) = some (some (.string ByteArray.empty), 1, 16) := by kernel_rfl

/-- What a call answers that hands out texts of its own. -/
def GivesS (w : World) (l : List ByteArray) (e : Ending) (w' : World) : Prop :=
  ∃ ao cap, e = .returned (.slice ao l.length cap) ∧ OwnS w.heap.size w' (.slice ao l.length cap) l ∧ Below w.heap.size w w'

theorem takeS_set {α : Type} {m l : List α} {k : Nat} (h : m.take k = l.take k) (hk : k < l.length) (hm : k < m.length) : (m.set k l[k]).take (k + 1) = l.take (k + 1) := by
  rw [List.take_succ_eq_append_getElem (by simpa using hm), List.take_succ_eq_append_getElem hk, List.getElem_set_self, List.take_set, List.set_eq_of_length_le (by rw [List.length_take]; omega), h]

theorem toStringS_any (w : World) (v : Value) (l : List ByteArray) (hr : ReadsS w v l) (hl : l.length ≤ 1048576) :
    Calls Tryd.prog 19 #[v] w (GivesS w l) := by
  obtain ⟨ao, b, off, cap, rfl, hr⟩ := hr
  obtain ⟨i0, hi, hz0, hz1, hz2⟩ := info_parts Tryd.infoS
  go_enter Tryd.func19, Tryd.ntmps19
  go_wp2_with (at_make; refine wpList_make_full _ rfl _ _ 22 rfl w.heap.size 9 i0 (.string ByteArray.empty) 1 Tryd.underlying22 hi hz0 hz1 _ _ _ _ l.length rfl rfl rfl rfl ?b2 ?b3 (Nat.le_refl _) ?_)
  case b2 => rw [hz2]; omega
  case b3 => unfold maxLen; omega
  intro w0 hown0 hgrow0
  go_wp2
  have hm0 : (madeCells #[Value.string ByteArray.empty] l.length).toList = strs (List.replicate l.length ByteArray.empty) := by rw [toList_madeCells_one, strs_empty]
  rw [hm0] at hown0
  go_loopw [4] (fun i wr => ∃ (k : Nat) (m : List ByteArray), k ≤ l.length ∧ i = .int .i64 k ∧ m.length = l.length ∧ m.take k = l.take k ∧ wr.ownsRow w.heap.size 9 1 (.slice (some ⟨w.heap.size, 0, none⟩) l.length l.length) l.length (strs m) ∧ Below w.heap.size w wr)
    (fun i _ => l.length - (intOf i).toNat)
  case atStart => exact ⟨0, _, Nat.zero_le _, rfl, by simp, by simp, hown0, (Below.refl _ _).grown hgrow0 (Nat.le_refl _) (fun k h => by cases h)⟩
  case round =>
    obtain ⟨k, m, hk, rfl, hm, ht, hown, hbel⟩ := hrel
    by_cases hlt : k < l.length
    · have hc := (hr.later hbel).cell k hlt
      have hd := hown.cellAt k (by omega)
      rw [strs_at (by omega)] at hd
      have hf := hown.frozenAt k
      obtain ⟨hst, hgr⟩ := hown.stored k (.string l[k])
      rw [strs_set] at hst
      have hat := hr.at_ (by omega)
      subst hat
      clear hown hr
      go_wp2
      go_roundw
      case rel => exact ⟨k + 1, _, by omega, by go_num, by simpa using hm, takeS_set ht hlt (by omega), hst, hbel.setCell (Nat.le_refl _) _⟩
      case measure => simp [intOf]; omega
    · go_wp2
      go_ret
      have e : m = l := by rw [List.take_of_length_le (by omega), List.take_of_length_le (by omega)] at ht; exact ht
      subst e
      exact ⟨_, _, rfl, hown, hbel⟩

end Go.Proofs.YtdefhpegabifjaaDoor
