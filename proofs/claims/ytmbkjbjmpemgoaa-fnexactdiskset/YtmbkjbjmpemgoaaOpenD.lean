/- A disk that comes in, opened: its texts and its waits as they read. -/
import Derived.Test.YtmbkjbjmpemgoaaOpenI
import Derived.Test.YtmbkjbjmpemgoaaDkA
import Derived.SliceStrings
namespace Go.Proofs.Ytmbkjbjmpemgoaa
open Go.ChangeShapes Go.WideShapes Go.ChangeAt Go.RowKit Go.Joins

theorem Try.cellsDisk : Try.prog.cellsOf 32 = 4 := by kernel_rfl
theorem Try.cellsWait : Try.prog.cellsOf 56 = 2 := by kernel_rfl
theorem Try.cellsStr : Try.prog.cellsOf 9 = 1 := by kernel_rfl
theorem Try.cellsNum : Try.prog.cellsOf 3 = 1 := by kernel_rfl

theorem open_texts {H : Type} {enc : TypeId × Value → H} {W : World} {n : Nat} {v : Value} {x : DataW H × List MemPlace}
    (h : DataW.trod enc Try.prog W 0 (fun _ => true) true n 22 [v] = some x) : ∃ l : List ByteArray, ReadsS W v l := by
  rcases open_strings Try.underlying22 Try.underlying9 Try.cellsStr h with ⟨hcs, _⟩ | ⟨a, len, cap, ss, hcs, _, hl, hm, hz, _, hcell, hsz⟩
  · simp at hcs
    subst hcs
    exact ⟨[], none, 0, 0, 0, rfl, ⟨by simp, by simp [maxLen], fun k => by simp at k, fun _ => rfl, fun i hi => by simp at hi, fun i hi => by simp at hi⟩⟩
  · simp at hcs
    subst hcs
    simp at hz
    have e : (ss.take len).length = len := by rw [List.length_take]; omega
    have hs : ∀ i (h : i < (ss.take len).length), (ss.take len)[i].size ≤ maxLen := fun i hi => hsz _ (List.mem_of_mem_take (List.getElem_mem hi))
    refine ⟨ss.take len, ?_⟩
    by_cases h0 : len = 0
    · subst h0
      exact ⟨some a, 0, 0, cap, by simp, ⟨by simp, hm, fun k => by simp at k, fun k => by simp at k, fun i hi => by simp at hi, hs⟩⟩
    · obtain ⟨b, off, spot⟩ := a
      have hspot : spot = none := by
        have := World.cell?_spot (hcell 0 (by omega))
        simpa [Addr.add] using this
      subst hspot
      refine ⟨some ⟨b, off, none⟩, b, off, cap, by rw [e], ⟨by omega, hm, fun _ => rfl, fun k => by simp at k, fun i hi => ?_, hs⟩⟩
      have hc := hcell i (by omega)
      rw [Addr.add_lit] at hc
      rw [hc]
      simp [List.getElem_take, List.getD_eq_getElem?_getD, List.getElem?_eq_getElem (show i < ss.length by omega)]

theorem open_waits {H : Type} {enc : TypeId × Value → H} {W : World} {n : Nat} {v : Value} {x : DataW H × List MemPlace}
    (h : DataW.trod enc Try.prog W 0 (fun _ => true) true n 30 [v] = some x) : ∃ l : List (Int × ByteArray), ReadsW W v l := by
  rcases DataW.trod_slice Try.underlying30 h with ⟨hcs, _⟩ | ⟨a, len, cap, elems, rest, m, _, hcs, _, _, hl, hm, hlen, hel, _⟩
  · simp at hcs
    subst hcs
    exact ⟨[], none, 0, 0, 0, rfl, ⟨by simp, by simp [maxLen], fun k => by simp at k, fun _ => rfl, fun i hi => by simp at hi, fun i hi => by simp at hi⟩⟩
  · simp at hcs
    subst hcs
    obtain ⟨b, off, spot⟩ := a
    have cell : ∀ i, i < len → ∃ p : Int × ByteArray, W.cell? (((⟨b, off, spot⟩ : Addr).add (i * 2)).add 0) = some (.int .i64 p.1) ∧ W.cell? (((⟨b, off, spot⟩ : Addr).add (i * 2)).add 1) = some (.string p.2) ∧ p.2.size ≤ maxLen := by
      intro i hi
      have hE := hel i hi
      rw [Try.cellsWait, List.getElem?_eq_getElem (by omega), Option.bind_eq_some_iff] at hE
      obtain ⟨cs', hcs, hy⟩ := hE
      obtain ⟨-, hcl, hce⟩ := World.cells?_some hcs
      obtain ⟨y0, y1, m', -, -, h0, h1⟩ := trod_struct2 Try.underlying56 hy
      match cs', hcl with
      | [c0, c1], _ =>
        simp only [List.drop_zero, List.drop_succ_cons, Try.cellsNum, Try.cellsStr, List.take_succ_cons, List.take_zero] at h0 h1
        obtain ⟨z, e0, -, -⟩ := DataW.trod_int Try.underlying3 h0
        obtain ⟨s, e1, -, hs⟩ := DataW.trod_string Try.underlying9 h1
        simp at e0 e1
        subst e0 e1
        exact ⟨(z, s), hce 0 (by omega), hce 1 (by omega), hs⟩
    have hspot : 0 < len → spot = none := by
      intro h0
      obtain ⟨p, c0, -, -⟩ := cell 0 h0
      have := World.cell?_spot c0
      simpa [Addr.add] using this
    have each : ∀ i, i < len → ∃ p : Int × ByteArray, W.cell? ⟨b, off + i * 2, none⟩ = some (.int .i64 p.1) ∧ W.cell? ⟨b, off + i * 2 + 1, none⟩ = some (.string p.2) ∧ p.2.size ≤ maxLen := by
      intro i hi
      obtain ⟨p, c0, c1, hs⟩ := cell i hi
      obtain rfl := hspot (by omega)
      rw [Addr.add_lit, Addr.add_lit] at c0 c1
      exact ⟨p, c0, c1, hs⟩
    have pick : ∀ k, k ≤ len → ∃ l : List (Int × ByteArray), l.length = k ∧ ∀ i (h : i < l.length), W.cell? ⟨b, off + i * 2, none⟩ = some (.int .i64 l[i].1) ∧ W.cell? ⟨b, off + i * 2 + 1, none⟩ = some (.string l[i].2) ∧ l[i].2.size ≤ maxLen := by
      intro k
      induction k with
      | zero => exact fun _ => ⟨[], rfl, fun i hi => by simp at hi⟩
      | succ k ih =>
        intro hk
        obtain ⟨l, hll, hlc⟩ := ih (by omega)
        obtain ⟨p, c0, c1, cz⟩ := each k (by omega)
        refine ⟨l ++ [p], by simp [hll], fun i hi => ?_⟩
        simp at hi
        by_cases hik : i < l.length
        · rw [List.getElem_append_left hik]
          exact hlc i hik
        · have e : i = k := by omega
          subst e
          rw [List.getElem_append_right (by omega)]
          simp only [hll, Nat.sub_self, List.getElem_singleton]
          exact ⟨c0, c1, cz⟩
    obtain ⟨l, hll, hlc⟩ := pick len (Nat.le_refl _)
    refine ⟨l, some ⟨b, off, spot⟩, b, off, cap, by rw [hll], ⟨by omega, hm, fun h0 => ?_, fun k => by simp at k, fun i hi => ⟨(hlc i hi).1, (hlc i hi).2.1⟩, fun i hi => (hlc i hi).2.2⟩⟩
    rw [hspot (by omega)]

theorem open_disks {H : Type} {enc : TypeId × Value → H} {W : World} {base : Nat} {v : Value} {d : DataW H} {p : List MemPlace}
    (hv : Value.okWide Try.prog W .any base 32 v) (h : DataW.Trod enc Try.prog W 0 (fun _ => true) true 32 v d p) :
    ∃ (vc vw : Value) (cs : List ByteArray) (ws : List (Int × ByteArray)) (room left : Int), v = .agg #[vc, vw, .int .i64 room, .int .i64 left] ∧ ReadsS W vc cs ∧ ReadsW W vw ws := by
  obtain ⟨c0, c1, c2, c3, y0, y1, y2, y3, n, rfl, rfl, rfl, hy0, hy1, hy2, hy3⟩ := open_agg4 Try.underlying32 (by kernel_rfl) Try.cellsDisk hv h
  obtain ⟨cs, hc⟩ := open_texts hy0
  obtain ⟨ws, hw⟩ := open_waits hy1
  obtain ⟨a, e2, _, _⟩ := DataW.trod_int Try.underlying3 hy2
  obtain ⟨b, e3, _, _⟩ := DataW.trod_int Try.underlying3 hy3
  simp at e2 e3
  subst e2 e3
  exact ⟨c0, c1, cs, ws, a, b, rfl, hc, hw⟩

end Go.Proofs.Ytmbkjbjmpemgoaa
