/- Texts of spans, taken apart. Plain mathematics. -/
import Derived.Test.YtnfalniijmccjaaDoorSgA
import Derived.Test.YtnfalniijmccjaaDoorTxS0
namespace Go.Proofs.YtnfalniijmccjaaDoor
open Go.RowKit

theorem ext_list (s : ByteArray) (i j : Nat) : (s.extract i j).data.toList = (s.data.toList.take j).drop i := by
  rw [ByteArray.data_extract, Array.toList_extract, List.extract_eq_take_drop, List.drop_take]

theorem cat_list {c : UInt8} {s : ByteArray} {A R : List UInt8} (h : s.data.toList = A ++ c :: R) (hA : ∀ x ∈ A, x ≠ c) : CAt c s A.length ∧ A.length < s.size := by
  have hs := list_size s
  rw [h, List.length_append, List.length_cons] at hs
  have at_ : ∀ i (hi : i < s.size), s[i] = s.data.toList[i]'(by rw [list_size]; exact hi) := fun i hi => by simp [ByteArray.getElem_eq_getElem_data]
  refine ⟨⟨by omega, fun j hj hjA e => ?_, fun hj => ?_⟩, by omega⟩
  · rw [at_ j hj] at e
    have : s.data.toList[j]'(by rw [list_size]; exact hj) = A[j] := by simp [h, List.getElem_append_left hjA]
    rw [this] at e
    exact hA _ (List.getElem_mem hjA) (UInt8.toNat_inj.1 e)
  · rw [at_ _ hj]
    congr 1
    simp [h]

theorem cat_parts {c : UInt8} {s : ByteArray} {k : Nat} (h : CAt c s k) (hk : k < s.size) : s.data.toList = (s.extract 0 k).data.toList ++ c :: (s.extract (k + 1) s.size).data.toList := by
  have hl := list_size s
  rw [ext_list, ext_list, List.drop_zero, List.take_of_length_le (show s.data.toList.length ≤ s.size by omega)]
  have e : s.data.toList[k]'(by omega) = c := by
    have := h.2.2 hk
    have e2 : s[k] = s.data.toList[k]'(by omega) := by simp [ByteArray.getElem_eq_getElem_data]
    rw [e2] at this
    exact UInt8.toNat_inj.1 this
  conv => lhs; rw [← List.take_append_drop k s.data.toList, List.drop_eq_getElem_cons (show k < s.data.toList.length by omega), e]

theorem cat_same {c : UInt8} {s : ByteArray} {A R : List UInt8} {k : Nat} (h : s.data.toList = A ++ c :: R) (hA : ∀ x ∈ A, x ≠ c) (hk : CAt c s k) :
    k < s.size ∧ (s.extract 0 k).data.toList = A ∧ (s.extract (k + 1) s.size).data.toList = R := by
  obtain ⟨h1, h2⟩ := cat_list h hA
  have e : k = A.length := hk.same h1
  have hks : k < s.size := by omega
  have p := cat_parts hk hks
  rw [h] at p
  have hlen : A.length = ((s.extract 0 k).data.toList).length := by
    rw [ext_list, List.drop_zero, List.length_take, list_size]
    omega
  obtain ⟨q1, q2⟩ := List.append_inj p hlen
  exact ⟨hks, q1.symm, (List.cons.inj q2).2.symm⟩

theorem itoa_bytes (v : Int) : ∀ c ∈ Lib.itoa v, IsD c ∨ c = 45 := by
  rcases itoa_cases v with ⟨n, -, e⟩ | ⟨n, -, -, e⟩
  · rw [e]
    intro c hc
    exact .inl ((dd_all n).1 c hc)
  · rw [e]
    intro c hc
    rcases List.mem_cons.1 hc with rfl | hc
    · exact .inr rfl
    · exact .inl ((dd_all n).1 c hc)

theorem itoa_no {v : Int} {b : UInt8} (h0 : 57 < b.toNat) : ∀ c ∈ Lib.itoa v, c ≠ b := by
  intro c hc e
  subst e
  rcases itoa_bytes v c hc with h | h
  · unfold IsD at h
    omega
  · rw [h] at h0
    exact absurd h0 (by decide)

theorem itoa_inj {a b : Int} (ha : a.natAbs < 10 ^ 17) (h : Lib.itoa a = Lib.itoa b) : a = b := by
  have e1 := numB_itoa ha
  rcases itoa_cases a with ⟨n, rfl, e⟩ | ⟨n, rfl, h1, e⟩
  · rcases itoa_cases b with ⟨k, rfl, f⟩ | ⟨k, rfl, h2, f⟩
    · rw [e, f] at h
      have a := (dd_all n).2.1
      have b := (dd_all k).2.1
      rw [h] at a
      omega
    · rw [e, f] at h
      exact absurd h (dd_head45 n _)
  · rcases itoa_cases b with ⟨k, rfl, f⟩ | ⟨k, rfl, h2, f⟩
    · rw [e, f] at h
      exact absurd h.symm (dd_head45 k _)
    · rw [e, f] at h
      have h' := (List.cons.inj h).2
      have a := (dd_all n).2.1
      have b := (dd_all k).2.1
      rw [h'] at a
      omega

/-- A text is a span's. -/
def SpT (s : ByteArray) (m d : Int) : Prop := SpanIs m d ∧ spanT m d = s

theorem spanT_list (m d : Int) : (spanT m d).data.toList = Lib.itoa m ++ 109 :: (Lib.itoa d ++ [100]) := by
  unfold spanT itxt
  rw [show (⟨#[109]⟩ : ByteArray) = ⟨([109] : List UInt8).toArray⟩ from rfl, show (⟨#[100]⟩ : ByteArray) = ⟨([100] : List UInt8).toArray⟩ from rfl, bytes_cat, bytes_cat, bytes_cat]
  simp

theorem of_list {s t : ByteArray} (h : s.data.toList = t.data.toList) : s = t := ByteArray.ext (Array.toList_inj.1 h)

/-- What is cut off at the end. -/
theorem snoc_ext {s : ByteArray} {A : List UInt8} {c : UInt8} (h : s.data.toList = A ++ [c]) {n : Nat} (hn : s.size = n + 1) : (s.extract 0 n).data.toList = A ∧ ∀ hn' : n < s.size, s[n].toNat = c.toNat := by
  have hs := list_size s
  rw [h, List.length_append, List.length_singleton] at hs
  have e : n = A.length := by omega
  constructor
  · rw [ext_list, List.drop_zero, h, e, List.take_left']
    rfl
  · intro hn'
    have : s[n] = s.data.toList[n]'(by rw [list_size]; exact hn') := by simp [ByteArray.getElem_eq_getElem_data]
    rw [this]
    congr 1
    simp [h, e]

theorem ext_snoc {s : ByteArray} {n : Nat} (hn : s.size = n + 1) (hn' : n < s.size) {c : UInt8} (hc : s[n].toNat = c.toNat) : s.data.toList = (s.extract 0 n).data.toList ++ [c] := by
  have hl := list_size s
  rw [ext_list, List.drop_zero]
  have e : s.data.toList[n]'(by omega) = c := by
    have e2 : s[n] = s.data.toList[n]'(by omega) := by simp [ByteArray.getElem_eq_getElem_data]
    rw [e2] at hc
    exact UInt8.toNat_inj.1 hc
  conv => lhs; rw [← List.take_append_drop n s.data.toList, List.drop_eq_getElem_cons (show n < s.data.toList.length by omega), e, List.drop_of_length_le (show s.data.toList.length ≤ n + 1 by omega)]

/-- The specification's way: what stands ahead of the last byte, cut at the first m. -/
theorem spec_span {s : ByteArray} {n k : Nat} (hn : s.size = n + 1) (hk : CAt 109 (s.extract 0 n) k) {m d : Int} (h : SpT s m d) :
    (∀ hn' : n < s.size, s[n].toNat = 100) ∧ k < (s.extract 0 n).size ∧ IntT ((s.extract 0 n).extract 0 k) m ∧ IntT ((s.extract 0 n).extract (k + 1) (s.extract 0 n).size) d := by
  obtain ⟨⟨⟨h1, h2⟩, h3, h4⟩, rfl⟩ := h
  have hl := spanT_list m d
  obtain ⟨e1, e2⟩ := snoc_ext (A := Lib.itoa m ++ 109 :: Lib.itoa d) (c := 100) (by rw [hl]; simp) hn
  obtain ⟨q1, q2, q3⟩ := cat_same (A := Lib.itoa m) (R := Lib.itoa d) e1 (itoa_no (by decide)) hk
  exact ⟨e2, q1, ⟨q2, by omega⟩, ⟨q3, by omega⟩⟩

theorem spec_span_back {s : ByteArray} {n k : Nat} (hn : s.size = n + 1) (hn' : n < s.size) (hd : s[n].toNat = 100) (hk : CAt 109 (s.extract 0 n) k) (hks : k < (s.extract 0 n).size) {m d : Int}
    (hm : IntT ((s.extract 0 n).extract 0 k) m) (hdd : IntT ((s.extract 0 n).extract (k + 1) (s.extract 0 n).size) d) (h : SpanIs m d) : SpT s m d := by
  refine ⟨h, of_list ?_⟩
  rw [spanT_list, ext_snoc hn hn' (c := 100) hd, cat_parts hk hks, hm.1, hdd.1]
  simp

theorem span_same {s : ByteArray} {m d m' d' : Int} (h : SpT s m d) (k : SpT s m' d') : m = m' ∧ d = d' := by
  have h1 := spanT_list m d
  have k1 := spanT_list m' d'
  rw [h.2] at h1
  rw [k.2] at k1
  obtain ⟨c, hc⟩ := cat_is 109 s
  obtain ⟨-, a1, a2⟩ := cat_same h1 (itoa_no (by decide)) hc
  obtain ⟨-, b1, b2⟩ := cat_same k1 (itoa_no (by decide)) hc
  rw [a1] at b1
  rw [a2] at b2
  obtain ⟨⟨⟨_, _⟩, _, _⟩, -⟩ := h
  exact ⟨itoa_inj (by omega) b1, itoa_inj (by omega) (List.append_cancel_right b2)⟩

end Go.Proofs.YtnfalniijmccjaaDoor
