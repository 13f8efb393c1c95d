/- Numbers below 0 too: the specification's l1Int by a contract; texts of spans. Texts of spans, taken apart. Plain mathematics. One text more at the end of a list of texts that the call owns. -/
import Derived.Test.YtdklikicngmkbaaGreatDoorG16
import Derived.Test.YtdklikicngmkbaaGreatDoorG04
import Derived.Test.YtdklikicngmkbaaGreatDoorG13
import Derived.Test.YtdklikicngmkbaaGreatDoorG07
import Derived.Test.YtdklikicngmkbaaGreatDoorG01
namespace Go.Proofs.YtdklikicngmkbaaGreatDoor
open Go.RowKit
set_option maxRecDepth 100000

/-- A text is a number between -10^9 and 10^9. -/
def IntT (s : ByteArray) (v : Int) : Prop := s.data.toList = Lib.itoa v ∧ v.natAbs < 10 ^ 9

theorem numT_same {s : ByteArray} {n k : Nat} (h : s.data.toList = Lib.decDigits n) (g : s.data.toList = Lib.decDigits k) : n = k := by
  have a := (dd_all n).2.1
  have b := (dd_all k).2.1
  rw [← h] at a
  rw [← g] at b
  omega

theorem itoa_cases (v : Int) : (∃ n : Nat, v = n ∧ Lib.itoa v = Lib.decDigits n) ∨ (∃ n : Nat, v = -(n : Int) ∧ 1 ≤ n ∧ Lib.itoa v = 45 :: Lib.decDigits n) := by
  by_cases h : 0 ≤ v
  · obtain ⟨n, rfl⟩ := Int.eq_ofNat_of_zero_le h
    exact .inl ⟨n, rfl, Lib.itoa_nonneg n⟩
  · obtain ⟨n, hn⟩ := Int.eq_ofNat_of_zero_le (show 0 ≤ -v by omega)
    obtain rfl : v = -(n : Int) := by omega
    exact .inr ⟨n, rfl, by omega, Lib.itoa_neg n (by omega)⟩

theorem dd_head45 (n : Nat) : ∀ r, Lib.decDigits n ≠ 45 :: r := by
  intro r e
  have := (dd_all n).1 45 (by rw [e]; simp)
  unfold IsD at this
  have e : (45 : UInt8).toNat = 45 := rfl
  omega

theorem tail_list (s : ByteArray) : (s.extract 1 s.size).data.toList = s.data.toList.tail := by
  rw [ByteArray.data_extract, Array.toList_extract, List.extract_eq_take_drop]
  have : s.data.toList.length = s.size := by simp
  rw [List.take_of_length_le (by simp), List.drop_one]

theorem list_size (s : ByteArray) : s.data.toList.length = s.size := by simp

/-- With a minus ahead. -/
theorem intT_minus {s : ByteArray} (h0 : 1 < s.size) (h45 : bt s 0 = 45) : (∀ n : Nat, NumT (s.extract 1 s.size) n → 0 < n → IntT s (-(n : Int))) ∧ (∀ v, IntT s v → ∃ n : Nat, NumT (s.extract 1 s.size) n ∧ 0 < n) := by
  have hs := list_size s
  obtain ⟨c, r, hl⟩ : ∃ c r, s.data.toList = c :: r := by
    cases hl : s.data.toList with
    | nil => rw [hl] at hs; simp at hs; omega
    | cons c r => exact ⟨c, r, rfl⟩
  have hc : c = 45 := by
    have : bt s 0 = c.toNat := by
      rw [bt_at (by omega)]
      have e : s.data.toList[0]'(by omega) = s[0] := by simp [ByteArray.getElem_eq_getElem_data]
      rw [← e]
      simp [hl]
    apply UInt8.toNat_inj.1
    rw [← this, h45]
    rfl
  subst hc
  have ht := tail_list s
  rw [hl, List.tail_cons] at ht
  constructor
  · rintro n ⟨e, hn⟩ hp
    refine ⟨?_, by simpa using hn⟩
    rw [hl, Lib.itoa_neg n (by omega), ← e, ht]
  · rintro v ⟨e, hv⟩
    rcases itoa_cases v with ⟨n, rfl, e2⟩ | ⟨n, rfl, h1, e2⟩
    · rw [e2, hl] at e
      exact absurd e.symm (dd_head45 n _)
    · rw [e2, hl] at e
      refine ⟨n, ⟨?_, by simpa using hv⟩, by omega⟩
      rw [ht]
      exact (List.cons.inj e).2

/-- Without one. -/
theorem intT_plain {s : ByteArray} (h : ¬ (1 < s.size ∧ bt s 0 = 45)) : (∀ n : Nat, NumT s n → IntT s n) ∧ (∀ v, IntT s v → ∃ n : Nat, NumT s n) := by
  constructor
  · rintro n ⟨e, hn⟩
    exact ⟨by rw [e, Lib.itoa_nonneg], by simpa using hn⟩
  · rintro v ⟨e, hv⟩
    rcases itoa_cases v with ⟨n, rfl, e2⟩ | ⟨n, rfl, h1, e2⟩
    · exact ⟨n, by rw [e, e2], by simpa using hv⟩
    · exfalso
      apply h
      rw [e2] at e
      have hs := list_size s
      have hp := dec_pos n
      rw [e, List.length_cons] at hs
      refine ⟨by omega, ?_⟩
      rw [bt_at (by omega)]
      have e3 : s.data.toList[0]'(by rw [list_size]; omega) = s[0] := by simp [ByteArray.getElem_eq_getElem_data]
      rw [← e3]
      simp [e]

/-- What l1Int answers. -/
def GivesInt (w : World) (s : ByteArray) (e : Ending) (w' : World) : Prop := ∃ (x : Int) (ok : Bool), e = .returned (.tuple #[.int .i64 x, .bool ok]) ∧ w' = w ∧ (ok = true → IntT s x) ∧ (ok = false → ∀ v, ¬ IntT s v)

set_option maxHeartbeats 1000000 in
theorem l1Int_any (w : World) (s : ByteArray) (hs : s.size ≤ maxLen) : Calls Tryz.prog 132 #[.string s] w (GivesInt w s) := by
  have hs' := hs
  unfold maxLen at hs'
  have hx : (s.extract 1 s.size).size ≤ maxLen := by rw [ByteArray.size_extract]; unfold maxLen; omega
  by_cases hm : 1 < s.size ∧ bt s 0 = 45
  · obtain ⟨h1, h45⟩ := hm
    have I := intT_minus h1 h45
    have hp0 : 0 < s.size := by omega
    rw [bt_at hp0] at h45
    have k1 : decide ((1 : Int) < (s.size : Int)) = true := by simp; omega
    have k2 : ((s[0].toNat : Int) == 45) = true := by rw [h45]; rfl
    have k3 : (1 : Int) ≤ (s.size : Int) := by omega
    clear h45
    by_cases hN : ∃ n, NumT (s.extract 1 s.size) n
    · obtain ⟨n, hn⟩ := hN
      have C := hide (l1Num_yes w _ n hn)
      have hlt := hn.2
      have w1 : IntKind.i64.wrap (-(n : Int)) = -(n : Int) := by rw [IntKind.wrap_i64]; omega
      have HI := hide (show (decide (0 < n) = true → IntT s (-(n : Int))) ∧ (decide (0 < n) = false → ∀ v, ¬ IntT s v) from by
        constructor
        · intro h
          exact I.1 n hn (by simpa using h)
        · intro h v hv
          obtain ⟨k, hk, hk0⟩ := I.2 v hv
          have := numT_same hn.1 hk.1
          simp at h
          omega)
      clear I hn hlt
      go_enter Tryz.func132, Tryz.ntmps132
      go_wp2_with fail
      refine (unhide C).mono ?_
      rintro e w1 ⟨rfl, rfl⟩
      go_wp2
      go_ret2
      exact ⟨_, _, rfl, rfl, (unhide HI).1, (unhide HI).2⟩
    · have C := hide (l1Num_no w _ hx (fun n hn => hN ⟨n, hn⟩))
      have HI := hide (show ∀ v, ¬ IntT s v from fun v hv => by obtain ⟨k, hk, -⟩ := I.2 v hv; exact hN ⟨k, hk⟩)
      clear I hN
      go_enter Tryz.func132, Tryz.ntmps132
      go_wp2_with fail
      refine (unhide C).mono ?_
      rintro e w1 ⟨rfl, rfl⟩
      go_wp2
      go_ret2
      exact ⟨_, _, rfl, rfl, (fun h => by cases h), fun _ => unhide HI⟩
  · have I := intT_plain hm
    by_cases hN : ∃ n, NumT s n
    · obtain ⟨n, hn⟩ := hN
      have C := hide (l1Num_yes w _ n hn)
      have HI := hide (I.1 n hn)
      have k0 : decide ((n : Int) < 0) = false := decide_eq_false (by omega)
      clear I hn
      by_cases h1 : 1 < s.size
      · have hp0 : 0 < s.size := by omega
        have k1 : decide ((1 : Int) < (s.size : Int)) = true := by simp; omega
        have k2 : ((s[0].toNat : Int) == 45) = false := by
          rw [beq_eq_false_iff_ne]
          intro e
          exact hm ⟨h1, by rw [bt_at hp0]; omega⟩
        clear hm
        go_enter Tryz.func132, Tryz.ntmps132
        go_wp2_with fail
        refine (unhide C).mono ?_
        rintro e w1 ⟨rfl, rfl⟩
        go_wp2
        go_ret2
        exact ⟨_, _, rfl, rfl, fun _ => unhide HI, (fun h => by cases h)⟩
      · have k1 : decide ((1 : Int) < (s.size : Int)) = false := by simp; omega
        clear hm
        go_enter Tryz.func132, Tryz.ntmps132
        go_wp2_with fail
        refine (unhide C).mono ?_
        rintro e w1 ⟨rfl, rfl⟩
        go_wp2
        go_ret2
        exact ⟨_, _, rfl, rfl, fun _ => unhide HI, (fun h => by cases h)⟩
    · have C := hide (l1Num_no w _ hs (fun n hn => hN ⟨n, hn⟩))
      have HI := hide (show ∀ v, ¬ IntT s v from fun v hv => hN (I.2 v hv))
      clear I hN
      by_cases h1 : 1 < s.size
      · have hp0 : 0 < s.size := by omega
        have k1 : decide ((1 : Int) < (s.size : Int)) = true := by simp; omega
        have k2 : ((s[0].toNat : Int) == 45) = false := by
          rw [beq_eq_false_iff_ne]
          intro e
          exact hm ⟨h1, by rw [bt_at hp0]; omega⟩
        clear hm
        go_enter Tryz.func132, Tryz.ntmps132
        go_wp2_with fail
        refine (unhide C).mono ?_
        rintro e w1 ⟨rfl, rfl⟩
        go_wp2
        go_ret2
        exact ⟨_, _, rfl, rfl, (fun h => by cases h), fun _ => unhide HI⟩
      · have k1 : decide ((1 : Int) < (s.size : Int)) = false := by simp; omega
        clear hm
        go_enter Tryz.func132, Tryz.ntmps132
        go_wp2_with fail
        refine (unhide C).mono ?_
        rintro e w1 ⟨rfl, rfl⟩
        go_wp2
        go_ret2
        exact ⟨_, _, rfl, rfl, (fun h => by cases h), fun _ => unhide HI⟩

end Go.Proofs.YtdklikicngmkbaaGreatDoor

namespace Go.Proofs.YtdklikicngmkbaaGreatDoor
open Go.RowKit

theorem ext_list (s : ByteArray) (i j : Nat) : (s.extract i j).data.toList = (s.data.toList.take j).drop i := by
  rw [ByteArray.data_extract, Array.toList_extract, List.extract_eq_take_drop, List.drop_take]

theorem cat_list {c : UInt8} {s : ByteArray} {A R : List UInt8} (h : s.data.toList = A ++ c :: R) (hA : ∀ x ∈ A, x ≠ c) : CAt c s A.length ∧ A.length < s.size := by
  have hs := list_size s
  rw [h, List.length_append, List.length_cons] at hs
  have at_ : ∀ i (hi : i < s.size), s[i] = s.data.toList[i]'(by rw [list_size]; exact hi) := fun i hi => by simp [ByteArray.getElem_eq_getElem_data]
  refine ⟨⟨by omega, fun j hj hjA e => ?_, fun hj => ?_⟩, by omega⟩
  · rw [at_ j hj] at e
    have : s.data.toList[j]'(by rw [list_size]; exact hj) = A[j] := by simp [h, List.getElem_append_left hjA]
    rw [this] at e
    exact hA _ (List.getElem_mem hjA) (UInt8.toNat_inj.1 e)
  · rw [at_ _ hj]
    congr 1
    simp [h]

theorem cat_parts {c : UInt8} {s : ByteArray} {k : Nat} (h : CAt c s k) (hk : k < s.size) : s.data.toList = (s.extract 0 k).data.toList ++ c :: (s.extract (k + 1) s.size).data.toList := by
  have hl := list_size s
  rw [ext_list, ext_list, List.drop_zero, List.take_of_length_le (show s.data.toList.length ≤ s.size by omega)]
  have e : s.data.toList[k]'(by omega) = c := by
    have := h.2.2 hk
    have e2 : s[k] = s.data.toList[k]'(by omega) := by simp [ByteArray.getElem_eq_getElem_data]
    rw [e2] at this
    exact UInt8.toNat_inj.1 this
  conv => lhs; rw [← List.take_append_drop k s.data.toList, List.drop_eq_getElem_cons (show k < s.data.toList.length by omega), e]

theorem cat_same {c : UInt8} {s : ByteArray} {A R : List UInt8} {k : Nat} (h : s.data.toList = A ++ c :: R) (hA : ∀ x ∈ A, x ≠ c) (hk : CAt c s k) :
    k < s.size ∧ (s.extract 0 k).data.toList = A ∧ (s.extract (k + 1) s.size).data.toList = R := by
  obtain ⟨h1, h2⟩ := cat_list h hA
  have e : k = A.length := hk.same h1
  have hks : k < s.size := by omega
  have p := cat_parts hk hks
  rw [h] at p
  have hlen : A.length = ((s.extract 0 k).data.toList).length := by
    rw [ext_list, List.drop_zero, List.length_take, list_size]
    omega
  obtain ⟨q1, q2⟩ := List.append_inj p hlen
  exact ⟨hks, q1.symm, (List.cons.inj q2).2.symm⟩

theorem itoa_bytes (v : Int) : ∀ c ∈ Lib.itoa v, IsD c ∨ c = 45 := by
  rcases itoa_cases v with ⟨n, -, e⟩ | ⟨n, -, -, e⟩
  · rw [e]
    intro c hc
    exact .inl ((dd_all n).1 c hc)
  · rw [e]
    intro c hc
    rcases List.mem_cons.1 hc with rfl | hc
    · exact .inr rfl
    · exact .inl ((dd_all n).1 c hc)

theorem itoa_no {v : Int} {b : UInt8} (h0 : 57 < b.toNat) : ∀ c ∈ Lib.itoa v, c ≠ b := by
  intro c hc e
  subst e
  rcases itoa_bytes v c hc with h | h
  · unfold IsD at h
    omega
  · rw [h] at h0
    exact absurd h0 (by decide)

theorem itoa_inj {a b : Int} (ha : a.natAbs < 10 ^ 17) (h : Lib.itoa a = Lib.itoa b) : a = b := by
  have e1 := numB_itoa ha
  rcases itoa_cases a with ⟨n, rfl, e⟩ | ⟨n, rfl, h1, e⟩
  · rcases itoa_cases b with ⟨k, rfl, f⟩ | ⟨k, rfl, h2, f⟩
    · rw [e, f] at h
      have a := (dd_all n).2.1
      have b := (dd_all k).2.1
      rw [h] at a
      omega
    · rw [e, f] at h
      exact absurd h (dd_head45 n _)
  · rcases itoa_cases b with ⟨k, rfl, f⟩ | ⟨k, rfl, h2, f⟩
    · rw [e, f] at h
      exact absurd h.symm (dd_head45 k _)
    · rw [e, f] at h
      have h' := (List.cons.inj h).2
      have a := (dd_all n).2.1
      have b := (dd_all k).2.1
      rw [h'] at a
      omega

/-- A text is a span's. -/
def SpT (s : ByteArray) (m d : Int) : Prop := SpanIs m d ∧ spanT m d = s

theorem spanT_list (m d : Int) : (spanT m d).data.toList = Lib.itoa m ++ 109 :: (Lib.itoa d ++ [100]) := by
  unfold spanT itxt
  rw [show (⟨#[109]⟩ : ByteArray) = ⟨([109] : List UInt8).toArray⟩ from rfl, show (⟨#[100]⟩ : ByteArray) = ⟨([100] : List UInt8).toArray⟩ from rfl, bytes_cat, bytes_cat, bytes_cat]
  simp

theorem of_list {s t : ByteArray} (h : s.data.toList = t.data.toList) : s = t := ByteArray.ext (Array.toList_inj.1 h)

/-- What is cut off at the end. -/
theorem snoc_ext {s : ByteArray} {A : List UInt8} {c : UInt8} (h : s.data.toList = A ++ [c]) {n : Nat} (hn : s.size = n + 1) : (s.extract 0 n).data.toList = A ∧ ∀ hn' : n < s.size, s[n].toNat = c.toNat := by
  have hs := list_size s
  rw [h, List.length_append, List.length_singleton] at hs
  have e : n = A.length := by omega
  constructor
  · rw [ext_list, List.drop_zero, h, e, List.take_left']
    rfl
  · intro hn'
    have : s[n] = s.data.toList[n]'(by rw [list_size]; exact hn') := by simp [ByteArray.getElem_eq_getElem_data]
    rw [this]
    congr 1
    simp [h, e]

theorem ext_snoc {s : ByteArray} {n : Nat} (hn : s.size = n + 1) (hn' : n < s.size) {c : UInt8} (hc : s[n].toNat = c.toNat) : s.data.toList = (s.extract 0 n).data.toList ++ [c] := by
  have hl := list_size s
  rw [ext_list, List.drop_zero]
  have e : s.data.toList[n]'(by omega) = c := by
    have e2 : s[n] = s.data.toList[n]'(by omega) := by simp [ByteArray.getElem_eq_getElem_data]
    rw [e2] at hc
    exact UInt8.toNat_inj.1 hc
  conv => lhs; rw [← List.take_append_drop n s.data.toList, List.drop_eq_getElem_cons (show n < s.data.toList.length by omega), e, List.drop_of_length_le (show s.data.toList.length ≤ n + 1 by omega)]

/-- The specification's way: what stands ahead of the last byte, cut at the first m. -/
theorem spec_span {s : ByteArray} {n k : Nat} (hn : s.size = n + 1) (hk : CAt 109 (s.extract 0 n) k) {m d : Int} (h : SpT s m d) :
    (∀ hn' : n < s.size, s[n].toNat = 100) ∧ k < (s.extract 0 n).size ∧ IntT ((s.extract 0 n).extract 0 k) m ∧ IntT ((s.extract 0 n).extract (k + 1) (s.extract 0 n).size) d := by
  obtain ⟨⟨⟨h1, h2⟩, h3, h4⟩, rfl⟩ := h
  have hl := spanT_list m d
  obtain ⟨e1, e2⟩ := snoc_ext (A := Lib.itoa m ++ 109 :: Lib.itoa d) (c := 100) (by rw [hl]; simp) hn
  obtain ⟨q1, q2, q3⟩ := cat_same (A := Lib.itoa m) (R := Lib.itoa d) e1 (itoa_no (by decide)) hk
  exact ⟨e2, q1, ⟨q2, by omega⟩, ⟨q3, by omega⟩⟩

theorem spec_span_back {s : ByteArray} {n k : Nat} (hn : s.size = n + 1) (hn' : n < s.size) (hd : s[n].toNat = 100) (hk : CAt 109 (s.extract 0 n) k) (hks : k < (s.extract 0 n).size) {m d : Int}
    (hm : IntT ((s.extract 0 n).extract 0 k) m) (hdd : IntT ((s.extract 0 n).extract (k + 1) (s.extract 0 n).size) d) (h : SpanIs m d) : SpT s m d := by
  refine ⟨h, of_list ?_⟩
  rw [spanT_list, ext_snoc hn hn' (c := 100) hd, cat_parts hk hks, hm.1, hdd.1]
  simp

theorem span_same {s : ByteArray} {m d m' d' : Int} (h : SpT s m d) (k : SpT s m' d') : m = m' ∧ d = d' := by
  have h1 := spanT_list m d
  have k1 := spanT_list m' d'
  rw [h.2] at h1
  rw [k.2] at k1
  obtain ⟨c, hc⟩ := cat_is 109 s
  obtain ⟨-, a1, a2⟩ := cat_same h1 (itoa_no (by decide)) hc
  obtain ⟨-, b1, b2⟩ := cat_same k1 (itoa_no (by decide)) hc
  rw [a1] at b1
  rw [a2] at b2
  obtain ⟨⟨⟨_, _⟩, _, _⟩, -⟩ := h
  exact ⟨itoa_inj (by omega) b1, itoa_inj (by omega) (List.append_cancel_right b2)⟩

end Go.Proofs.YtdklikicngmkbaaGreatDoor

namespace Go.Proofs.YtdklikicngmkbaaGreatDoor
open Go.RowKit

theorem Tryz.infoS : (Tryz.prog.info? 9).map (fun i => (i.zero, i.size, i.bytes)) = some (some (.string ⟨#[]⟩), 1, 16) := by kernel_rfl

/-- A list of texts that lies at the head of a row of the call's own. -/
def OwnT (B : Nat) (w : World) (v : Value) (l : List ByteArray) : Prop := w.ownsRow B 9 1 v l.length (l.map Value.string)

theorem OwnT.cellAt {B : Nat} {w : World} {g n cap : Nat} {l : List ByteArray} (h : OwnT B w (.slice (some ⟨g, 0, none⟩) n cap) l) {i : Nat} (hi : i < l.length) : w.cell? ⟨g, i, none⟩ = some (.string l[i]) := by
  have e : n = l.length := by
    obtain ⟨_, h2⟩ := h
    rcases h2 with ⟨e, _⟩ | ⟨_, _, _, e, _⟩
    · simp at e
    · simp at e; exact e.2.1
  subst e
  have := World.ownsRow.cellAt (h : w.ownsRow B 9 1 _ _ _) i (by simpa using hi)
  rw [this]
  simp [hi]

theorem OwnT.later {B : Nat} {w w' : World} {v : Value} {l : List ByteArray} (h : OwnT B w v l) (k : Below w.heap.size w w') : OwnT B w' v l := by
  obtain ⟨h1, h2⟩ := h
  refine ⟨h1, ?_⟩
  rcases h2 with h2 | ⟨g, cap, cur, rfl, hB, hg, hr⟩
  · exact .inl h2
  · exact .inr ⟨g, cap, cur, rfl, hB, by rw [k.block g (Array.getElem?_eq_some_iff.1 hg).1]; exact hg, hr⟩

theorem OwnT.split {B : Nat} {w : World} {v : Value} {l : List ByteArray} (h : OwnT B w v l) :
    (v = .slice none 0 0 ∧ l = []) ∨ ∃ g cap, v = .slice (some ⟨g, 0, none⟩) l.length cap ∧ B ≤ g ∧ g < w.heap.size ∧ l.length ≤ cap ∧ cap ≤ 9223372036854775807 := by
  obtain ⟨_, h2⟩ := h
  rcases h2 with ⟨rfl, e⟩ | ⟨g, cap, cur, rfl, hB, hg, hn, hm, _⟩
  · exact .inl ⟨rfl, List.length_eq_zero_iff.1 e⟩
  · exact .inr ⟨g, cap, rfl, hB, (Array.getElem?_eq_some_iff.1 hg).1, hn, by unfold maxLen at hm; omega⟩

theorem ownT_empty (w : World) {B : Nat} (h : B ≤ w.heap.size) : OwnT B (w.alloc (.cells #[] 9)) (.slice (some ⟨w.heap.size, 0, none⟩) 0 0) [] :=
  World.ownsRow_made w #[] 0 h (by simp [maxLen]) rfl

theorem wpList_pushS {wr : World} {ops : Array Oper} {rest : List Oper} {o : Oper} {a : Act} {Q : Exit → Act → World → Prop}
    (hg : o.guard = none) (s x : Operand) (t : TypeId) (hop : o.op = Op.call { callee := Callee.builtin Builtin.append, args := #[s, x], argTypes := #[t, t] })
    (ht : Tryz.prog.underlying t = some (.slice 9)) (B : Nat) (v : Value) (l : List ByteArray) (y : ByteArray) (hown : OwnT B wr v l) (hs : a.eval s = v) (hx : a.eval x = .slice (some ⟨wr.heap.size, 0, none⟩) 1 1)
    (hlen : l.length ≤ 8000000) (hB : B ≤ wr.heap.size)
    (hK : ∀ g cap w', OwnT B w' (.slice (some ⟨g, 0, none⟩) (l.length + 1) cap) (l ++ [y]) → Below B wr w' → l.length + 1 ≤ cap → cap ≤ 9223372036854775807 → B ≤ g → g < w'.heap.size →
      wpList Tryz.prog ops Q rest (a.put o.dst (.slice (some ⟨g, 0, none⟩) (l.length + 1) cap)) w') :
    wpList Tryz.prog ops Q (o :: rest) a (wr.alloc (.cells #[.string y] 9)) := by
  obtain ⟨i0, hi, hz0, hz1, hz2⟩ := info_parts Tryz.infoS
  refine wpList_append_own _ hg s x t hop B 9 i0 (.string ⟨#[]⟩) 1 16 ht hi hz0 hz1 hz2 rfl (by decide) v l.length (l.map Value.string) hs (World.ownsRow.alloc hown _) ⟨wr.heap.size, 0, none⟩ 1 1 [.string y] hx rfl (cell_one_new _ _ _) (by intro u hu; simp at hu; subst hu; rfl) (by unfold maxLen; omega) (by omega) (by simp; omega) ?_
  intro v' w' hown' hgrow' _
  have hO : OwnT B w' v' (l ++ [y]) := by
    unfold OwnT
    rw [List.map_append, List.length_append]
    exact hown'
  have hb : Below B wr w' := ((Below.refl B wr).alloc hB _).grown hgrow' (by simp; omega) (fun k hk => (World.ownsRow.lt hown k hk).1)
  rcases hO.split with ⟨_, h0⟩ | ⟨g, cap, rfl, hBg, hgs, hcap, hm⟩
  · simp at h0
  · rw [List.length_append] at hO hcap ⊢
    exact hK g cap w' hO hb hcap hm hBg hgs

end Go.Proofs.YtdklikicngmkbaaGreatDoor
