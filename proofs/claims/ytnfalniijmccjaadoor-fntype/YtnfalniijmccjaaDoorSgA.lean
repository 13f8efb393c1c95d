/- Numbers below 0 too: the specification's l1Int by a contract; texts of spans. -/
import Derived.Test.YtnfalniijmccjaaDoorNmC
import Derived.Test.YtnfalniijmccjaaDoorSpanK
import Derived.Test.YtnfalniijmccjaaDoorSpnP
import Derived.Test.YtnfalniijmccjaaDoorCcA
namespace Go.Proofs.YtnfalniijmccjaaDoor
open Go.RowKit
set_option maxRecDepth 100000

/-- A text is a number between -10^9 and 10^9. -/
def IntT (s : ByteArray) (v : Int) : Prop := s.data.toList = Lib.itoa v ∧ v.natAbs < 10 ^ 9

theorem numT_same {s : ByteArray} {n k : Nat} (h : s.data.toList = Lib.decDigits n) (g : s.data.toList = Lib.decDigits k) : n = k := by
  have a := (dd_all n).2.1
  have b := (dd_all k).2.1
  rw [← h] at a
  rw [← g] at b
  omega

theorem itoa_cases (v : Int) : (∃ n : Nat, v = n ∧ Lib.itoa v = Lib.decDigits n) ∨ (∃ n : Nat, v = -(n : Int) ∧ 1 ≤ n ∧ Lib.itoa v = 45 :: Lib.decDigits n) := by
  by_cases h : 0 ≤ v
  · obtain ⟨n, rfl⟩ := Int.eq_ofNat_of_zero_le h
    exact .inl ⟨n, rfl, Lib.itoa_nonneg n⟩
  · obtain ⟨n, hn⟩ := Int.eq_ofNat_of_zero_le (show 0 ≤ -v by omega)
    obtain rfl : v = -(n : Int) := by omega
    exact .inr ⟨n, rfl, by omega, Lib.itoa_neg n (by omega)⟩

theorem dd_head45 (n : Nat) : ∀ r, Lib.decDigits n ≠ 45 :: r := by
  intro r e
  have := (dd_all n).1 45 (by rw [e]; simp)
  unfold IsD at this
  have e : (45 : UInt8).toNat = 45 := rfl
  omega

theorem tail_list (s : ByteArray) : (s.extract 1 s.size).data.toList = s.data.toList.tail := by
  rw [ByteArray.data_extract, Array.toList_extract, List.extract_eq_take_drop]
  have : s.data.toList.length = s.size := by simp
  rw [List.take_of_length_le (by simp), List.drop_one]

theorem list_size (s : ByteArray) : s.data.toList.length = s.size := by simp

/-- With a minus ahead. -/
theorem intT_minus {s : ByteArray} (h0 : 1 < s.size) (h45 : bt s 0 = 45) : (∀ n : Nat, NumT (s.extract 1 s.size) n → 0 < n → IntT s (-(n : Int))) ∧ (∀ v, IntT s v → ∃ n : Nat, NumT (s.extract 1 s.size) n ∧ 0 < n) := by
  have hs := list_size s
  obtain ⟨c, r, hl⟩ : ∃ c r, s.data.toList = c :: r := by
    cases hl : s.data.toList with
    | nil => rw [hl] at hs; simp at hs; omega
    | cons c r => exact ⟨c, r, rfl⟩
  have hc : c = 45 := by
    have : bt s 0 = c.toNat := by
      rw [bt_at (by omega)]
      have e : s.data.toList[0]'(by omega) = s[0] := by simp [ByteArray.getElem_eq_getElem_data]
      rw [← e]
      simp [hl]
    apply UInt8.toNat_inj.1
    rw [← this, h45]
    rfl
  subst hc
  have ht := tail_list s
  rw [hl, List.tail_cons] at ht
  constructor
  · rintro n ⟨e, hn⟩ hp
    refine ⟨?_, by simpa using hn⟩
    rw [hl, Lib.itoa_neg n (by omega), ← e, ht]
  · rintro v ⟨e, hv⟩
    rcases itoa_cases v with ⟨n, rfl, e2⟩ | ⟨n, rfl, h1, e2⟩
    · rw [e2, hl] at e
      exact absurd e.symm (dd_head45 n _)
    · rw [e2, hl] at e
      refine ⟨n, ⟨?_, by simpa using hv⟩, by omega⟩
      rw [ht]
      exact (List.cons.inj e).2

/-- Without one. -/
theorem intT_plain {s : ByteArray} (h : ¬ (1 < s.size ∧ bt s 0 = 45)) : (∀ n : Nat, NumT s n → IntT s n) ∧ (∀ v, IntT s v → ∃ n : Nat, NumT s n) := by
  constructor
  · rintro n ⟨e, hn⟩
    exact ⟨by rw [e, Lib.itoa_nonneg], by simpa using hn⟩
  · rintro v ⟨e, hv⟩
    rcases itoa_cases v with ⟨n, rfl, e2⟩ | ⟨n, rfl, h1, e2⟩
    · exact ⟨n, by rw [e, e2], by simpa using hv⟩
    · exfalso
      apply h
      rw [e2] at e
      have hs := list_size s
      have hp := dec_pos n
      rw [e, List.length_cons] at hs
      refine ⟨by omega, ?_⟩
      rw [bt_at (by omega)]
      have e3 : s.data.toList[0]'(by rw [list_size]; omega) = s[0] := by simp [ByteArray.getElem_eq_getElem_data]
      rw [← e3]
      simp [e]

/-- What l1Int answers. -/
def GivesInt (w : World) (s : ByteArray) (e : Ending) (w' : World) : Prop := ∃ (x : Int) (ok : Bool), e = .returned (.tuple #[.int .i64 x, .bool ok]) ∧ w' = w ∧ (ok = true → IntT s x) ∧ (ok = false → ∀ v, ¬ IntT s v)

set_option maxHeartbeats 1000000 in
theorem l1Int_any (w : World) (s : ByteArray) (hs : s.size ≤ maxLen) : Calls Tryd.prog 87 #[.string s] w (GivesInt w s) := by
  have hs' := hs
  unfold maxLen at hs'
  have hx : (s.extract 1 s.size).size ≤ maxLen := by rw [ByteArray.size_extract]; unfold maxLen; omega
  by_cases hm : 1 < s.size ∧ bt s 0 = 45
  · obtain ⟨h1, h45⟩ := hm
    have I := intT_minus h1 h45
    have hp0 : 0 < s.size := by omega
    rw [bt_at hp0] at h45
    have k1 : decide ((1 : Int) < (s.size : Int)) = true := by simp; omega
    have k2 : ((s[0].toNat : Int) == 45) = true := by rw [h45]; rfl
    have k3 : (1 : Int) ≤ (s.size : Int) := by omega
    clear h45
    by_cases hN : ∃ n, NumT (s.extract 1 s.size) n
    · obtain ⟨n, hn⟩ := hN
      have C := hide (l1Num_yes w _ n hn)
      have hlt := hn.2
      have w1 : IntKind.i64.wrap (-(n : Int)) = -(n : Int) := by rw [IntKind.wrap_i64]; omega
      have HI := hide (show (decide (0 < n) = true → IntT s (-(n : Int))) ∧ (decide (0 < n) = false → ∀ v, ¬ IntT s v) from by
        constructor
        · intro h
          exact I.1 n hn (by simpa using h)
        · intro h v hv
          obtain ⟨k, hk, hk0⟩ := I.2 v hv
          have := numT_same hn.1 hk.1
          simp at h
          omega)
      clear I hn hlt
      go_enter Tryd.func87, Tryd.ntmps87
      go_wp2_with fail
      refine (unhide C).mono ?_
      rintro e w1 ⟨rfl, rfl⟩
      go_wp2
      go_ret2
      exact ⟨_, _, rfl, rfl, (unhide HI).1, (unhide HI).2⟩
    · have C := hide (l1Num_no w _ hx (fun n hn => hN ⟨n, hn⟩))
      have HI := hide (show ∀ v, ¬ IntT s v from fun v hv => by obtain ⟨k, hk, -⟩ := I.2 v hv; exact hN ⟨k, hk⟩)
      clear I hN
      go_enter Tryd.func87, Tryd.ntmps87
      go_wp2_with fail
      refine (unhide C).mono ?_
      rintro e w1 ⟨rfl, rfl⟩
      go_wp2
      go_ret2
      exact ⟨_, _, rfl, rfl, (fun h => by cases h), fun _ => unhide HI⟩
  · have I := intT_plain hm
    by_cases hN : ∃ n, NumT s n
    · obtain ⟨n, hn⟩ := hN
      have C := hide (l1Num_yes w _ n hn)
      have HI := hide (I.1 n hn)
      have k0 : decide ((n : Int) < 0) = false := decide_eq_false (by omega)
      clear I hn
      by_cases h1 : 1 < s.size
      · have hp0 : 0 < s.size := by omega
        have k1 : decide ((1 : Int) < (s.size : Int)) = true := by simp; omega
        have k2 : ((s[0].toNat : Int) == 45) = false := by
          rw [beq_eq_false_iff_ne]
          intro e
          exact hm ⟨h1, by rw [bt_at hp0]; omega⟩
        clear hm
        go_enter Tryd.func87, Tryd.ntmps87
        go_wp2_with fail
        refine (unhide C).mono ?_
        rintro e w1 ⟨rfl, rfl⟩
        go_wp2
        go_ret2
        exact ⟨_, _, rfl, rfl, fun _ => unhide HI, (fun h => by cases h)⟩
      · have k1 : decide ((1 : Int) < (s.size : Int)) = false := by simp; omega
        clear hm
        go_enter Tryd.func87, Tryd.ntmps87
        go_wp2_with fail
        refine (unhide C).mono ?_
        rintro e w1 ⟨rfl, rfl⟩
        go_wp2
        go_ret2
        exact ⟨_, _, rfl, rfl, fun _ => unhide HI, (fun h => by cases h)⟩
    · have C := hide (l1Num_no w _ hs (fun n hn => hN ⟨n, hn⟩))
      have HI := hide (show ∀ v, ¬ IntT s v from fun v hv => hN (I.2 v hv))
      clear I hN
      by_cases h1 : 1 < s.size
      · have hp0 : 0 < s.size := by omega
        have k1 : decide ((1 : Int) < (s.size : Int)) = true := by simp; omega
        have k2 : ((s[0].toNat : Int) == 45) = false := by
          rw [beq_eq_false_iff_ne]
          intro e
          exact hm ⟨h1, by rw [bt_at hp0]; omega⟩
        clear hm
        go_enter Tryd.func87, Tryd.ntmps87
        go_wp2_with fail
        refine (unhide C).mono ?_
        rintro e w1 ⟨rfl, rfl⟩
        go_wp2
        go_ret2
        exact ⟨_, _, rfl, rfl, (fun h => by cases h), fun _ => unhide HI⟩
      · have k1 : decide ((1 : Int) < (s.size : Int)) = false := by simp; omega
        clear hm
        go_enter Tryd.func87, Tryd.ntmps87
        go_wp2_with fail
        refine (unhide C).mono ?_
        rintro e w1 ⟨rfl, rfl⟩
        go_wp2
        go_ret2
        exact ⟨_, _, rfl, rfl, (fun h => by cases h), fun _ => unhide HI⟩

end Go.Proofs.YtnfalniijmccjaaDoor
