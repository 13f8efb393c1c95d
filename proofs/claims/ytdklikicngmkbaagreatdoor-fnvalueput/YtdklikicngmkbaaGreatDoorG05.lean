/- A byte that is replaced by others wherever it stands. Plain mathematics. Quotes that stand twice, made one again. Plain mathematics. A text between quotes: the specification's l4Quote, by a contract. The text of a number: spec.l1Dec by a contract. -/
import Derived.Test.YtdklikicngmkbaaGreatDoorG01
import Derived.Lib.Replace
import Derived.Lib.IndexBytes
import Derived.Lib.IndexLaws
import Derived.Lib.CountLaws
import Derived.Test.YtdklikicngmkbaaGreatDoorProg
import Derived.WalkKit
import Derived.WalkSmall
import Derived.WalkLawsBesides
import Derived.Below
import Derived.Deep.QuietTactic
import Derived.BigQuiet
import Derived.Lib.ItoaMem
import Derived.Lib.ItoaLen
import Derived.Deep.RegionHeld
namespace Go.Proofs.YtdklikicngmkbaaGreatDoor
open Go.RowKit

/-- Each c replaced. -/
def repB (c : UInt8) (new : List UInt8) : List UInt8 → List UInt8
  | [] => []
  | x :: r => if x = c then new ++ repB c new r else x :: repB c new r

theorem index_hit (c : UInt8) (r : List UInt8) : Lib.index (c :: r) [c] = ((0 : Nat) : Int) := by
  rw [Lib.index_one]
  simp [Lib.indexByte]

theorem index_skip {x c : UInt8} (h : x ≠ c) {r : List UInt8} {i : Nat} (hi : Lib.index r [c] = i) : Lib.index (x :: r) [c] = ((i + 1 : Nat) : Int) := by
  rw [Lib.index_one] at hi ⊢
  have h' : (x == c) = false := by simpa using h
  simp [Lib.indexByte, h', hi]

theorem replaceK_one (c : UInt8) (new : List UInt8) : ∀ s : List UInt8, Lib.replaceK [c] new (s.count c) s = repB c new s
  | [] => rfl
  | x :: r => by
    by_cases h : x = c
    · subst h
      rw [List.count_cons_self, Lib.replaceK_hit _ _ _ _ 0 (index_hit x r)]
      simp [repB, replaceK_one]
    · rw [List.count_cons_of_ne (fun e => h (by first | exact e | exact e.symm))]
      have ih := replaceK_one c new r
      cases hk : r.count c with
      | zero =>
        rw [hk] at ih
        simp only [Lib.replaceK] at ih ⊢
        simp [repB, h, ← ih]
      | succ k =>
        rw [hk] at ih
        obtain ⟨i, hi⟩ := Lib.index_of_count (s := r) (old := [c]) (by rw [Lib.count_one, hk]; omega)
        rw [Lib.replaceK_hit _ _ _ _ i hi] at ih
        rw [Lib.replaceK_hit _ _ _ _ (i + 1) (index_skip h hi)]
        simp [repB, h, ← ih]

theorem replaceAll_one (c : UInt8) (new s : List UInt8) (h : [c] ≠ new) : Lib.replaceAll s [c] new = repB c new s := by
  unfold Lib.replaceAll Lib.replace Lib.replaceNum
  rw [if_neg (by simpa using h), if_pos (by omega), Lib.count_one]
  exact replaceK_one c new s

theorem repB_append (c : UInt8) (new : List UInt8) : ∀ a b : List UInt8, repB c new (a ++ b) = repB c new a ++ repB c new b
  | [], _ => rfl
  | x :: r, b => by
    by_cases h : x = c
    · simp [repB, h, repB_append c new r b]
    · simp [repB, h, repB_append c new r b]

theorem repB_len (c : UInt8) (new : List UInt8) : ∀ a : List UInt8, (repB c new a).length ≤ a.length * (new.length + 1)
  | [] => by simp [repB]
  | x :: r => by
    have := repB_len c new r
    by_cases h : x = c
    · simp only [repB, h, if_pos, List.length_append, List.length_cons, Nat.add_mul]
      omega
    · simp only [repB, h, if_neg, List.length_cons, Nat.add_mul, not_false_iff]
      omega

end Go.Proofs.YtdklikicngmkbaaGreatDoor

namespace Go.Proofs.YtdklikicngmkbaaGreatDoor
open Go.RowKit

/-- A text, each quote in it twice. -/
def dbl (t : List UInt8) : List UInt8 := repB 39 [39, 39] t
theorem dbl_q (r : List UInt8) : dbl (39 :: r) = 39 :: 39 :: dbl r := by simp [dbl, repB]
theorem dbl_o {x : UInt8} (h : x ≠ 39) (r : List UInt8) : dbl (x :: r) = x :: dbl r := by simp [dbl, repB, h]
theorem dbl_nil : dbl [] = [] := rfl

theorem ix2_nil : Lib.index [] [39, 39] = -1 := by decide
theorem ix2_hit (r : List UInt8) : Lib.index (39 :: 39 :: r) [39, 39] = ((0 : Nat) : Int) := by
  simp [Lib.index]
theorem ix2_skip {x : UInt8} (h : x ≠ 39) (r : List UInt8) : Lib.index (x :: r) [39, 39] = if Lib.index r [39, 39] == -1 then -1 else Lib.index r [39, 39] + 1 := by
  have h2 : ¬ (39 = x) := fun e => h e.symm
  rw [Lib.index]
  simp [h2]

theorem rep_skip {x : UInt8} (h : x ≠ 39) (r : List UInt8) (k : Nat) : Lib.replaceK [39, 39] [39] k (x :: r) = x :: Lib.replaceK [39, 39] [39] k r := by
  cases k with
  | zero => rfl
  | succ k =>
    have hs := ix2_skip h r
    by_cases hm : Lib.index r [39, 39] = -1
    · rw [hm] at hs
      simp only [Lib.replaceK, hm, hs]
      simp
    · have hge := Lib.index_ge r [39, 39]
      obtain ⟨i, hi⟩ : ∃ i : Nat, Lib.index r [39, 39] = i := ⟨(Lib.index r [39, 39]).toNat, by omega⟩
      rw [hi] at hs
      have hs' : Lib.index (x :: r) [39, 39] = ((i + 1 : Nat) : Int) := by
        rw [hs, if_neg (by simp)]
        simp
      rw [Lib.replaceK_hit _ _ _ _ i hi, Lib.replaceK_hit _ _ _ _ (i + 1) hs']
      rw [show i + 1 + ([39, 39] : List UInt8).length = (i + ([39, 39] : List UInt8).length) + 1 by omega]
      simp

theorem undbl : ∀ (t : List UInt8) (k : Nat), t.count 39 ≤ k → Lib.replaceK [39, 39] [39] k (dbl t) = t
  | [], k, _ => by
    rw [dbl_nil]
    cases k with
    | zero => rfl
    | succ k => simp [Lib.replaceK, ix2_nil]
  | x :: r, k, h => by
    by_cases e : x = 39
    · subst e
      rw [List.count_cons_self] at h
      obtain ⟨j, rfl⟩ : ∃ j, k = j + 1 := ⟨k - 1, by omega⟩
      rw [dbl_q, Lib.replaceK_hit _ _ _ _ 0 (ix2_hit _)]
      simp [undbl r j (by omega)]
    · rw [List.count_cons_of_ne (fun q => e (by first | exact q | exact q.symm))] at h
      rw [dbl_o e, rep_skip e, undbl r k h]

theorem cnt_dbl : ∀ (t : List UInt8), t.count 39 ≤ Lib.count (dbl t) [39, 39]
  | [] => Nat.zero_le _
  | x :: r => by
    have ih := cnt_dbl r
    by_cases e : x = 39
    · subst e
      rw [List.count_cons_self, dbl_q, Lib.count_hit (by simp) (ix2_hit _)]
      simp
      omega
    · rw [List.count_cons_of_ne (fun q => e (by first | exact q | exact q.symm)), dbl_o e]
      by_cases hm : Lib.index (dbl r) [39, 39] = -1
      · rw [Lib.count_miss hm] at ih
        omega
      · have hge := Lib.index_ge (dbl r) [39, 39]
        obtain ⟨i, hi⟩ : ∃ i : Nat, Lib.index (dbl r) [39, 39] = i := ⟨(Lib.index (dbl r) [39, 39]).toNat, by omega⟩
        have hs := ix2_skip e (dbl r)
        rw [hi, if_neg (by simp)] at hs
        rw [Lib.count_hit (by simp) hi] at ih
        rw [Lib.count_hit (i := i + 1) (by simp) (by rw [hs]; simp)]
        rw [show i + 1 + ([39, 39] : List UInt8).length = (i + ([39, 39] : List UInt8).length) + 1 by omega]
        simpa using ih

theorem undbl_all (t : List UInt8) : Lib.replaceAll (dbl t) [39, 39] [39] = t := by
  unfold Lib.replaceAll Lib.replace Lib.replaceNum
  rw [if_neg (by decide), if_pos (by omega)]
  exact undbl t _ (cnt_dbl t)

/-- What stands behind texts of which the one begins the other. -/
theorem dbl_split : ∀ (o t R : List UInt8), dbl t = dbl o ++ R → ∃ t', R = dbl t' ∧ t = o ++ t'
  | [], t, R, h => ⟨t, by simpa [dbl_nil] using h.symm, rfl⟩
  | x :: o, t, R, h => by
    cases t with
    | nil =>
      exfalso
      by_cases e : x = 39
      · subst e
        rw [dbl_q, dbl_nil] at h
        simp at h
      · rw [dbl_o e, dbl_nil] at h
        simp at h
    | cons z t =>
      by_cases e : x = 39
      · subst e
        rw [dbl_q] at h
        by_cases ez : z = 39
        · subst ez
          rw [dbl_q] at h
          simp at h
          obtain ⟨t', a, b⟩ := dbl_split o t R h
          exact ⟨t', a, by rw [b]; rfl⟩
        · rw [dbl_o ez] at h
          simp at h
          exact absurd h.1 ez
      · rw [dbl_o e] at h
        by_cases ez : z = 39
        · subst ez
          rw [dbl_q] at h
          simp at h
          exact absurd h.1.symm e
        · rw [dbl_o ez] at h
          simp at h
          obtain ⟨t', a, b⟩ := dbl_split o t R h.2
          exact ⟨t', a, by rw [b, h.1]; rfl⟩

/-- A quote that is not twice begins no such text. -/
theorem dbl_odd {t R : List UInt8} (h : dbl t = 39 :: R) : ∃ R', R = 39 :: R' := by
  cases t with
  | nil => simp [dbl_nil] at h
  | cons z t =>
    by_cases ez : z = 39
    · subst ez
      rw [dbl_q] at h
      simp at h
      exact ⟨_, h.symm⟩
    · rw [dbl_o ez] at h
      simp at h
      exact absurd h.1 ez
theorem dbl_app (a b : List UInt8) : dbl (a ++ b) = dbl a ++ dbl b := by
  induction a with
  | nil => rfl
  | cons x r ih =>
    by_cases e : x = 39
    · subst e; simp [dbl_q, ih]
    · simp [dbl_o e, ih]
theorem dbl_inj {a b : List UInt8} (h : dbl a = dbl b) : a = b := by
  obtain ⟨t', h1, h2⟩ := dbl_split b a [] (by simpa using h)
  cases t' with
  | nil => simpa using h2
  | cons x r =>
    exfalso
    by_cases e : x = 39
    · subst e; simp [dbl_q] at h1
    · simp [dbl_o e] at h1

end Go.Proofs.YtdklikicngmkbaaGreatDoor

namespace Go.Proofs.YtdklikicngmkbaaGreatDoor
open Go.RowKit
set_option maxRecDepth 100000

/-- A text between quotes, each quote in it twice. -/
def quoL (l : List UInt8) : List UInt8 := 39 :: repB 39 [39, 39] l
def quoteT (s : ByteArray) : ByteArray := ⟨(quoL s.data.toList ++ [39]).toArray⟩

theorem q_size (l : List UInt8) : (⟨l.toArray⟩ : ByteArray).size = l.length := by
  show l.toArray.size = l.length
  simp

theorem q_cat (a b : List UInt8) : (⟨a.toArray⟩ : ByteArray) ++ (⟨b.toArray⟩ : ByteArray) = ⟨(a ++ b).toArray⟩ := by
  apply ByteArray.ext
  apply Array.toList_inj.1
  rw [ByteArray.data_append]
  simp

theorem q_one {s : ByteArray} {i : Nat} (h : i < s.size) : s.extract i (i + 1) = ⟨([s[i]] : List UInt8).toArray⟩ := by
  apply ByteArray.ext
  apply Array.toList_inj.1
  have hl : i < s.data.toList.length := by simpa using h
  rw [ByteArray.data_extract, Array.toList_extract, List.extract_eq_take_drop, Nat.add_sub_cancel_left]
  rw [List.drop_eq_getElem_cons hl]
  simp [ByteArray.getElem_eq_getElem_data]

theorem quo_hit {s : ByteArray} {i : Nat} (h : i < s.size) (hc : s[i].toNat = 39) : (⟨(quoL (s.data.toList.take i)).toArray⟩ : ByteArray) ++ ⟨#[39]⟩ ++ s.extract i (i + 1) = ⟨(quoL (s.data.toList.take (i + 1))).toArray⟩ := by
  have hl : i < s.data.toList.length := by simpa using h
  have e : s[i] = (39 : UInt8) := UInt8.toNat_inj.1 hc
  have e2 : s.data.toList[i] = (39 : UInt8) := by rw [← e]; simp [ByteArray.getElem_eq_getElem_data]
  rw [q_one h, show (⟨#[39]⟩ : ByteArray) = ⟨([39] : List UInt8).toArray⟩ from rfl, q_cat, q_cat, List.take_succ_eq_append_getElem hl, e, e2]
  simp [quoL, repB_append, repB]

theorem quo_miss {s : ByteArray} {i : Nat} (h : i < s.size) (hc : s[i].toNat ≠ 39) : (⟨(quoL (s.data.toList.take i)).toArray⟩ : ByteArray) ++ s.extract i (i + 1) = ⟨(quoL (s.data.toList.take (i + 1))).toArray⟩ := by
  have hl : i < s.data.toList.length := by simpa using h
  have e2 : s.data.toList[i] = s[i] := by simp [ByteArray.getElem_eq_getElem_data]
  have hne : s[i] ≠ (39 : UInt8) := fun q => hc (by rw [q]; rfl)
  rw [q_one h, q_cat, List.take_succ_eq_append_getElem hl, e2]
  simp [quoL, repB_append, repB, hne]

set_option maxHeartbeats 1000000 in
theorem l4Quote_any (w : World) (s : ByteArray) (hs : s.size ≤ 100000) :
    Calls Tryz.prog 70 #[.string s] w fun e w' => e = .returned (.string (quoteT s)) ∧ Below w.heap.size w w' := by
  go_enter Tryz.func70, Tryz.ntmps70
  go_wp2
  go_loopw [3, 4] (fun oo ii wr => ∃ (i : Nat) (q : ByteArray), ii = .int .i64 i ∧ oo = .string q ∧ i ≤ s.size ∧ Hid (q = ⟨(quoL (s.data.toList.take i)).toArray⟩) ∧ q.size ≤ 1 + 3 * i ∧ Below w.heap.size w wr) (fun _ ii _ => s.size - (intOf ii).toNat)
  case atStart => exact ⟨0, _, rfl, rfl, Nat.zero_le _, hide rfl, by decide, Below.refl _ _⟩
  case round =>
    obtain ⟨i, q, rfl, rfl, hi, hq, hz, hbel⟩ := hrel
    by_cases h : i < s.size
    · have w5 : IntKind.i64.wrap ((i : Int) + 1) = (i : Int) + 1 := by rw [IntKind.wrap_i64]; omega
      have k1 : (i : Int) + 1 ≤ (s.size : Int) := by omega
      have k2 : (i : Int) ≤ (i : Int) + 1 := by omega
      have k3 : (0 : Int) ≤ (i : Int) := by omega
      have xs1 : (s.extract i (i + 1)).size = 1 := by rw [ByteArray.size_extract]; omega
      have z1 : ¬ (9223372036854775807 < q.size + 1) := by omega
      have z2 : ¬ (9223372036854775807 < q.size + 1 + 1) := by omega
      obtain ⟨c, hc⟩ : ∃ c, s[i].toNat = c := ⟨_, rfl⟩
      have HC := hide hc
      by_cases h1 : c = 39
      · have t1 : ((c : Int) == 39) = true := by simp [h1]
        have HQ := hide (show q ++ ⟨#[39]⟩ ++ s.extract i (i + 1) = ⟨(quoL (s.data.toList.take (i + 1))).toArray⟩ by rw [unhide hq]; exact quo_hit h (by rw [unhide HC]; exact h1))
        have HS := hide (show (q ++ ⟨#[39]⟩ ++ s.extract i (i + 1)).size ≤ 1 + 3 * (i + 1) by rw [ByteArray.size_append, ByteArray.size_append, xs1, show (⟨#[39]⟩ : ByteArray).size = 1 from rfl]; omega)
        clear h1 hq
        go_wp2
        go_roundw
        case rel => exact ⟨i + 1, _, by simp, rfl, by omega, HQ, unhide HS, hbel⟩
        case measure => simp only [intOf]; omega
      · have t1 : ((c : Int) == 39) = false := by rw [beq_eq_false_iff_ne]; omega
        have HQ := hide (show q ++ s.extract i (i + 1) = ⟨(quoL (s.data.toList.take (i + 1))).toArray⟩ by rw [unhide hq]; exact quo_miss h (by rw [unhide HC]; exact h1))
        have HS := hide (show (q ++ s.extract i (i + 1)).size ≤ 1 + 3 * (i + 1) by rw [ByteArray.size_append, xs1]; omega)
        clear h1 hq
        go_wp2
        go_roundw
        case rel => exact ⟨i + 1, _, by simp, rfl, by omega, HQ, unhide HS, hbel⟩
        case measure => simp only [intOf]; omega
    · have HE := hide (show q ++ ⟨#[39]⟩ = quoteT s by
        rw [unhide hq, List.take_of_length_le (by simp; omega), show (⟨#[39]⟩ : ByteArray) = ⟨([39] : List UInt8).toArray⟩ from rfl, q_cat]
        rfl)
      have z1 : ¬ (9223372036854775807 < q.size + 1) := by omega
      clear hq
      go_wp2
      go_ret
      exact ⟨by rw [← unhide HE]; rfl, hbel⟩

end Go.Proofs.YtdklikicngmkbaaGreatDoor

namespace Go.Proofs.YtdklikicngmkbaaGreatDoor
open Go.RowKit

/-- The text of a number. -/
def itxt (n : Int) : ByteArray := ⟨(Lib.itoa n).toArray⟩
def dtxt (n : Nat) : ByteArray := ⟨(Lib.decDigits n).toArray⟩

theorem convI (W : World) (b v : Nat) (hv : v < 256) (z : Int) (hz : z = v) (hc : W.cell? ⟨b, 0, none⟩ = some (.int .u8 z)) : Sem.run Tryz.prog (convert 22 9 (.slice (some ⟨b, 0, none⟩) 1 1)) W = .ok (.string ⟨#[UInt8.ofNat v]⟩) W := by
  subst hz
  refine run_convert_bytes_back _ 22 9 5 ⟨b, 0, none⟩ 1 [UInt8.ofNat v] Tryz.underlying22 Tryz.underlying5 Tryz.underlying9 (fun j hj => ?_)
  have : j = 0 := by simpa using hj
  subst this
  simp only [Addr.add] at *
  simp [hc]
  omega

theorem dtxt_small {n : Nat} (h : n < 10) : dtxt n = ⟨#[48 + UInt8.ofNat n]⟩ := by
  unfold dtxt; rw [Lib.decDigits_one h]; simp
theorem dtxt_big {n : Nat} (h : ¬ n < 10) : dtxt n = dtxt (n / 10) ++ ⟨#[48 + UInt8.ofNat (n % 10)]⟩ := by
  unfold dtxt
  rw [Lib.decDigits, dif_neg h]
  simp [ByteArray.ext_iff, ByteArray.data_append]
theorem dtxt_size {n : Nat} (h : n ≤ 9223372036854775807) : (dtxt n).size ≤ 21 := by
  have := Lib.itoa_length_le (n : Int) (by omega) (by omega)
  rw [Lib.itoa_nonneg] at this
  show (Lib.decDigits n).toArray.size ≤ 21
  simpa using this

theorem i64_in {x : Int} (h : -9223372036854775808 ≤ x) (k : x ≤ 9223372036854775807) : IntKind.i64.wrap x = x := by
  rw [IntKind.wrap_i64]; omega
theorem u8_in {x : Int} (h : 0 ≤ x) (k : x ≤ 255) : IntKind.u8.wrap x = x := by
  unfold IntKind.wrap; simp [IntKind.bits, IntKind.signed]; omega

set_option maxHeartbeats 1000000 in
theorem l1Dec_nat (n : Nat) : n ≤ 9223372036854775807 → ∀ w : World, Calls Tryz.prog 112 #[.int .i64 n] w fun e w' => e = .returned (.string (dtxt n)) ∧ Below w.heap.size w w' := by
  induction n using Nat.strongRecOn with
  | ind n ih =>
    intro hn w
    have g0 : decide ((n : Int) < -9223372036854775807) = false := decide_eq_false (by omega)
    have g1 : decide ((n : Int) < 0) = false := decide_eq_false (by omega)
    by_cases h : n < 10
    · have g2 : decide ((n : Int) < 10) = true := by simp; omega
      have E := hide (dtxt_small h)
      have hcv := convI (w.alloc (.cells #[.int .u8 (48 + (n : Int))] 5)) w.heap.size (48 + n) (by omega) (48 + (n : Int)) (by omega) (by simp)
      clear ih
      go_enter Tryz.func112, Tryz.ntmps112
      go_wp2
      go_ret
      exact ⟨by rw [unhide E]; rfl, (Below.refl _ _).alloc (Nat.le_refl _) _⟩
    · have g2 : decide ((n : Int) < 10) = false := by simp; omega
      have E := hide (dtxt_big h)
      have C := hide (fun (z : Int) (hz : z = (n / 10 : Nat)) W => (by subst hz; exact ih (n / 10) (by omega) (by omega) W : Calls Tryz.prog 112 #[.int .i64 z] W fun e w' => e = .returned (.string (dtxt (n / 10))) ∧ Below W.heap.size W w'))
      have hcv := fun (W : World) (b : Nat) (h : W.cell? ⟨b, 0, none⟩ = some (.int .u8 (48 + (n : Int) % 10))) => convI W b (48 + n % 10) (by omega) (48 + (n : Int) % 10) (by omega) h
      have hs := dtxt_size (n := n / 10) (by omega)
      clear ih
      go_enter Tryz.func112, Tryz.ntmps112
      go_wp2_with fail
      have hm : (0 : Int) ≤ (n : Int) % 10 ∧ (n : Int) % 10 ≤ 9 := by omega
      obtain ⟨hm1, hm2⟩ := hm
      have w1 : IntKind.i64.wrap ((n : Int) / 10) = (n : Int) / 10 := i64_in (by omega) (by omega)
      have w2 : (n : Int).tmod 10 = (n : Int) % 10 := Int.tmod_eq_emod_of_nonneg (by omega)
      have w3 : IntKind.i64.wrap (48 + (n : Int) % 10) = 48 + (n : Int) % 10 := i64_in (by omega) (by omega)
      have w4 : IntKind.u8.wrap (48 + (n : Int) % 10) = 48 + (n : Int) % 10 := u8_in (by omega) (by omega)
      have hq : (n : Int) / 10 = (n / 10 : Nat) := by omega
      have HQ := hide hq
      have hz : ¬ (9223372036854775807 < (dtxt (n / 10)).size + 1) := by omega
      clear g0 g1 g2 hn h hq
      go_region_with (go_at_call 112; refine (unhide C _ ?_ _).mono ?_; exact unhide HQ; rintro e w1 ⟨rfl, b1⟩; obtain ⟨hc1, hf1⟩ := bcell b1)
      all_goals
        go_wp2
        go_ret
        refine ⟨by rw [unhide E]; rfl, ?_⟩
        first
          | exact ((Below.refl _ _).drew.trans b1).alloc b1.size _
          | exact ((Below.refl _ _).alloc (Nat.le_refl _) _).drew.trans (b1.mono (by simp))

/-- The same at whatever number. -/
theorem l1Dec_any (w : World) (n : Int) (h0 : -9223372036854775807 ≤ n) (h1 : n ≤ 9223372036854775807) :
    Calls Tryz.prog 112 #[.int .i64 n] w fun e w' => e = .returned (.string (itxt n)) ∧ Below w.heap.size w w' := by
  by_cases h : n < 0
  · obtain ⟨k, rfl⟩ : ∃ k : Nat, n = -(k : Int) := ⟨n.natAbs, by omega⟩
    have E := hide (show itxt (-(k : Int)) = ⟨#[45]⟩ ++ dtxt k by unfold itxt dtxt; rw [Lib.itoa_neg k (by omega)]; simp [ByteArray.ext_iff, ByteArray.data_append])
    have C := hide (l1Dec_nat k (by omega))
    have hs := dtxt_size (n := k) (by omega)
    have hz : ¬ (9223372036854775807 < 1 + (dtxt k).size) := by omega
    have g0 : decide (-(k : Int) < -9223372036854775807) = false := decide_eq_false (by omega)
    have g1 : decide (-(k : Int) < 0) = true := decide_eq_true h
    go_enter Tryz.func112, Tryz.ntmps112
    go_wp2_with fail
    refine (unhide C _).mono ?_
    rintro e w1 ⟨rfl, b1⟩
    go_wp2
    go_ret
    exact ⟨by rw [unhide E]; rfl, b1⟩
  · obtain ⟨k, rfl⟩ : ∃ k : Nat, n = (k : Int) := ⟨n.toNat, by omega⟩
    have E : itxt (k : Int) = dtxt k := by unfold itxt dtxt; rw [Lib.itoa_nonneg k]
    rw [E]
    exact l1Dec_nat k (by omega) w

theorem itxt_size {n : Int} (h0 : -9223372036854775808 ≤ n) (h1 : n ≤ 9223372036854775807) : (itxt n).size ≤ 21 := by
  have := Lib.itoa_length_le n h0 h1
  show (Lib.itoa n).toArray.size ≤ 21
  simpa using this

end Go.Proofs.YtdklikicngmkbaaGreatDoor
