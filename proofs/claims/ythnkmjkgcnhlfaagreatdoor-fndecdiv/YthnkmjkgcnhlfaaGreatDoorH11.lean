/- The text of a number: spec.l1Dec by a contract. Figures of limbs: plain mathematics. strconv.Itoa by the shelf's contract, in a world whose table lies. A strings.Builder of the call's own, at this program: what each write and the end come to. -/
import Derived.Test.YthnkmjkgcnhlfaaGreatDoorProg
import Derived.Test.YthnkmjkgcnhlfaaGreatDoorH01
import Derived.Lib.ItoaMem
import Derived.Lib.ItoaLen
import Derived.WalkKit
import Derived.WalkSmall
import Derived.WalkLawsBesides
import Derived.Below
import Derived.Deep.QuietTactic
import Derived.BigQuiet
import Derived.Deep.RegionHeld
import Derived.Test.YthnkmjkgcnhlfaaGreatDoorShelf
import Derived.Lib.LaidTab
import Derived.Lib.AppendIntMem
import Derived.Lib.Builder
import Derived.Lib.AppendStr
import Derived.Lib.UnsafeStr
import Derived.Laws.Externs
namespace Go.Proofs.YthnkmjkgcnhlfaaGreatDoor
open Go.RowKit

/-- The text of a number. -/
def itxt (n : Int) : ByteArray := ⟨(Lib.itoa n).toArray⟩
def dtxt (n : Nat) : ByteArray := ⟨(Lib.decDigits n).toArray⟩

theorem convI (W : World) (b v : Nat) (hv : v < 256) (z : Int) (hz : z = v) (hc : W.cell? ⟨b, 0, none⟩ = some (.int .u8 z)) : Sem.run Tryz.prog (convert 22 9 (.slice (some ⟨b, 0, none⟩) 1 1)) W = .ok (.string ⟨#[UInt8.ofNat v]⟩) W := by
  subst hz
  refine run_convert_bytes_back _ 22 9 5 ⟨b, 0, none⟩ 1 [UInt8.ofNat v] Tryz.underlying22 Tryz.underlying5 Tryz.underlying9 (fun j hj => ?_)
  have : j = 0 := by simpa using hj
  subst this
  simp only [Addr.add] at *
  simp [hc]
  omega

theorem dtxt_small {n : Nat} (h : n < 10) : dtxt n = ⟨#[48 + UInt8.ofNat n]⟩ := by
  unfold dtxt; rw [Lib.decDigits_one h]; simp
theorem dtxt_big {n : Nat} (h : ¬ n < 10) : dtxt n = dtxt (n / 10) ++ ⟨#[48 + UInt8.ofNat (n % 10)]⟩ := by
  unfold dtxt
  rw [Lib.decDigits, dif_neg h]
  simp [ByteArray.ext_iff, ByteArray.data_append]
theorem dtxt_size {n : Nat} (h : n ≤ 9223372036854775807) : (dtxt n).size ≤ 21 := by
  have := Lib.itoa_length_le (n : Int) (by omega) (by omega)
  rw [Lib.itoa_nonneg] at this
  show (Lib.decDigits n).toArray.size ≤ 21
  simpa using this

theorem i64_in {x : Int} (h : -9223372036854775808 ≤ x) (k : x ≤ 9223372036854775807) : IntKind.i64.wrap x = x := by
  rw [IntKind.wrap_i64]; omega
theorem u8_in {x : Int} (h : 0 ≤ x) (k : x ≤ 255) : IntKind.u8.wrap x = x := by
  unfold IntKind.wrap; simp [IntKind.bits, IntKind.signed]; omega

set_option maxHeartbeats 1000000 in
theorem l1Dec_nat (n : Nat) : n ≤ 9223372036854775807 → ∀ w : World, Calls Tryz.prog 137 #[.int .i64 n] w fun e w' => e = .returned (.string (dtxt n)) ∧ Below w.heap.size w w' := by
  induction n using Nat.strongRecOn with
  | ind n ih =>
    intro hn w
    have g0 : decide ((n : Int) < -9223372036854775807) = false := decide_eq_false (by omega)
    have g1 : decide ((n : Int) < 0) = false := decide_eq_false (by omega)
    by_cases h : n < 10
    · have g2 : decide ((n : Int) < 10) = true := by simp; omega
      have E := hide (dtxt_small h)
      have hcv := convI (w.alloc (.cells #[.int .u8 (48 + (n : Int))] 5)) w.heap.size (48 + n) (by omega) (48 + (n : Int)) (by omega) (by simp)
      clear ih
      go_enter Tryz.func137, Tryz.ntmps137
      go_wp2
      go_ret
      exact ⟨by rw [unhide E]; rfl, (Below.refl _ _).alloc (Nat.le_refl _) _⟩
    · have g2 : decide ((n : Int) < 10) = false := by simp; omega
      have E := hide (dtxt_big h)
      have C := hide (fun (z : Int) (hz : z = (n / 10 : Nat)) W => (by subst hz; exact ih (n / 10) (by omega) (by omega) W : Calls Tryz.prog 137 #[.int .i64 z] W fun e w' => e = .returned (.string (dtxt (n / 10))) ∧ Below W.heap.size W w'))
      have hcv := fun (W : World) (b : Nat) (h : W.cell? ⟨b, 0, none⟩ = some (.int .u8 (48 + (n : Int) % 10))) => convI W b (48 + n % 10) (by omega) (48 + (n : Int) % 10) (by omega) h
      have hs := dtxt_size (n := n / 10) (by omega)
      clear ih
      go_enter Tryz.func137, Tryz.ntmps137
      go_wp2_with fail
      have hm : (0 : Int) ≤ (n : Int) % 10 ∧ (n : Int) % 10 ≤ 9 := by omega
      obtain ⟨hm1, hm2⟩ := hm
      have w1 : IntKind.i64.wrap ((n : Int) / 10) = (n : Int) / 10 := i64_in (by omega) (by omega)
      have w2 : (n : Int).tmod 10 = (n : Int) % 10 := Int.tmod_eq_emod_of_nonneg (by omega)
      have w3 : IntKind.i64.wrap (48 + (n : Int) % 10) = 48 + (n : Int) % 10 := i64_in (by omega) (by omega)
      have w4 : IntKind.u8.wrap (48 + (n : Int) % 10) = 48 + (n : Int) % 10 := u8_in (by omega) (by omega)
      have hq : (n : Int) / 10 = (n / 10 : Nat) := by omega
      have HQ := hide hq
      have hz : ¬ (9223372036854775807 < (dtxt (n / 10)).size + 1) := by omega
      clear g0 g1 g2 hn h hq
      go_region_with (go_at_call 137; refine (unhide C _ ?_ _).mono ?_; exact unhide HQ; rintro e w1 ⟨rfl, b1⟩; obtain ⟨hc1, hf1⟩ := bcell b1)
      all_goals
        go_wp2
        go_ret
        refine ⟨by rw [unhide E]; rfl, ?_⟩
        first
          | exact ((Below.refl _ _).drew.trans b1).alloc b1.size _
          | exact ((Below.refl _ _).alloc (Nat.le_refl _) _).drew.trans (b1.mono (by simp))

/-- The same at whatever number. -/
theorem l1Dec_any (w : World) (n : Int) (h0 : -9223372036854775807 ≤ n) (h1 : n ≤ 9223372036854775807) :
    Calls Tryz.prog 137 #[.int .i64 n] w fun e w' => e = .returned (.string (itxt n)) ∧ Below w.heap.size w w' := by
  by_cases h : n < 0
  · obtain ⟨k, rfl⟩ : ∃ k : Nat, n = -(k : Int) := ⟨n.natAbs, by omega⟩
    have E := hide (show itxt (-(k : Int)) = ⟨#[45]⟩ ++ dtxt k by unfold itxt dtxt; rw [Lib.itoa_neg k (by omega)]; simp [ByteArray.ext_iff, ByteArray.data_append])
    have C := hide (l1Dec_nat k (by omega))
    have hs := dtxt_size (n := k) (by omega)
    have hz : ¬ (9223372036854775807 < 1 + (dtxt k).size) := by omega
    have g0 : decide (-(k : Int) < -9223372036854775807) = false := decide_eq_false (by omega)
    have g1 : decide (-(k : Int) < 0) = true := decide_eq_true h
    go_enter Tryz.func137, Tryz.ntmps137
    go_wp2_with fail
    refine (unhide C _).mono ?_
    rintro e w1 ⟨rfl, b1⟩
    go_wp2
    go_ret
    exact ⟨by rw [unhide E]; rfl, b1⟩
  · obtain ⟨k, rfl⟩ : ∃ k : Nat, n = (k : Int) := ⟨n.toNat, by omega⟩
    have E : itxt (k : Int) = dtxt k := by unfold itxt dtxt; rw [Lib.itoa_nonneg k]
    rw [E]
    exact l1Dec_nat k (by omega) w

theorem itxt_size {n : Int} (h0 : -9223372036854775808 ≤ n) (h1 : n ≤ 9223372036854775807) : (itxt n).size ≤ 21 := by
  have := Lib.itoa_length_le n h0 h1
  show (Lib.itoa n).toArray.size ≤ 21
  simpa using this

end Go.Proofs.YthnkmjkgcnhlfaaGreatDoor

namespace Go.Proofs.YthnkmjkgcnhlfaaGreatDoor

/-- The four figures of a limb. -/
def limbT (x : Int) : List UInt8 := (Lib.decDigits (10000 + x).toNat).tail
/-- The figures of the limbs from a place on, the highest first. -/
def txtAt (l : List Int) (k : Nat) : List UInt8 := Lib.decDigits (l.getD (l.length - 1) 0).toNat ++ ((l.drop k).reverse.tail).flatMap limbT
/-- The text of limbs. -/
def txtL (l : List Int) : List UInt8 := if l = [] then [48] else txtAt l 0

theorem txtAt_top {l : List Int} (h : 0 < l.length) : txtAt l (l.length - 1) = Lib.decDigits (l.getD (l.length - 1) 0).toNat := by
  unfold txtAt
  have e : (l.drop (l.length - 1)).length = 1 := by rw [List.length_drop]; omega
  obtain ⟨x, hx⟩ := List.length_eq_one_iff.1 e
  rw [hx]
  simp

theorem txtAt_step {l : List Int} {k : Nat} (h : k + 1 < l.length) : txtAt l k = txtAt l (k + 1) ++ limbT l[k] := by
  unfold txtAt
  rw [List.drop_eq_getElem_cons (show k < l.length by omega), List.reverse_cons, List.append_assoc]
  congr 1
  have hne : (l.drop (k + 1)).reverse ≠ [] := by
    intro e
    have := congrArg List.length e
    simp at this
    omega
  rw [List.tail_append_of_ne_nil hne, List.flatMap_append]
  simp

theorem dd4 {u : Nat} (h1 : 10000 ≤ u) (h2 : u < 20000) : Lib.decDigits u = [49, UInt8.ofNat (48 + u / 1000 % 10), UInt8.ofNat (48 + u / 100 % 10), UInt8.ofNat (48 + u / 10 % 10), UInt8.ofNat (48 + u % 10)] := by
  rw [Lib.decDigits, dif_neg (by omega), Lib.decDigits, dif_neg (by omega), Lib.decDigits, dif_neg (by omega), Lib.decDigits, dif_neg (by omega), Lib.decDigits, dif_pos (by omega)]
  rw [show u / 10 / 10 / 10 / 10 = 1 by omega, show u / 10 / 10 / 10 % 10 = u / 1000 % 10 by omega, show u / 10 / 10 % 10 = u / 100 % 10 by omega]
  rfl

theorem limbT_eq {x : Int} (h0 : 0 ≤ x) (h1 : x < 10000) : limbT x = [UInt8.ofNat (48 + x.toNat / 1000 % 10), UInt8.ofNat (48 + x.toNat / 100 % 10), UInt8.ofNat (48 + x.toNat / 10 % 10), UInt8.ofNat (48 + x.toNat % 10)] := by
  unfold limbT
  rw [dd4 (by omega) (by omega), List.tail_cons]
  rw [show (10000 + x).toNat / 1000 % 10 = x.toNat / 1000 % 10 by omega, show (10000 + x).toNat / 100 % 10 = x.toNat / 100 % 10 by omega, show (10000 + x).toNat / 10 % 10 = x.toNat / 10 % 10 by omega, show (10000 + x).toNat % 10 = x.toNat % 10 by omega]

theorem limbT_len {x : Int} (h0 : 0 ≤ x) (h1 : x < 10000) : (limbT x).length = 4 := by rw [limbT_eq h0 h1]; rfl

/-- A number in so many figures at least, noughts ahead. -/
def wideT (n wide : Nat) : List UInt8 := List.replicate (wide - (Lib.decDigits n).length) 48 ++ Lib.decDigits n

theorem dd1 {u : Nat} (h : u < 10) : Lib.decDigits u = [UInt8.ofNat (48 + u)] := by rw [Lib.decDigits, dif_pos h]
theorem dd2 {u : Nat} (h1 : 10 ≤ u) (h2 : u < 100) : Lib.decDigits u = [UInt8.ofNat (48 + u / 10), UInt8.ofNat (48 + u % 10)] := by
  rw [Lib.decDigits, dif_neg (by omega), dd1 (by omega)]; rfl
theorem dd3 {u : Nat} (h1 : 100 ≤ u) (h2 : u < 1000) : Lib.decDigits u = [UInt8.ofNat (48 + u / 100), UInt8.ofNat (48 + u / 10 % 10), UInt8.ofNat (48 + u % 10)] := by
  rw [Lib.decDigits, dif_neg (by omega), dd2 (by omega) (by omega), show u / 10 / 10 = u / 100 by omega]; rfl
theorem dd4' {u : Nat} (h1 : 1000 ≤ u) (h2 : u < 10000) : Lib.decDigits u = [UInt8.ofNat (48 + u / 1000), UInt8.ofNat (48 + u / 100 % 10), UInt8.ofNat (48 + u / 10 % 10), UInt8.ofNat (48 + u % 10)] := by
  rw [Lib.decDigits, dif_neg (by omega), dd3 (by omega) (by omega), show u / 10 / 100 = u / 1000 by omega, show u / 10 / 10 % 10 = u / 100 % 10 by omega]; rfl

theorem wide_limb {x : Int} (h0 : 0 ≤ x) (h1 : x < 10000) : wideT x.toNat 4 = limbT x := by
  rw [limbT_eq h0 h1]
  unfold wideT
  have hu : x.toNat < 10000 := by omega
  generalize x.toNat = u at *
  by_cases a : u < 10
  · rw [dd1 a, show u / 1000 % 10 = 0 by omega, show u / 100 % 10 = 0 by omega, show u / 10 % 10 = 0 by omega, show u % 10 = u by omega]; rfl
  by_cases b : u < 100
  · rw [dd2 (by omega) b, show u / 1000 % 10 = 0 by omega, show u / 100 % 10 = 0 by omega, show u / 10 % 10 = u / 10 by omega]; rfl
  by_cases c : u < 1000
  · rw [dd3 (by omega) c, show u / 1000 % 10 = 0 by omega, show u / 100 % 10 = u / 100 by omega]; rfl
  · rw [dd4' (by omega) hu, show u / 1000 % 10 = u / 1000 by omega]; rfl

theorem dd_len_le {u : Nat} (h : u < 10000) : 1 ≤ (Lib.decDigits u).length ∧ (Lib.decDigits u).length ≤ 4 := by
  by_cases a : u < 10
  · rw [dd1 a]; simp
  by_cases b : u < 100
  · rw [dd2 (by omega) b]; simp
  by_cases c : u < 1000
  · rw [dd3 (by omega) c]; simp
  · rw [dd4' (by omega) h]; simp

theorem flat_len (l : List Int) (h : ∀ x ∈ l, 0 ≤ x ∧ x < 10000) : (l.flatMap limbT).length = 4 * l.length := by
  induction l with
  | nil => rfl
  | cons x r ih =>
    rw [List.flatMap_cons, List.length_append, limbT_len (h x List.mem_cons_self).1 (h x List.mem_cons_self).2, ih (fun y hy => h y (List.mem_cons_of_mem _ hy)), List.length_cons]
    omega

theorem txtAt_len {l : List Int} (hl : Lim l) (k : Nat) (h : k < l.length) : (txtAt l k).length ≤ 4 * (l.length - k) ∧ 1 ≤ (txtAt l k).length := by
  have t := hl.getD (l.length - 1)
  have d := dd_len_le (u := (l.getD (l.length - 1) 0).toNat) (by omega)
  unfold txtAt
  rw [List.length_append, flat_len _ (fun x hx => hl x (List.mem_of_mem_drop (List.mem_reverse.1 (List.mem_of_mem_tail hx)))), List.length_tail, List.length_reverse, List.length_drop]
  omega

end Go.Proofs.YthnkmjkgcnhlfaaGreatDoor

namespace Go.Proofs.YthnkmjkgcnhlfaaGreatDoor
open Go.RowKit

/-- The table that strconv reads. -/
def Tab (w : World) : Prop := Lib.TabIs Tryz.prog w "internal/strconv.uint64pow10" .u64 Lib.pow10Tab

theorem Tab.later {w w' : World} (h : Tab w) (b : Below w.heap.size w w') : Tab w' := Lib.tabBelow_of_tabIs h w' b

theorem itoa_any (w : World) (n : Int) (h0 : -9223372036854775808 ≤ n) (h1 : n ≤ 9223372036854775807) (ht : Tab w) :
    Calls Tryz.prog 120 #[.int .i64 n] w fun e w' => e = .returned (.string (itxt n)) ∧ Below w.heap.size w w' := by
  refine (Tryz.strconv_Itoa n h0 h1 w ht).mono ?_
  rintro e w' ⟨rfl, k, os, rfl⟩
  exact ⟨rfl, Lib.below_grow _ _ (Nat.le_refl _) _ _⟩

end Go.Proofs.YthnkmjkgcnhlfaaGreatDoor

namespace Go.Proofs.YthnkmjkgcnhlfaaGreatDoor
open Go.RowKit

theorem sizeBld : (Tryz.prog.info? 126).map (·.size) = some 2 := by kernel_rfl
theorem liesBld : liesAt Tryz.prog Tryz.prog.depth 126 (2 / Tryz.prog.cellsOf 126) 0 126 1 = true := by kernel_rfl
theorem infoU8 : (Tryz.prog.info? 5).map (fun i => (i.zero, i.size, i.bytes)) = some (some (.int .u8 0), 1, 1) := by kernel_rfl

set_option maxRecDepth 100000 in
theorem checkUsed (b : Nat) (w : World) (h0 : w.cell? ⟨b, 0, none⟩ = some (.pointer (some ⟨b, 0, none⟩))) :
    Calls Tryz.prog 139 #[.pointer (some ⟨b, 0, none⟩)] w fun e w' => e = .returned (.tuple #[]) ∧ w' = w := by
  obtain ⟨j, hj, _⟩ := Option.map_eq_some_iff.1 sizeBld
  go_enter Tryz.func139, Tryz.ntmps139
  go_wp2
  rw [Lib.run_neq_ptr_same w _ Tryz.underlying124 hj]
  go_wp2
  go_end0
  exact ⟨rfl, rfl⟩

set_option maxRecDepth 100000 in
theorem checkFresh (b : Nat) (w : World) (h0 : w.cell? ⟨b, 0, none⟩ = some (.pointer none)) (hsh : w.shape? b = some (126, 2)) (hfz : w.frozen? ⟨b, 0, none⟩ = false) :
    Calls Tryz.prog 139 #[.pointer (some ⟨b, 0, none⟩)] w fun e w' => e = .returned (.tuple #[]) ∧ w' = w.setCell ⟨b, 0, none⟩ (.pointer (some ⟨b, 0, none⟩)) := by
  obtain ⟨j, hj, hjs⟩ := Option.map_eq_some_iff.1 sizeBld
  go_enter Tryz.func139, Tryz.ntmps139
  go_wp2
  rw [Lib.run_to_unsafe w ⟨b, 0, none⟩ Tryz.underlying124 Tryz.underlying109 hj (by rw [hjs]; decide) hsh (Nat.zero_lt_succ 1)]
  simp only [Result.andThen]
  rw [Oper.upon_value]
  go_wp2
  rw [run_callFunc_extern Tryz.func142 (by kernel_rfl) (by kernel_rfl) (by kernel_rfl) (e := Extern.AbiNoEscape.same) (by kernel_rfl)]
  rw [Lib.run_noEscape]
  simp only [Result.andThen]
  rw [Oper.upon_value]
  go_wp2
  rw [Lib.run_from_unsafe w ⟨b, 0, none⟩ Tryz.underlying109 Tryz.underlying124 hj hsh liesBld]
  simp only [Result.andThen]
  rw [Oper.upon_value]
  go_wp2
  go_end0
  exact ⟨rfl, rfl⟩

theorem check_any (B b : Nat) (bs : List Value) (w : World) (h : Lib.IsBuilder 126 5 B b bs w) :
    Calls Tryz.prog 139 #[.pointer (some ⟨b, 0, none⟩)] w fun e w' => e = .returned (.tuple #[]) ∧ (Lib.BuilderAt 126 5 B b (.pointer (some ⟨b, 0, none⟩)) bs w' ∧ Below B w w') := by
  rcases h with h | h
  · refine (checkFresh b w h.cell0 h.shape h.frozen0).mono ?_
    rintro e w' ⟨rfl, rfl⟩
    exact ⟨rfl, h.used _, (Below.refl B w).setCell (p := ⟨b, 0, none⟩) h.1 _⟩
  · refine (checkUsed b w h.cell0).mono ?_
    rintro e w' ⟨rfl, rfl⟩
    exact ⟨rfl, h, Below.refl B _⟩

theorem neBU : (126 : TypeId) ≠ 5 := by decide

set_option maxHeartbeats 2000000 in
set_option maxRecDepth 100000 in
theorem writeString_any (B b : Nat) (bs : List Value) (s : ByteArray) (w : World) (h : Lib.IsBuilder 126 5 B b bs w) (hlen : bs.length + s.size ≤ 140737488355328) (hBw : B ≤ w.heap.size) :
    Calls Tryz.prog 119 #[.pointer (some ⟨b, 0, none⟩), .string s] w fun e w' => e = .returned (.tuple #[.int .i64 s.size, .nilIface]) ∧ (Lib.IsBuilder 126 5 B b (bs ++ Lib.strCells s) w' ∧ Below B w w') := by
  obtain ⟨i0, hi, hz0, hz1, hz2⟩ := info_parts infoU8
  have C := hide (check_any B b bs w h)
  clear h
  go_enter Tryz.func119, Tryz.ntmps119
  go_wp2_with fail
  refine (unhide C).mono ?_
  rintro e w1 ⟨rfl, h1, hb1⟩
  obtain ⟨hB, v, hbk, hown, hne⟩ := h1
  have c0 : w1.cell? ⟨b, 0, none⟩ = some (.pointer (some ⟨b, 0, none⟩)) := by rw [Lib.cell_of_heap hbk]; rfl
  have c1 : w1.cell? ⟨b, 1, none⟩ = some v := by rw [Lib.cell_of_heap hbk]; rfl
  go_wp2_with (at_builtin; refine Lib.wpList_append_own_string _ rfl _ _ 22 9 rfl B 5 i0 Tryz.underlying22 Tryz.underlying9 hi hz0 hz1 hz2 _ _ _ rfl hown s rfl ?c3 ?c4 ?c5 ?_)
  case c3 => unfold maxLen; omega
  case c4 => omega
  case c5 => have := hb1.size; omega
  intro v' w2 hown' hgrow _
  have hlt : b < w1.heap.size := by
    rcases Nat.lt_or_ge b w1.heap.size with h' | h'
    · exact h'
    · simp [Array.getElem?_eq_none h'] at hbk
  have hb2 : w2.heap[b]? = some (.cells #[.pointer (some ⟨b, 0, none⟩), v] 126 (0, 0)) := by
    rw [hgrow.block b hlt (fun e => hne e.symm)]
    exact hbk
  have d0 : w2.cell? ⟨b, 0, none⟩ = some (.pointer (some ⟨b, 0, none⟩)) := by rw [Lib.cell_of_heap hb2]; rfl
  have d1 : w2.cell? ⟨b, 1, none⟩ = some v := by rw [Lib.cell_of_heap hb2]; rfl
  have f1 : w2.frozen? ⟨b, 1, none⟩ = false := Lib.frozen_of_heap hb2 1
  obtain ⟨ao, n', cap, rfl⟩ : ∃ ao n' cap, v' = .slice ao n' cap := by
    rcases hown'.2 with ⟨hv, _⟩ | ⟨g, cap, cur, hv, _⟩
    · exact ⟨_, _, _, hv⟩
    · exact ⟨_, _, _, hv⟩
  go_wp2
  go_ret2
  refine ⟨rfl, .inr ?_, ?_⟩
  · exact Lib.BuilderAt.put (T := 126) (e := 5) hB hb2 (bs' := bs ++ Lib.strCells s) (by simpa [Lib.strCells_length] using hown') neBU
  · exact (hb1.grown hgrow (by have := hb1.size; omega) (fun k hk => (hown.lt k hk).1)).setCell (p := ⟨b, 1, none⟩) hB _

/-- The same in bytes. -/
theorem writeBytes_any (B b : Nat) (l : List UInt8) (s : ByteArray) (w : World) (h : Lib.IsBuilder 126 5 B b (Lib.byteCells l) w) (hlen : l.length + s.size ≤ 140737488355328) (hBw : B ≤ w.heap.size) :
    Calls Tryz.prog 119 #[.pointer (some ⟨b, 0, none⟩), .string s] w fun e w' => e = .returned (.tuple #[.int .i64 s.size, .nilIface]) ∧ (Lib.IsBuilder 126 5 B b (Lib.byteCells (l ++ s.data.toList)) w' ∧ Below B w w') := by
  refine (writeString_any B b (Lib.byteCells l) s w h (by simpa [Lib.byteCells] using hlen) hBw).mono ?_
  rintro e w' ⟨rfl, h1, h2⟩
  refine ⟨rfl, ?_, h2⟩
  rw [Lib.byteCells_append]
  exact h1

theorem row_later {B : Nat} {e : TypeId} {k : Nat} {v : Value} {n : Nat} {xs : List Value} {w w' : World} (h : w.ownsRow B e k v n xs) (hb : Below w.heap.size w w') : w'.ownsRow B e k v n xs := by
  obtain ⟨h1, h2⟩ := h
  refine ⟨h1, ?_⟩
  rcases h2 with h2 | ⟨g, cap, cur, rfl, hB, hg, hr⟩
  · exact .inl h2
  · exact .inr ⟨g, cap, cur, rfl, hB, by rw [hb.block g (Array.getElem?_eq_some_iff.1 hg).1]; exact hg, hr⟩

theorem bldAt_later {T e : TypeId} {B b : Nat} {p : Value} {bs : List Value} {w w' : World} (h : Lib.BuilderAt T e B b p bs w) (k : Below w.heap.size w w') : Lib.BuilderAt T e B b p bs w' := by
  obtain ⟨hB, v, hb, hown, hne⟩ := h
  exact ⟨hB, v, (k.block b (Array.getElem?_eq_some_iff.1 hb).1).trans hb, row_later hown k, hne⟩

theorem bld_later {T e : TypeId} {B b : Nat} {bs : List Value} {w w' : World} (h : Lib.IsBuilder T e B b bs w) (k : Below w.heap.size w w') : Lib.IsBuilder T e B b bs w' := by
  rcases h with h | h
  · exact .inl (bldAt_later h k)
  · exact .inr (bldAt_later h k)

end Go.Proofs.YthnkmjkgcnhlfaaGreatDoor
