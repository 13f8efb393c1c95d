/- Figures of limbs: plain mathematics. strconv.Itoa by the shelf's contract, in a world whose table lies. A strings.Builder of the call's own, at this program: what each write and the end come to. The text of limbs: (limbs).text of the program. -/
import Derived.Test.YtdklikicngmkbaaGreatDoorG05
import Derived.Test.YtdklikicngmkbaaGreatDoorShelf
import Derived.Lib.LaidTab
import Derived.Lib.AppendIntMem
import Derived.Lib.Builder
import Derived.Lib.AppendStr
import Derived.Lib.UnsafeStr
import Derived.Laws.Externs
import Derived.Deep.RegionHeld3
namespace Go.Proofs.YtdklikicngmkbaaGreatDoor

/-- The four figures of a limb. -/
def limbT (x : Int) : List UInt8 := (Lib.decDigits (10000 + x).toNat).tail
/-- The figures of the limbs from a place on, the highest first. -/
def txtAt (l : List Int) (k : Nat) : List UInt8 := Lib.decDigits (l.getD (l.length - 1) 0).toNat ++ ((l.drop k).reverse.tail).flatMap limbT
/-- The text of limbs. -/
def txtL (l : List Int) : List UInt8 := if l = [] then [48] else txtAt l 0

theorem txtAt_top {l : List Int} (h : 0 < l.length) : txtAt l (l.length - 1) = Lib.decDigits (l.getD (l.length - 1) 0).toNat := by
  unfold txtAt
  have e : (l.drop (l.length - 1)).length = 1 := by rw [List.length_drop]; omega
  obtain ⟨x, hx⟩ := List.length_eq_one_iff.1 e
  rw [hx]
  simp

theorem txtAt_step {l : List Int} {k : Nat} (h : k + 1 < l.length) : txtAt l k = txtAt l (k + 1) ++ limbT l[k] := by
  unfold txtAt
  rw [List.drop_eq_getElem_cons (show k < l.length by omega), List.reverse_cons, List.append_assoc]
  congr 1
  have hne : (l.drop (k + 1)).reverse ≠ [] := by
    intro e
    have := congrArg List.length e
    simp at this
    omega
  rw [List.tail_append_of_ne_nil hne, List.flatMap_append]
  simp

theorem dd4 {u : Nat} (h1 : 10000 ≤ u) (h2 : u < 20000) : Lib.decDigits u = [49, UInt8.ofNat (48 + u / 1000 % 10), UInt8.ofNat (48 + u / 100 % 10), UInt8.ofNat (48 + u / 10 % 10), UInt8.ofNat (48 + u % 10)] := by
  rw [Lib.decDigits, dif_neg (by omega), Lib.decDigits, dif_neg (by omega), Lib.decDigits, dif_neg (by omega), Lib.decDigits, dif_neg (by omega), Lib.decDigits, dif_pos (by omega)]
  rw [show u / 10 / 10 / 10 / 10 = 1 by omega, show u / 10 / 10 / 10 % 10 = u / 1000 % 10 by omega, show u / 10 / 10 % 10 = u / 100 % 10 by omega]
  rfl

theorem limbT_eq {x : Int} (h0 : 0 ≤ x) (h1 : x < 10000) : limbT x = [UInt8.ofNat (48 + x.toNat / 1000 % 10), UInt8.ofNat (48 + x.toNat / 100 % 10), UInt8.ofNat (48 + x.toNat / 10 % 10), UInt8.ofNat (48 + x.toNat % 10)] := by
  unfold limbT
  rw [dd4 (by omega) (by omega), List.tail_cons]
  rw [show (10000 + x).toNat / 1000 % 10 = x.toNat / 1000 % 10 by omega, show (10000 + x).toNat / 100 % 10 = x.toNat / 100 % 10 by omega, show (10000 + x).toNat / 10 % 10 = x.toNat / 10 % 10 by omega, show (10000 + x).toNat % 10 = x.toNat % 10 by omega]

theorem limbT_len {x : Int} (h0 : 0 ≤ x) (h1 : x < 10000) : (limbT x).length = 4 := by rw [limbT_eq h0 h1]; rfl

/-- A number in so many figures at least, noughts ahead. -/
def wideT (n wide : Nat) : List UInt8 := List.replicate (wide - (Lib.decDigits n).length) 48 ++ Lib.decDigits n

theorem dd1 {u : Nat} (h : u < 10) : Lib.decDigits u = [UInt8.ofNat (48 + u)] := by rw [Lib.decDigits, dif_pos h]
theorem dd2 {u : Nat} (h1 : 10 ≤ u) (h2 : u < 100) : Lib.decDigits u = [UInt8.ofNat (48 + u / 10), UInt8.ofNat (48 + u % 10)] := by
  rw [Lib.decDigits, dif_neg (by omega), dd1 (by omega)]; rfl
theorem dd3 {u : Nat} (h1 : 100 ≤ u) (h2 : u < 1000) : Lib.decDigits u = [UInt8.ofNat (48 + u / 100), UInt8.ofNat (48 + u / 10 % 10), UInt8.ofNat (48 + u % 10)] := by
  rw [Lib.decDigits, dif_neg (by omega), dd2 (by omega) (by omega), show u / 10 / 10 = u / 100 by omega]; rfl
theorem dd4' {u : Nat} (h1 : 1000 ≤ u) (h2 : u < 10000) : Lib.decDigits u = [UInt8.ofNat (48 + u / 1000), UInt8.ofNat (48 + u / 100 % 10), UInt8.ofNat (48 + u / 10 % 10), UInt8.ofNat (48 + u % 10)] := by
  rw [Lib.decDigits, dif_neg (by omega), dd3 (by omega) (by omega), show u / 10 / 100 = u / 1000 by omega, show u / 10 / 10 % 10 = u / 100 % 10 by omega]; rfl

theorem wide_limb {x : Int} (h0 : 0 ≤ x) (h1 : x < 10000) : wideT x.toNat 4 = limbT x := by
  rw [limbT_eq h0 h1]
  unfold wideT
  have hu : x.toNat < 10000 := by omega
  generalize x.toNat = u at *
  by_cases a : u < 10
  · rw [dd1 a, show u / 1000 % 10 = 0 by omega, show u / 100 % 10 = 0 by omega, show u / 10 % 10 = 0 by omega, show u % 10 = u by omega]; rfl
  by_cases b : u < 100
  · rw [dd2 (by omega) b, show u / 1000 % 10 = 0 by omega, show u / 100 % 10 = 0 by omega, show u / 10 % 10 = u / 10 by omega]; rfl
  by_cases c : u < 1000
  · rw [dd3 (by omega) c, show u / 1000 % 10 = 0 by omega, show u / 100 % 10 = u / 100 by omega]; rfl
  · rw [dd4' (by omega) hu, show u / 1000 % 10 = u / 1000 by omega]; rfl

theorem dd_len_le {u : Nat} (h : u < 10000) : 1 ≤ (Lib.decDigits u).length ∧ (Lib.decDigits u).length ≤ 4 := by
  by_cases a : u < 10
  · rw [dd1 a]; simp
  by_cases b : u < 100
  · rw [dd2 (by omega) b]; simp
  by_cases c : u < 1000
  · rw [dd3 (by omega) c]; simp
  · rw [dd4' (by omega) h]; simp

theorem flat_len (l : List Int) (h : ∀ x ∈ l, 0 ≤ x ∧ x < 10000) : (l.flatMap limbT).length = 4 * l.length := by
  induction l with
  | nil => rfl
  | cons x r ih =>
    rw [List.flatMap_cons, List.length_append, limbT_len (h x List.mem_cons_self).1 (h x List.mem_cons_self).2, ih (fun y hy => h y (List.mem_cons_of_mem _ hy)), List.length_cons]
    omega

theorem txtAt_len {l : List Int} (hl : Lim l) (k : Nat) (h : k < l.length) : (txtAt l k).length ≤ 4 * (l.length - k) ∧ 1 ≤ (txtAt l k).length := by
  have t := hl.getD (l.length - 1)
  have d := dd_len_le (u := (l.getD (l.length - 1) 0).toNat) (by omega)
  unfold txtAt
  rw [List.length_append, flat_len _ (fun x hx => hl x (List.mem_of_mem_drop (List.mem_reverse.1 (List.mem_of_mem_tail hx)))), List.length_tail, List.length_reverse, List.length_drop]
  omega

end Go.Proofs.YtdklikicngmkbaaGreatDoor

namespace Go.Proofs.YtdklikicngmkbaaGreatDoor
open Go.RowKit

/-- The table that strconv reads. -/
def Tab (w : World) : Prop := Lib.TabIs Tryz.prog w "internal/strconv.uint64pow10" .u64 Lib.pow10Tab

theorem Tab.later {w w' : World} (h : Tab w) (b : Below w.heap.size w w') : Tab w' := Lib.tabBelow_of_tabIs h w' b

theorem itoa_any (w : World) (n : Int) (h0 : -9223372036854775808 ≤ n) (h1 : n ≤ 9223372036854775807) (ht : Tab w) :
    Calls Tryz.prog 172 #[.int .i64 n] w fun e w' => e = .returned (.string (itxt n)) ∧ Below w.heap.size w w' := by
  refine (Tryz.strconv_Itoa n h0 h1 w ht).mono ?_
  rintro e w' ⟨rfl, k, os, rfl⟩
  exact ⟨rfl, Lib.below_grow _ _ (Nat.le_refl _) _ _⟩

end Go.Proofs.YtdklikicngmkbaaGreatDoor

namespace Go.Proofs.YtdklikicngmkbaaGreatDoor
open Go.RowKit

theorem sizeBld : (Tryz.prog.info? 161).map (·.size) = some 2 := by kernel_rfl
theorem liesBld : liesAt Tryz.prog Tryz.prog.depth 161 (2 / Tryz.prog.cellsOf 161) 0 161 1 = true := by kernel_rfl
theorem infoU8 : (Tryz.prog.info? 5).map (fun i => (i.zero, i.size, i.bytes)) = some (some (.int .u8 0), 1, 1) := by kernel_rfl

set_option maxRecDepth 100000 in
theorem checkUsed (b : Nat) (w : World) (h0 : w.cell? ⟨b, 0, none⟩ = some (.pointer (some ⟨b, 0, none⟩))) :
    Calls Tryz.prog 191 #[.pointer (some ⟨b, 0, none⟩)] w fun e w' => e = .returned (.tuple #[]) ∧ w' = w := by
  obtain ⟨j, hj, _⟩ := Option.map_eq_some_iff.1 sizeBld
  go_enter Tryz.func191, Tryz.ntmps191
  go_wp2
  rw [Lib.run_neq_ptr_same w _ Tryz.underlying159 hj]
  go_wp2
  go_end0
  exact ⟨rfl, rfl⟩

set_option maxRecDepth 100000 in
theorem checkFresh (b : Nat) (w : World) (h0 : w.cell? ⟨b, 0, none⟩ = some (.pointer none)) (hsh : w.shape? b = some (161, 2)) (hfz : w.frozen? ⟨b, 0, none⟩ = false) :
    Calls Tryz.prog 191 #[.pointer (some ⟨b, 0, none⟩)] w fun e w' => e = .returned (.tuple #[]) ∧ w' = w.setCell ⟨b, 0, none⟩ (.pointer (some ⟨b, 0, none⟩)) := by
  obtain ⟨j, hj, hjs⟩ := Option.map_eq_some_iff.1 sizeBld
  go_enter Tryz.func191, Tryz.ntmps191
  go_wp2
  rw [Lib.run_to_unsafe w ⟨b, 0, none⟩ Tryz.underlying159 Tryz.underlying198 hj (by rw [hjs]; decide) hsh (Nat.zero_lt_succ 1)]
  simp only [Result.andThen]
  rw [Oper.upon_value]
  go_wp2
  rw [run_callFunc_extern Tryz.func213 (by kernel_rfl) (by kernel_rfl) (by kernel_rfl) (e := Extern.AbiNoEscape.same) (by kernel_rfl)]
  rw [Lib.run_noEscape]
  simp only [Result.andThen]
  rw [Oper.upon_value]
  go_wp2
  rw [Lib.run_from_unsafe w ⟨b, 0, none⟩ Tryz.underlying198 Tryz.underlying159 hj hsh liesBld]
  simp only [Result.andThen]
  rw [Oper.upon_value]
  go_wp2
  go_end0
  exact ⟨rfl, rfl⟩

theorem check_any (B b : Nat) (bs : List Value) (w : World) (h : Lib.IsBuilder 161 5 B b bs w) :
    Calls Tryz.prog 191 #[.pointer (some ⟨b, 0, none⟩)] w fun e w' => e = .returned (.tuple #[]) ∧ (Lib.BuilderAt 161 5 B b (.pointer (some ⟨b, 0, none⟩)) bs w' ∧ Below B w w') := by
  rcases h with h | h
  · refine (checkFresh b w h.cell0 h.shape h.frozen0).mono ?_
    rintro e w' ⟨rfl, rfl⟩
    exact ⟨rfl, h.used _, (Below.refl B w).setCell (p := ⟨b, 0, none⟩) h.1 _⟩
  · refine (checkUsed b w h.cell0).mono ?_
    rintro e w' ⟨rfl, rfl⟩
    exact ⟨rfl, h, Below.refl B _⟩

theorem neBU : (161 : TypeId) ≠ 5 := by decide

set_option maxHeartbeats 2000000 in
set_option maxRecDepth 100000 in
theorem writeString_any (B b : Nat) (bs : List Value) (s : ByteArray) (w : World) (h : Lib.IsBuilder 161 5 B b bs w) (hlen : bs.length + s.size ≤ 140737488355328) (hBw : B ≤ w.heap.size) :
    Calls Tryz.prog 157 #[.pointer (some ⟨b, 0, none⟩), .string s] w fun e w' => e = .returned (.tuple #[.int .i64 s.size, .nilIface]) ∧ (Lib.IsBuilder 161 5 B b (bs ++ Lib.strCells s) w' ∧ Below B w w') := by
  obtain ⟨i0, hi, hz0, hz1, hz2⟩ := info_parts infoU8
  have C := hide (check_any B b bs w h)
  clear h
  go_enter Tryz.func157, Tryz.ntmps157
  go_wp2_with fail
  refine (unhide C).mono ?_
  rintro e w1 ⟨rfl, h1, hb1⟩
  obtain ⟨hB, v, hbk, hown, hne⟩ := h1
  have c0 : w1.cell? ⟨b, 0, none⟩ = some (.pointer (some ⟨b, 0, none⟩)) := by rw [Lib.cell_of_heap hbk]; rfl
  have c1 : w1.cell? ⟨b, 1, none⟩ = some v := by rw [Lib.cell_of_heap hbk]; rfl
  go_wp2_with (at_builtin; refine Lib.wpList_append_own_string _ rfl _ _ 22 9 rfl B 5 i0 Tryz.underlying22 Tryz.underlying9 hi hz0 hz1 hz2 _ _ _ rfl hown s rfl ?c3 ?c4 ?c5 ?_)
  case c3 => unfold maxLen; omega
  case c4 => omega
  case c5 => have := hb1.size; omega
  intro v' w2 hown' hgrow _
  have hlt : b < w1.heap.size := by
    rcases Nat.lt_or_ge b w1.heap.size with h' | h'
    · exact h'
    · simp [Array.getElem?_eq_none h'] at hbk
  have hb2 : w2.heap[b]? = some (.cells #[.pointer (some ⟨b, 0, none⟩), v] 161 (0, 0)) := by
    rw [hgrow.block b hlt (fun e => hne e.symm)]
    exact hbk
  have d0 : w2.cell? ⟨b, 0, none⟩ = some (.pointer (some ⟨b, 0, none⟩)) := by rw [Lib.cell_of_heap hb2]; rfl
  have d1 : w2.cell? ⟨b, 1, none⟩ = some v := by rw [Lib.cell_of_heap hb2]; rfl
  have f1 : w2.frozen? ⟨b, 1, none⟩ = false := Lib.frozen_of_heap hb2 1
  obtain ⟨ao, n', cap, rfl⟩ : ∃ ao n' cap, v' = .slice ao n' cap := by
    rcases hown'.2 with ⟨hv, _⟩ | ⟨g, cap, cur, hv, _⟩
    · exact ⟨_, _, _, hv⟩
    · exact ⟨_, _, _, hv⟩
  go_wp2
  go_ret2
  refine ⟨rfl, .inr ?_, ?_⟩
  · exact Lib.BuilderAt.put (T := 161) (e := 5) hB hb2 (bs' := bs ++ Lib.strCells s) (by simpa [Lib.strCells_length] using hown') neBU
  · exact (hb1.grown hgrow (by have := hb1.size; omega) (fun k hk => (hown.lt k hk).1)).setCell (p := ⟨b, 1, none⟩) hB _

/-- The same in bytes. -/
theorem writeBytes_any (B b : Nat) (l : List UInt8) (s : ByteArray) (w : World) (h : Lib.IsBuilder 161 5 B b (Lib.byteCells l) w) (hlen : l.length + s.size ≤ 140737488355328) (hBw : B ≤ w.heap.size) :
    Calls Tryz.prog 157 #[.pointer (some ⟨b, 0, none⟩), .string s] w fun e w' => e = .returned (.tuple #[.int .i64 s.size, .nilIface]) ∧ (Lib.IsBuilder 161 5 B b (Lib.byteCells (l ++ s.data.toList)) w' ∧ Below B w w') := by
  refine (writeString_any B b (Lib.byteCells l) s w h (by simpa [Lib.byteCells] using hlen) hBw).mono ?_
  rintro e w' ⟨rfl, h1, h2⟩
  refine ⟨rfl, ?_, h2⟩
  rw [Lib.byteCells_append]
  exact h1

theorem row_later {B : Nat} {e : TypeId} {k : Nat} {v : Value} {n : Nat} {xs : List Value} {w w' : World} (h : w.ownsRow B e k v n xs) (hb : Below w.heap.size w w') : w'.ownsRow B e k v n xs := by
  obtain ⟨h1, h2⟩ := h
  refine ⟨h1, ?_⟩
  rcases h2 with h2 | ⟨g, cap, cur, rfl, hB, hg, hr⟩
  · exact .inl h2
  · exact .inr ⟨g, cap, cur, rfl, hB, by rw [hb.block g (Array.getElem?_eq_some_iff.1 hg).1]; exact hg, hr⟩

theorem bldAt_later {T e : TypeId} {B b : Nat} {p : Value} {bs : List Value} {w w' : World} (h : Lib.BuilderAt T e B b p bs w) (k : Below w.heap.size w w') : Lib.BuilderAt T e B b p bs w' := by
  obtain ⟨hB, v, hb, hown, hne⟩ := h
  exact ⟨hB, v, (k.block b (Array.getElem?_eq_some_iff.1 hb).1).trans hb, row_later hown k, hne⟩

theorem bld_later {T e : TypeId} {B b : Nat} {bs : List Value} {w w' : World} (h : Lib.IsBuilder T e B b bs w) (k : Below w.heap.size w w') : Lib.IsBuilder T e B b bs w' := by
  rcases h with h | h
  · exact .inl (bldAt_later h k)
  · exact .inr (bldAt_later h k)

end Go.Proofs.YtdklikicngmkbaaGreatDoor

namespace Go.Proofs.YtdklikicngmkbaaGreatDoor
open Go.RowKit

theorem itxt_nat {x : Int} (h : 0 ≤ x) : (itxt x).data.toList = Lib.decDigits x.toNat := by
  obtain ⟨n, rfl⟩ : ∃ n : Nat, x = n := ⟨x.toNat, by omega⟩
  unfold itxt
  rw [Lib.itoa_nonneg]
  simp

theorem extract_tail (t : ByteArray) : (t.extract 1 t.size).data.toList = t.data.toList.tail := by
  rw [ByteArray.data_extract, Array.toList_extract]
  unfold List.extract
  rw [List.drop_one, List.take_of_length_le (by rw [List.length_tail, Array.length_toList]; exact Nat.le_refl _)]

set_option maxHeartbeats 2000000 in
set_option maxRecDepth 100000 in
theorem implText_any (w : World) (v : Value) (l : List Int) (hr : Reads w v l) (hl : Lim l) (hn : l.length ≤ 1000) (ht : Tab w) :
    Calls Tryz.prog 140 #[v] w fun e w' => e = .returned (.string ⟨(txtL l).toArray⟩) ∧ Below w.heap.size w w' := by
  obtain ⟨ao, b, off, cap, rfl, hr⟩ := hr
  have h1 := hr.le
  have h2 := hr.big
  unfold maxLen at h2
  by_cases h0 : l.length = 0
  · have e : l = [] := List.length_eq_zero_iff.1 h0
    subst e
    clear hr
    go_enter Tryz.func140, Tryz.ntmps140
    go_wp2
    go_ret
    exact ⟨rfl, Below.refl _ _⟩
  · obtain rfl : ao = some ⟨b, off, none⟩ := hr.at_ (by omega)
    have e0 : ((l.length : Int) == 0) = false := by rw [beq_eq_false_iff_ne]; omega
    have HR := hide hr
    have top := hl.getD (l.length - 1)
    have I0 := Lib.fresh_isBuilder 161 5 w
    have B0 : Below w.heap.size w (w.alloc (.cells #[.pointer none, .slice none 0 0] 161)) := (Below.refl _ _).alloc (Nat.le_refl _) _
    have T0 := ht.later B0
    have ctop := (hr.later B0).cell (l.length - 1) (by omega)
    have htop : l[l.length - 1] = l.getD (l.length - 1) 0 := by simp [List.getD_eq_getElem?_getD, List.getElem?_eq_getElem (show l.length - 1 < l.length by omega)]
    rw [htop] at ctop
    clear htop hr
    have E1 := hide ((itxt_nat top.1).trans (txtAt_top (l := l) (by omega)).symm)
    generalize l.getD (l.length - 1) 0 = x at *
    have C1 := hide (fun W (t : Tab W) => itoa_any W x (by omega) (by omega) t)
    have S1 := itxt_size (n := x) (by omega) (by omega)
    go_enter Tryz.func140, Tryz.ntmps140
    go_wp2_with fail
    refine (unhide C1 _ T0).mono ?_
    rintro e w1 ⟨rfl, b1⟩
    have I1 := bld_later I0 b1
    have B1 := B0.trans (b1.mono B0.size)
    clear I0 b1 C1 T0 ctop B0
    go_wp2_with fail
    refine (writeBytes_any _ _ [] _ _ I1 (by simp only [List.length_nil]; omega) B1.size).mono ?_
    rintro e w2 ⟨rfl, I2, b2⟩
    have B2 := B1.trans b2
    rw [List.nil_append, unhide E1] at I2
    have HI := hide I2
    clear I1 b2 B1 I2
    go_wp2
    go_loopw [4] (fun i wr => ∃ k : Nat, k < l.length ∧ i = .int .i64 ((k : Int) - 1) ∧ Lib.IsBuilder 161 5 w.heap.size w.heap.size (Lib.byteCells (txtAt l k)) wr ∧ Below w.heap.size w wr) (fun i _ => (intOf i + 1).toNat)
    case atStart => exact ⟨l.length - 1, by omega, by go_num, unhide HI, B2⟩
    case round =>
      obtain ⟨k, hk, rfl, I3, B3⟩ := hrel
      clear HI B2 S1 E1 top
      have HI3 := hide I3
      clear I3
      by_cases hz : k = 0
      · subst hz
        have E0 := hide (show txtL l = txtAt l 0 from if_neg (fun e => h0 (by rw [e]; rfl)))
        go_wp2_with fail
        refine (Tryz.Builder_String_any _ _ _ _ (unhide HI3) B3.size).mono ?_
        rintro e w3 ⟨rfl, b3⟩
        go_wp2
        go_ret
        exact ⟨by rw [unhide E0]; rfl, B3.trans b3⟩
      · obtain ⟨j, rfl⟩ : ∃ j, k = j + 1 := ⟨k - 1, by omega⟩
        have g0 : decide ((0 : Int) ≤ ((j + 1 : Nat) : Int) - 1) = true := by simp
        have xj := hl.at (show j < l.length by omega)
        have cj := ((unhide HR).later B3).cell j (by omega)
        have E3 := hide (txtAt_step (l := l) (k := j) (by omega))
        generalize l[j] = y at *
        have C1 := hide (itoa_any wr (10000 + y) (by omega) (by omega) (ht.later B3))
        have E4 := hide (itxt_nat (x := 10000 + y) (by omega))
        have L4 : (itxt (10000 + y)).data.toList.length = 5 := by rw [unhide E4, dd4 (by omega) (by omega)]; rfl
        have S4 : (itxt (10000 + y)).size = 5 := by rw [← L4]; rfl
        generalize itxt (10000 + y) = t at *
        have S5 : (1 : Int) ≤ (t.size : Int) := by omega
        have S7 : t.size ≤ 5 := by omega
        clear L4 S4
        go_wp2_with fail
        refine (unhide C1).mono ?_
        rintro e w3 ⟨rfl, b3⟩
        have I4 := hide (bld_later (unhide HI3) b3)
        have B4 := B3.trans (b3.mono B3.size)
        clear HI3 b3 C1
        go_wp2_with fail
        have E5 : (t.extract 1 t.size).data.toList = limbT y := by
          unfold limbT
          rw [← unhide E4]
          exact extract_tail t
        have S8 : (t.extract 1 t.size).size ≤ 5 := by rw [ByteArray.size_extract]; omega
        have LT := (txtAt_len hl (j + 1) hk).1
        refine (writeBytes_any _ _ _ _ _ (unhide I4) (by omega) B4.size).mono ?_
        rintro e w4 ⟨rfl, I5, b4⟩
        rw [E5, ← unhide E3] at I5
        have I6 := hide I5
        have B5 := B4.trans b4
        clear I5 b4 B4 I4 E5 S8 LT
        go_wp2
        go_roundw
        case rel => exact ⟨j, by omega, by go_num, unhide I6, B5⟩
        case measure => simp [intOf]

end Go.Proofs.YtdklikicngmkbaaGreatDoor
