/- A value, as it reads. The shape of what is owned. l1Trim of the specification. Texts of figures: l1FromFigures by a contract. -/
import Derived.Test.YtdklikicngmkbaaGreatDoorProg
import Derived.Test.YtdklikicngmkbaaGreatDoorG01
import Derived.Test.YtdklikicngmkbaaGreatDoorG00
import Derived.WalkLawsBesides
import Derived.Deep.QuietTactic
import Derived.BigQuiet
import Derived.WalkSmall
import Derived.Deep.RegionWith
namespace Go.Proofs.YtdklikicngmkbaaGreatDoor
open Go.RowKit


/-- What a value is made of. -/
structure Vl where
  k : Int
  y : Bool
  n : Bool
  l : List Int
  sc : Int
  d : Int
  mo : Int
  da : Int
  t : ByteArray

end Go.Proofs.YtdklikicngmkbaaGreatDoor

namespace Go.Proofs.YtdklikicngmkbaaGreatDoor
open Go.RowKit

theorem Own.shape {B : Nat} {w : World} {v : Value} {l : List Int} (h : Own B w v l) : ∃ ao cap, v = .slice ao l.length cap := by
  rcases h.split with ⟨rfl, rfl⟩ | ⟨g, cap, rfl, _⟩
  · exact ⟨none, 0, rfl⟩
  · exact ⟨_, cap, rfl⟩

end Go.Proofs.YtdklikicngmkbaaGreatDoor

namespace Go.Proofs.YtdklikicngmkbaaGreatDoor
open Go.RowKit
set_option maxRecDepth 100000


theorem l1Trim_any (w : World) (v : Value) (l : List Int) (hr : Reads w v l) (hl : l.length ≤ 4000000) :
    Calls Tryz.prog 179 #[v] w (Gives w (trim l)) := by
  obtain ⟨ao, b, off, cap, rfl, hr⟩ := hr
  have h1 := hr.le
  have h2 := hr.big
  unfold maxLen at h2
  go_enter Tryz.func179, Tryz.ntmps179
  go_wp2
  go_loopw [3] (fun s wr => ∃ k : Nat, k ≤ l.length ∧ s = .int .i64 k ∧ trim (l.take k) = trim l ∧ wr = w) (fun s _ => (intOf s).toNat)
  case atStart => exact ⟨l.length, Nat.le_refl _, rfl, by rw [List.take_of_length_le (Nat.le_refl _)], rfl⟩
  case round =>
    obtain ⟨k, hk, rfl, ht, rfl⟩ := hrel
    have Ht := hide ht
    clear ht
    have fin : trim (l.take k) = l.take k → trim l = l.take k := fun e => by rw [← unhide Ht, e]
    have hR : ∀ o, Reads (wr.alloc o) (.slice ao k cap) (l.take k) := fun o => by
      have e : (l.take k).length = k := by rw [List.length_take]; omega
      exact ⟨ao, b, off, cap, by rw [e], (hr.cut k).later ((Below.refl _ _).alloc (Nat.le_refl _) o)⟩
    have HR := hide hR
    have hlk : 0 + (l.take k).length ≤ 8000000 := by rw [List.length_take]; omega
    by_cases h0 : k = 0
    · subst h0
      have e := fin (by simp [trim])
      have hR0 : ∀ o, Reads (wr.alloc o) (.slice ao 0 cap) [] := fun o => by have := hR o; simpa using this
      have He := hide (by simpa using e : trim l = [])
      have HR0 := hide hR0
      clear e fin Ht hR hR0 HR hr
      cases ao
      all_goals
        go_wp2_with (at_builtin; refine wpList_pushAll rfl _ _ 23 rfl Tryz.underlying23 wr.heap.size _ [] (own_empty _ (Nat.le_refl _)) rfl _ [] (unhide HR0 _) rfl (by simp) (by simp) ?_; intro ao1 cap1 w1 ho1 hb1)
        go_ret
        rw [unhide He]
        exact Gives.of ho1 (((Below.refl _ _).alloc (Nat.le_refl _) _).trans hb1)
    · have hp : 0 < k := by omega
      have hg : decide ((0 : Int) < k) = true := by simp; omega
      have hz : k - 1 < l.length := by omega
      have hc := hr.cell (k - 1) hz
      have hat := hr.at_ (by omega)
      subst hat
      clear h0 hr
      by_cases hl0 : l[k - 1] = 0
      · have hl0' : (l[k - 1] == 0) = true := by simp [hl0]
        have e := trim_take_zero hz (by rw [getD_at hz]; exact hl0)
        rw [show k - 1 + 1 = k by omega, unhide Ht] at e
        have He := hide e.symm
        clear e hl0 hR fin
        go_wp2
        go_roundw
        case rel => exact ⟨k - 1, by omega, by congr 1; omega, unhide He, by trivial⟩
        case measure => simp only [intOf]; omega
      · have hl0' : (l[k - 1] == 0) = false := by simp [hl0]
        have e := trim_take_ne hz (by rw [getD_at hz]; exact hl0)
        rw [show k - 1 + 1 = k by omega] at e
        have He := hide (fin e)
        clear e hl0 hR fin
        go_wp2_with (at_builtin; refine wpList_pushAll rfl _ _ 23 rfl Tryz.underlying23 wr.heap.size _ [] (own_empty _ (Nat.le_refl _)) rfl _ (l.take k) (unhide HR _) rfl hlk (by simp) ?_; intro ao1 cap1 w1 ho1 hb1; rw [List.nil_append, List.length_take, Nat.min_eq_left hk] at ho1)
        go_ret
        rw [unhide He]
        exact Gives.of ho1 (((Below.refl _ _).alloc (Nat.le_refl _) _).trans hb1)

end Go.Proofs.YtdklikicngmkbaaGreatDoor

namespace Go.Proofs.YtdklikicngmkbaaGreatDoor
open Go.RowKit


/-- The number that figures say. -/
def num (ds : List Nat) : Nat := ds.foldl (fun a d => a * 10 + d) 0

theorem num_nil : num [] = 0 := rfl

theorem num_snoc (l : List Nat) (d : Nat) : num (l ++ [d]) = num l * 10 + d := by simp [num, List.foldl_append]

theorem num_take_succ {ds : List Nat} {k : Nat} (h : k < ds.length) : num (ds.take (k + 1)) = num (ds.take k) * 10 + ds[k] := by
  rw [List.take_succ_eq_append_getElem h, num_snoc]

theorem num_lt_take (ds : List Nat) (h : ∀ d ∈ ds, d < 10) (k : Nat) (hk : k ≤ ds.length) : num (ds.take k) < 10 ^ k := by
  induction k with
  | zero => simp [num_nil]
  | succ k ih =>
    rw [num_take_succ (by omega), Nat.pow_succ]
    have := ih (by omega)
    have := h ds[k] (List.getElem_mem _)
    omega

theorem num_lt {ds : List Nat} (h : ∀ d ∈ ds, d < 10) : num ds < 10 ^ ds.length := by
  have := num_lt_take ds h ds.length (Nat.le_refl _)
  rwa [List.take_length] at this

theorem fig_step {ds : List Nat} {f i n d : Nat} (h : i < ds.length) (hd : d = ds[i]) (hd2 : d < 10) (hv : num (ds.take i) = num (ds.take f) * 10 ^ (i - f) + n) (hn : n < 10 ^ (i - f)) (hf : f ≤ i) :
    num (ds.take (i + 1)) = num (ds.take f) * 10 ^ (i + 1 - f) + (n * 10 + d) ∧ n * 10 + d < 10 ^ (i + 1 - f) := by
  rw [num_take_succ h, hv, show i + 1 - f = (i - f) + 1 by omega, Nat.pow_succ, hd]
  refine ⟨?_, by omega⟩
  rw [Nat.add_mul, Nat.mul_assoc]
  omega

theorem fig_out {ds : List Nat} {k f n : Nat} {out : List Int} (hv : num (ds.take k) = num (ds.take f) * 10 ^ (k - f) + n) (hf : f + 4 = k ∨ (f = 0 ∧ k ≤ 4)) (ho : (num ds : Int) = num (ds.take k) * 10000 ^ out.length + val out) :
    (num ds : Int) = num (ds.take f) * 10000 ^ (out ++ [(n : Int)]).length + val (out ++ [(n : Int)]) := by
  rw [ho, val_snoc, List.length_append, List.length_singleton, Int.pow_succ]
  have e : num (ds.take k) = num (ds.take f) * 10000 + n := by
    rcases hf with h | ⟨h, _⟩
    · rw [hv, show k - f = 4 by omega]
    · subst h
      rw [hv, List.take_zero, num_nil]
      omega
  rw [e]
  generalize (10000 : Int) ^ out.length = P
  rw [Int.natCast_add, Int.natCast_mul, Int.add_mul, Int.mul_assoc, Int.mul_comm (n : Int) P, Int.mul_comm P 10000]
  show _ = (num (ds.take f) : Int) * _ + _
  rw [show ((10000 : Nat) : Int) = 10000 from rfl]
  omega

/-- A text whose bytes are figures. -/
def Fig (s : ByteArray) (ds : List Nat) : Prop := s.data.toList = ds.map (fun d => UInt8.ofNat (48 + d)) ∧ ∀ d ∈ ds, d < 10

theorem Fig.size {s : ByteArray} {ds : List Nat} (h : Fig s ds) : s.size = ds.length := by
  have := congrArg List.length h.1
  simpa using this

theorem Fig.at {s : ByteArray} {ds : List Nat} {k i : Nat} (h : Fig s (ds.take k)) (hi : i < s.size) : ∃ d : Nat, ((s[i].toNat : Int) - 48) % 256 = d ∧ d < 10 ∧ ∃ h2 : i < ds.length, d = ds[i] := by
  have hl := h.size
  rw [List.length_take] at hl
  have hi2 : i < ds.length := by omega
  have hd : ds[i] < 10 := h.2 _ (by rw [show ds[i] = (ds.take k)[i]'(by rw [List.length_take]; omega) by rw [List.getElem_take]]; exact List.getElem_mem _)
  refine ⟨ds[i], ?_, hd, hi2, rfl⟩
  have e : s[i] = UInt8.ofNat (48 + ds[i]) := by
    have e1 : s[i] = s.data.toList[i]'(by simpa using hi) := by simp [ByteArray.getElem_eq_getElem_data]
    rw [e1]
    simp only [h.1]
    simp
  rw [e, UInt8.toNat_ofNat']
  omega

theorem Fig.cut {s : ByteArray} {ds : List Nat} {f k : Nat} (h : Fig s (ds.take k)) (hf : f ≤ k) (t : ByteArray) (ht : t.data.toList = s.data.toList.take f) : Fig t (ds.take f) := by
  refine ⟨?_, fun d hd => h.2 d ?_⟩
  · rw [ht, h.1, ← List.map_take, List.take_take, Nat.min_eq_left hf]
  · have : ds.take f = (ds.take k).take f := by rw [List.take_take, Nat.min_eq_left hf]
    rw [this] at hd
    exact List.mem_of_mem_take hd

theorem l1FromFigures_any (w : World) (s : ByteArray) (ds : List Nat) (hs : Fig s ds) (hl : ds.length ≤ 1000) :
    Calls Tryz.prog 135 #[.string s] w (Gives w (L (num ds))) := by
  go_enter Tryz.func135, Tryz.ntmps135
  go_wp2
  go_loopw [0, 3, 4, 5, 6] (fun ss oo _ _ _ wr => ∃ (s : ByteArray) (out : List Int), ss = .string s ∧ s.size ≤ ds.length ∧ Fig s (ds.take s.size) ∧ out.length + s.size ≤ ds.length + 1000 ∧ Lim out ∧ (num ds : Int) = num (ds.take s.size) * 10000 ^ out.length + val out ∧
      Own w.heap.size wr oo out ∧ Below w.heap.size w wr) (fun ss _ _ _ _ _ => match ss with | .string s => s.size | _ => 0)
  case atStart => exact ⟨s, [], rfl, by rw [hs.size]; exact Nat.le_refl _, by rw [hs.size, List.take_length]; exact hs, by rw [hs.size]; simp, Lim.nil, by rw [hs.size]; simp [val], own_empty w (Nat.le_refl _), (Below.refl _ _).alloc (Nat.le_refl _) _⟩
  case round =>
    obtain ⟨s, out, rfl, hk, hF, hok, hlim, hval, hown, hbel⟩ := hrel
    have HF := hide hF
    have HV := hide hval
    have hfz := hbel.size
    have HO := hide hown
    clear hs
    clear hF hval
    by_cases h : 0 < s.size
    · obtain ⟨ao, capo, rfl⟩ := hown.shape
      have shape := hown.split
      clear hown
      by_cases h4 : 4 ≤ s.size
      · obtain ⟨f, hf⟩ : ∃ f : Nat, (s.size : Int) - 4 = f := ⟨s.size - 4, by omega⟩
        have hff : f + 4 = s.size ∨ f = 0 ∧ s.size ≤ 4 := by omega
        have hfle : f ≤ s.size := by omega
        have hfle4 : s.size ≤ f + 4 := by omega
        have HFF := hide hff
        clear hff
        go_wp2
        go_loopw [5, 6] (fun nn ii wr2 => ∃ n i : Nat, nn = .int .i64 n ∧ ii = .int .i64 i ∧ f ≤ i ∧ i ≤ s.size ∧ num (ds.take i) = num (ds.take f) * 10 ^ (i - f) + n ∧ n < 10 ^ (i - f) ∧ wr2 = wr) (fun _ ii _ => s.size - (intOf ii).toNat)
        case atStart => exact ⟨0, f, rfl, rfl, Nat.le_refl _, hfle, by simp, by simp, rfl⟩
        case round =>
          obtain ⟨n, i, rfl, rfl, hi1, hi2, hn1, hn2, rfl⟩ := hrel
          have HN := hide hn1
          have HN2 := hide hn2
          clear hn1
          by_cases hi : i < s.size
          · obtain ⟨d, hd, hd1, hd2, hd3⟩ := (unhide HF).at hi
            have hn3 : n < 1000 := Nat.lt_of_lt_of_le hn2 (Nat.pow_le_pow_right (show 0 < 10 by decide) (show i - f ≤ 3 by omega))
            have HD := hide hd3
            clear hd3 hn2
            go_wp2
            go_roundw
            case rel =>
              obtain ⟨e1, e2⟩ := fig_step hd2 (unhide HD) hd1 (unhide HN) (unhide HN2) hi1
              exact ⟨n * 10 + d, i + 1, by congr 1, rfl, by omega, by omega, e1, e2, trivial⟩
            case measure => simp only [intOf]; omega
          · have ei : i = s.size := by omega
            have hn3 : n < 10000 := Nat.lt_of_lt_of_le hn2 (Nat.pow_le_pow_right (show 0 < 10 by decide) (show i - f ≤ 4 by omega))
            rw [ei] at HN
            have HV2 := hide (fig_out (unhide HN) (unhide HFF) (unhide HV))
            have hol : out.length ≤ 8000000 := by omega
            clear ei hn2
            rcases shape with ⟨e1, hz⟩ | ⟨g, capo', e1, hBg, hgs, hcapo, hmo⟩
            all_goals
              simp only [Value.slice.injEq] at e1
              obtain ⟨rfl, hz2, rfl⟩ := e1
              clear hz2
              (try (clear hz))
              go_wp2_with (at_builtin; refine wpList_push rfl _ _ 23 rfl Tryz.underlying23 w.heap.size _ out _ (unhide HO) rfl rfl hol hfz ?_; intro g1 cap1 w1 hown1 hb1 hc1 hm1 hBg1 hgs1)
              go_roundw
              case rel =>
                have es : (s.extract 0 f).size = f := by rw [ByteArray.size_extract]; omega
                have ef := (unhide HF).cut hfle (s.extract 0 f) (by rw [ByteArray.data_extract, Array.toList_extract]; simp)
                exact ⟨s.extract 0 f, out ++ [(n : Int)], rfl, by omega, by rw [es]; exact ef, by rw [es, List.length_append]; simp; omega, Lim.app hlim (Lim.one (by omega) (by omega)), by rw [es]; exact unhide HV2, hown1, hbel.trans hb1⟩
              case measure =>
                show (s.extract 0 f).size < s.size
                rw [ByteArray.size_extract]
                omega
      · have hff : 0 + 4 = s.size ∨ 0 = 0 ∧ s.size ≤ 4 := by omega
        have hfle : 0 ≤ s.size := by omega
        clear hff
        go_wp2
        go_loopw [5, 6] (fun nn ii wr2 => ∃ n i : Nat, nn = .int .i64 n ∧ ii = .int .i64 i ∧ 0 ≤ i ∧ i ≤ s.size ∧ num (ds.take i) = num (ds.take 0) * 10 ^ (i - 0) + n ∧ n < 10 ^ (i - 0) ∧ wr2 = wr) (fun _ ii _ => s.size - (intOf ii).toNat)
        case atStart => exact ⟨0, 0, rfl, rfl, Nat.le_refl _, hfle, by simp, by simp, rfl⟩
        case round =>
          obtain ⟨n, i, rfl, rfl, hi1, hi2, hn1, hn2, rfl⟩ := hrel
          have HN := hide hn1
          have HN2 := hide hn2
          clear hn1
          by_cases hi : i < s.size
          · obtain ⟨d, hd, hd1, hd2, hd3⟩ := (unhide HF).at hi
            have hn3 : n < 1000 := Nat.lt_of_lt_of_le hn2 (Nat.pow_le_pow_right (show 0 < 10 by decide) (show i - 0 ≤ 3 by omega))
            have HD := hide hd3
            clear hd3 hn2
            go_wp2
            go_roundw
            case rel =>
              obtain ⟨e1, e2⟩ := fig_step hd2 (unhide HD) hd1 (unhide HN) (unhide HN2) hi1
              exact ⟨n * 10 + d, i + 1, by congr 1, rfl, by omega, by omega, e1, e2, trivial⟩
            case measure => simp only [intOf]; omega
          · have ei : i = s.size := by omega
            have hn3 : n < 10000 := Nat.lt_of_lt_of_le hn2 (Nat.pow_le_pow_right (show 0 < 10 by decide) (show i - 0 ≤ 4 by omega))
            rw [ei] at HN
            have HV2 := hide (fig_out (unhide HN) (Or.inr ⟨rfl, by omega⟩) (unhide HV))
            have hol : out.length ≤ 8000000 := by omega
            clear ei hn2
            rcases shape with ⟨e1, hz⟩ | ⟨g, capo', e1, hBg, hgs, hcapo, hmo⟩
            all_goals
              simp only [Value.slice.injEq] at e1
              obtain ⟨rfl, hz2, rfl⟩ := e1
              clear hz2
              (try (clear hz))
              go_wp2_with (at_builtin; refine wpList_push rfl _ _ 23 rfl Tryz.underlying23 w.heap.size _ out _ (unhide HO) rfl rfl hol hfz ?_; intro g1 cap1 w1 hown1 hb1 hc1 hm1 hBg1 hgs1)
              go_roundw
              case rel =>
                have es : ByteArray.empty.size = 0 := rfl
                have ef := (unhide HF).cut hfle ByteArray.empty (by simp)
                exact ⟨ByteArray.empty, out ++ [(n : Int)], rfl, by omega, by rw [es]; exact ef, by rw [es, List.length_append]; simp; omega, Lim.app hlim (Lim.one (by omega) (by omega)), by rw [es]; exact unhide HV2, hown1, hbel.trans hb1⟩
              case measure =>
                exact h
    · have C := hide (l1Trim_any wr _ out hown.reads (by omega))
      go_wp2_with fail
      refine (unhide C).mono ?_
      rintro e w2 ⟨ao2, cap2, rfl, o2, b2⟩
      have et : trim out = L (num ds) := by
        rw [trim_eq hlim]
        have := unhide HV
        rw [show s.size = 0 by omega, List.take_zero, num_nil] at this
        congr 1
        omega
      rw [et] at o2 ⊢
      have hb2 := hbel.trans (b2.mono hbel.size)
      clear b2
      go_wp2
      go_ret
      exact Gives.of (o2.mono hbel.size) hb2

end Go.Proofs.YtdklikicngmkbaaGreatDoor
