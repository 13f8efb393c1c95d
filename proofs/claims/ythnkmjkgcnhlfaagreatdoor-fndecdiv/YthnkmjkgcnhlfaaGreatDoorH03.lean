/- Texts of figures: l1FromFigures by a contract. A row without noughts at its end: trimmed, by a contract. signed by a contract; the number of a sign and limbs. What is ok of numbers. What numbers answer. -/
import Derived.Test.YthnkmjkgcnhlfaaGreatDoorH02
import Derived.Test.YthnkmjkgcnhlfaaGreatDoorH00
import Derived.Test.YthnkmjkgcnhlfaaGreatDoorH01
import Derived.WalkLawsBesides
import Derived.Deep.QuietTactic
import Derived.BigQuiet
import Derived.WalkSmall
import Derived.Deep.RegionWith
namespace Go.Proofs.YthnkmjkgcnhlfaaGreatDoor
open Go.RowKit


/-- The number that figures say. -/
def num (ds : List Nat) : Nat := ds.foldl (fun a d => a * 10 + d) 0

theorem num_nil : num [] = 0 := rfl

theorem num_snoc (l : List Nat) (d : Nat) : num (l ++ [d]) = num l * 10 + d := by simp [num, List.foldl_append]

theorem num_take_succ {ds : List Nat} {k : Nat} (h : k < ds.length) : num (ds.take (k + 1)) = num (ds.take k) * 10 + ds[k] := by
  rw [List.take_succ_eq_append_getElem h, num_snoc]

theorem num_lt_take (ds : List Nat) (h : ∀ d ∈ ds, d < 10) (k : Nat) (hk : k ≤ ds.length) : num (ds.take k) < 10 ^ k := by
  induction k with
  | zero => simp [num_nil]
  | succ k ih =>
    rw [num_take_succ (by omega), Nat.pow_succ]
    have := ih (by omega)
    have := h ds[k] (List.getElem_mem _)
    omega

theorem num_lt {ds : List Nat} (h : ∀ d ∈ ds, d < 10) : num ds < 10 ^ ds.length := by
  have := num_lt_take ds h ds.length (Nat.le_refl _)
  rwa [List.take_length] at this

theorem fig_step {ds : List Nat} {f i n d : Nat} (h : i < ds.length) (hd : d = ds[i]) (hd2 : d < 10) (hv : num (ds.take i) = num (ds.take f) * 10 ^ (i - f) + n) (hn : n < 10 ^ (i - f)) (hf : f ≤ i) :
    num (ds.take (i + 1)) = num (ds.take f) * 10 ^ (i + 1 - f) + (n * 10 + d) ∧ n * 10 + d < 10 ^ (i + 1 - f) := by
  rw [num_take_succ h, hv, show i + 1 - f = (i - f) + 1 by omega, Nat.pow_succ, hd]
  refine ⟨?_, by omega⟩
  rw [Nat.add_mul, Nat.mul_assoc]
  omega

theorem fig_out {ds : List Nat} {k f n : Nat} {out : List Int} (hv : num (ds.take k) = num (ds.take f) * 10 ^ (k - f) + n) (hf : f + 4 = k ∨ (f = 0 ∧ k ≤ 4)) (ho : (num ds : Int) = num (ds.take k) * 10000 ^ out.length + val out) :
    (num ds : Int) = num (ds.take f) * 10000 ^ (out ++ [(n : Int)]).length + val (out ++ [(n : Int)]) := by
  rw [ho, val_snoc, List.length_append, List.length_singleton, Int.pow_succ]
  have e : num (ds.take k) = num (ds.take f) * 10000 + n := by
    rcases hf with h | ⟨h, _⟩
    · rw [hv, show k - f = 4 by omega]
    · subst h
      rw [hv, List.take_zero, num_nil]
      omega
  rw [e]
  generalize (10000 : Int) ^ out.length = P
  rw [Int.natCast_add, Int.natCast_mul, Int.add_mul, Int.mul_assoc, Int.mul_comm (n : Int) P, Int.mul_comm P 10000]
  show _ = (num (ds.take f) : Int) * _ + _
  rw [show ((10000 : Nat) : Int) = 10000 from rfl]
  omega

/-- A text whose bytes are figures. -/
def Fig (s : ByteArray) (ds : List Nat) : Prop := s.data.toList = ds.map (fun d => UInt8.ofNat (48 + d)) ∧ ∀ d ∈ ds, d < 10

theorem Fig.size {s : ByteArray} {ds : List Nat} (h : Fig s ds) : s.size = ds.length := by
  have := congrArg List.length h.1
  simpa using this

theorem Fig.at {s : ByteArray} {ds : List Nat} {k i : Nat} (h : Fig s (ds.take k)) (hi : i < s.size) : ∃ d : Nat, ((s[i].toNat : Int) - 48) % 256 = d ∧ d < 10 ∧ ∃ h2 : i < ds.length, d = ds[i] := by
  have hl := h.size
  rw [List.length_take] at hl
  have hi2 : i < ds.length := by omega
  have hd : ds[i] < 10 := h.2 _ (by rw [show ds[i] = (ds.take k)[i]'(by rw [List.length_take]; omega) by rw [List.getElem_take]]; exact List.getElem_mem _)
  refine ⟨ds[i], ?_, hd, hi2, rfl⟩
  have e : s[i] = UInt8.ofNat (48 + ds[i]) := by
    have e1 : s[i] = s.data.toList[i]'(by simpa using hi) := by simp [ByteArray.getElem_eq_getElem_data]
    rw [e1]
    simp only [h.1]
    simp
  rw [e, UInt8.toNat_ofNat']
  omega

theorem Fig.cut {s : ByteArray} {ds : List Nat} {f k : Nat} (h : Fig s (ds.take k)) (hf : f ≤ k) (t : ByteArray) (ht : t.data.toList = s.data.toList.take f) : Fig t (ds.take f) := by
  refine ⟨?_, fun d hd => h.2 d ?_⟩
  · rw [ht, h.1, ← List.map_take, List.take_take, Nat.min_eq_left hf]
  · have : ds.take f = (ds.take k).take f := by rw [List.take_take, Nat.min_eq_left hf]
    rw [this] at hd
    exact List.mem_of_mem_take hd

theorem l1FromFigures_any (w : World) (s : ByteArray) (ds : List Nat) (hs : Fig s ds) (hl : ds.length ≤ 1000) :
    Calls Tryz.prog 97 #[.string s] w (Gives w (L (num ds))) := by
  go_enter Tryz.func97, Tryz.ntmps97
  go_wp2
  go_loopw [0, 3, 4, 5, 6] (fun ss oo _ _ _ wr => ∃ (s : ByteArray) (out : List Int), ss = .string s ∧ s.size ≤ ds.length ∧ Fig s (ds.take s.size) ∧ out.length + s.size ≤ ds.length + 1000 ∧ Lim out ∧ (num ds : Int) = num (ds.take s.size) * 10000 ^ out.length + val out ∧
      Own w.heap.size wr oo out ∧ Below w.heap.size w wr) (fun ss _ _ _ _ _ => match ss with | .string s => s.size | _ => 0)
  case atStart => exact ⟨s, [], rfl, by rw [hs.size]; exact Nat.le_refl _, by rw [hs.size, List.take_length]; exact hs, by rw [hs.size]; simp, Lim.nil, by rw [hs.size]; simp [val], own_empty w (Nat.le_refl _), (Below.refl _ _).alloc (Nat.le_refl _) _⟩
  case round =>
    obtain ⟨s, out, rfl, hk, hF, hok, hlim, hval, hown, hbel⟩ := hrel
    have HF := hide hF
    have HV := hide hval
    have hfz := hbel.size
    have HO := hide hown
    clear hs
    clear hF hval
    by_cases h : 0 < s.size
    · obtain ⟨ao, capo, rfl⟩ := hown.shape
      have shape := hown.split
      clear hown
      by_cases h4 : 4 ≤ s.size
      · obtain ⟨f, hf⟩ : ∃ f : Nat, (s.size : Int) - 4 = f := ⟨s.size - 4, by omega⟩
        have hff : f + 4 = s.size ∨ f = 0 ∧ s.size ≤ 4 := by omega
        have hfle : f ≤ s.size := by omega
        have hfle4 : s.size ≤ f + 4 := by omega
        have HFF := hide hff
        clear hff
        go_wp2
        go_loopw [5, 6] (fun nn ii wr2 => ∃ n i : Nat, nn = .int .i64 n ∧ ii = .int .i64 i ∧ f ≤ i ∧ i ≤ s.size ∧ num (ds.take i) = num (ds.take f) * 10 ^ (i - f) + n ∧ n < 10 ^ (i - f) ∧ wr2 = wr) (fun _ ii _ => s.size - (intOf ii).toNat)
        case atStart => exact ⟨0, f, rfl, rfl, Nat.le_refl _, hfle, by simp, by simp, rfl⟩
        case round =>
          obtain ⟨n, i, rfl, rfl, hi1, hi2, hn1, hn2, rfl⟩ := hrel
          have HN := hide hn1
          have HN2 := hide hn2
          clear hn1
          by_cases hi : i < s.size
          · obtain ⟨d, hd, hd1, hd2, hd3⟩ := (unhide HF).at hi
            have hn3 : n < 1000 := Nat.lt_of_lt_of_le hn2 (Nat.pow_le_pow_right (show 0 < 10 by decide) (show i - f ≤ 3 by omega))
            have HD := hide hd3
            clear hd3 hn2
            go_wp2
            go_roundw
            case rel =>
              obtain ⟨e1, e2⟩ := fig_step hd2 (unhide HD) hd1 (unhide HN) (unhide HN2) hi1
              exact ⟨n * 10 + d, i + 1, by congr 1, rfl, by omega, by omega, e1, e2, trivial⟩
            case measure => simp only [intOf]; omega
          · have ei : i = s.size := by omega
            have hn3 : n < 10000 := Nat.lt_of_lt_of_le hn2 (Nat.pow_le_pow_right (show 0 < 10 by decide) (show i - f ≤ 4 by omega))
            rw [ei] at HN
            have HV2 := hide (fig_out (unhide HN) (unhide HFF) (unhide HV))
            have hol : out.length ≤ 8000000 := by omega
            clear ei hn2
            rcases shape with ⟨e1, hz⟩ | ⟨g, capo', e1, hBg, hgs, hcapo, hmo⟩
            all_goals
              simp only [Value.slice.injEq] at e1
              obtain ⟨rfl, hz2, rfl⟩ := e1
              clear hz2
              (try (clear hz))
              go_wp2_with (at_builtin; refine wpList_push rfl _ _ 23 rfl Tryz.underlying23 w.heap.size _ out _ (unhide HO) rfl rfl hol hfz ?_; intro g1 cap1 w1 hown1 hb1 hc1 hm1 hBg1 hgs1)
              go_roundw
              case rel =>
                have es : (s.extract 0 f).size = f := by rw [ByteArray.size_extract]; omega
                have ef := (unhide HF).cut hfle (s.extract 0 f) (by rw [ByteArray.data_extract, Array.toList_extract]; simp)
                exact ⟨s.extract 0 f, out ++ [(n : Int)], rfl, by omega, by rw [es]; exact ef, by rw [es, List.length_append]; simp; omega, Lim.app hlim (Lim.one (by omega) (by omega)), by rw [es]; exact unhide HV2, hown1, hbel.trans hb1⟩
              case measure =>
                show (s.extract 0 f).size < s.size
                rw [ByteArray.size_extract]
                omega
      · have hff : 0 + 4 = s.size ∨ 0 = 0 ∧ s.size ≤ 4 := by omega
        have hfle : 0 ≤ s.size := by omega
        clear hff
        go_wp2
        go_loopw [5, 6] (fun nn ii wr2 => ∃ n i : Nat, nn = .int .i64 n ∧ ii = .int .i64 i ∧ 0 ≤ i ∧ i ≤ s.size ∧ num (ds.take i) = num (ds.take 0) * 10 ^ (i - 0) + n ∧ n < 10 ^ (i - 0) ∧ wr2 = wr) (fun _ ii _ => s.size - (intOf ii).toNat)
        case atStart => exact ⟨0, 0, rfl, rfl, Nat.le_refl _, hfle, by simp, by simp, rfl⟩
        case round =>
          obtain ⟨n, i, rfl, rfl, hi1, hi2, hn1, hn2, rfl⟩ := hrel
          have HN := hide hn1
          have HN2 := hide hn2
          clear hn1
          by_cases hi : i < s.size
          · obtain ⟨d, hd, hd1, hd2, hd3⟩ := (unhide HF).at hi
            have hn3 : n < 1000 := Nat.lt_of_lt_of_le hn2 (Nat.pow_le_pow_right (show 0 < 10 by decide) (show i - 0 ≤ 3 by omega))
            have HD := hide hd3
            clear hd3 hn2
            go_wp2
            go_roundw
            case rel =>
              obtain ⟨e1, e2⟩ := fig_step hd2 (unhide HD) hd1 (unhide HN) (unhide HN2) hi1
              exact ⟨n * 10 + d, i + 1, by congr 1, rfl, by omega, by omega, e1, e2, trivial⟩
            case measure => simp only [intOf]; omega
          · have ei : i = s.size := by omega
            have hn3 : n < 10000 := Nat.lt_of_lt_of_le hn2 (Nat.pow_le_pow_right (show 0 < 10 by decide) (show i - 0 ≤ 4 by omega))
            rw [ei] at HN
            have HV2 := hide (fig_out (unhide HN) (Or.inr ⟨rfl, by omega⟩) (unhide HV))
            have hol : out.length ≤ 8000000 := by omega
            clear ei hn2
            rcases shape with ⟨e1, hz⟩ | ⟨g, capo', e1, hBg, hgs, hcapo, hmo⟩
            all_goals
              simp only [Value.slice.injEq] at e1
              obtain ⟨rfl, hz2, rfl⟩ := e1
              clear hz2
              (try (clear hz))
              go_wp2_with (at_builtin; refine wpList_push rfl _ _ 23 rfl Tryz.underlying23 w.heap.size _ out _ (unhide HO) rfl rfl hol hfz ?_; intro g1 cap1 w1 hown1 hb1 hc1 hm1 hBg1 hgs1)
              go_roundw
              case rel =>
                have es : ByteArray.empty.size = 0 := rfl
                have ef := (unhide HF).cut hfle ByteArray.empty (by simp)
                exact ⟨ByteArray.empty, out ++ [(n : Int)], rfl, by omega, by rw [es]; exact ef, by rw [es, List.length_append]; simp; omega, Lim.app hlim (Lim.one (by omega) (by omega)), by rw [es]; exact unhide HV2, hown1, hbel.trans hb1⟩
              case measure =>
                exact h
    · have C := hide (l1Trim_any wr _ out hown.reads (by omega))
      go_wp2_with fail
      refine (unhide C).mono ?_
      rintro e w2 ⟨ao2, cap2, rfl, o2, b2⟩
      have et : trim out = L (num ds) := by
        rw [trim_eq hlim]
        have := unhide HV
        rw [show s.size = 0 by omega, List.take_zero, num_nil] at this
        congr 1
        omega
      rw [et] at o2 ⊢
      have hb2 := hbel.trans (b2.mono hbel.size)
      clear b2
      go_wp2
      go_ret
      exact Gives.of (o2.mono hbel.size) hb2

end Go.Proofs.YthnkmjkgcnhlfaaGreatDoor

namespace Go.Proofs.YthnkmjkgcnhlfaaGreatDoor
open Go.RowKit
set_option maxRecDepth 100000


/-- What a call answers that hands on a list that was owned: the world is as it was. -/
def Hands (B : Nat) (w : World) (l : List Int) (e : Ending) (w' : World) : Prop :=
  ∃ ao cap, e = .returned (.slice ao l.length cap) ∧ Own B w' (.slice ao l.length cap) l ∧ w' = w

theorem Hands.of {B : Nat} {w : World} {l : List Int} {v : Value} (h : Own B w v l) : Hands B w l (.returned v) w := by
  have h' := h
  obtain ⟨_, h2⟩ := h
  rcases h2 with ⟨rfl, e⟩ | ⟨g, cap, cur, rfl, _⟩
  · exact ⟨none, 0, by rw [e], by rw [e]; exact h', rfl⟩
  · exact ⟨_, cap, rfl, h', rfl⟩

/-- The length of a slice value: for a loop's measure. -/
def lenOf : Value → Nat
  | .slice _ k _ => k
  | _ => 0

theorem trimmed_any (w : World) (B : Nat) (v : Value) (l : List Int) (ho : Own B w v l) :
    Calls Tryz.prog 105 #[v] w (Hands B w (trim l)) := by
  have ho' := ho
  obtain ⟨_, hs⟩ := ho
  rcases hs with ⟨rfl, hn⟩ | ⟨g, cap, cur, rfl, _, _, hn, hm, _⟩
  · have e : l = [] := List.length_eq_zero_iff.1 hn
    subst e
    go_enter Tryz.func105, Tryz.ntmps105
    go_wp2
    refine wp_loop_rounds 1 ?_
    rw [rounds_succ]
    go_wp2
    go_ret
    exact Hands.of (Own.nil _ _)
  · unfold maxLen at hm
    go_enter Tryz.func105, Tryz.ntmps105
    go_wp2
    go_loopw [0] (fun s wr => ∃ k : Nat, k ≤ l.length ∧ s = .slice (some ⟨g, 0, none⟩) k cap ∧ trim (l.take k) = trim l ∧ wr = w)
      (fun s _ => lenOf s)
    case atStart => exact ⟨l.length, Nat.le_refl _, rfl, by rw [List.take_of_length_le (Nat.le_refl _)], rfl⟩
    case round =>
      obtain ⟨k, hk, rfl, ht, rfl⟩ := hrel
      have Ht := hide ht
      clear ht
      by_cases h0 : k = 0
      · subst h0
        go_wp2
        go_ret
        have e := unhide Ht
        have o := Own.cut ho' 0 (by omega)
        simp [trim] at e o
        rw [e]
        exact Hands.of o
      · have hp : 0 < k := by omega
        have hp' : decide ((0 : Int) < k) = true := by simp; omega
        have hz : k - 1 < l.length := by omega
        have hc := (World.ownsRow.cellAt ho' (k - 1) (by omega))
        rw [ints_at hz] at hc
        clear h0
        by_cases hl0 : l[k - 1] = 0
        · have hl0' : (l[k - 1] == 0) = true := by simp [hl0]
          have e := trim_take_zero hz (by rw [getD_at hz]; exact hl0)
          rw [show k - 1 + 1 = k by omega, unhide Ht] at e
          have He := hide e.symm
          clear e hl0
          go_wp2
          go_roundw
          case rel => exact ⟨k - 1, by omega, rfl, unhide He, by trivial⟩
          case measure => simp [lenOf]; omega
        · have hl0' : (l[k - 1] == 0) = false := by simp [hl0]
          have e := trim_take_ne hz (by rw [getD_at hz]; exact hl0)
          rw [show k - 1 + 1 = k by omega, unhide Ht] at e
          have o := Own.cut ho' k hk
          rw [← e] at o
          have He := hide e
          clear e hl0
          go_wp2
          go_ret
          exact Hands.of o

end Go.Proofs.YthnkmjkgcnhlfaaGreatDoor

namespace Go.Proofs.YthnkmjkgcnhlfaaGreatDoor
open Go.RowKit
set_option maxRecDepth 100000




/-- What 'signed' answers: the limbs that it was given, or none, if they are none. -/
theorem signed_any (w : World) (neg : Bool) (ao : Option Addr) (n cap : Nat) :
    Calls Tryz.prog 65 #[.bool neg, .slice ao n cap] w fun e w' => e = .returned (if n = 0 then .agg #[.bool false, .slice none 0 0] else .agg #[.bool neg, .slice ao n cap]) ∧ Below w.heap.size w w' := by
  by_cases h : n = 0
  · rw [if_pos h]
    have h' : ((n : Int) == 0) = true := by simp [h]
    have hn : n ≤ 9223372036854775807 := by omega
    clear h
    go_enter Tryz.func65, Tryz.ntmps65
    go_wp2
    refine bodyPost_ret (v := .agg #[.bool false, .slice none 0 0]) (by simp [results, Tryz.results65, go_sem]) rfl ⟨rfl, ?_⟩
    exact (Below.refl _ _).alloc (Nat.le_refl _) _
  · rw [if_neg h]
    have h' : ((n : Int) == 0) = false := by simp [h]
    go_enter Tryz.func65, Tryz.ntmps65
    go_wp2
    refine bodyPost_ret (v := .agg #[.bool neg, .slice ao n cap]) (by simp [results, Tryz.results65, go_sem]) rfl ⟨rfl, ?_⟩
    exact (Below.refl _ _).alloc (Nat.le_refl _) _

/-- A number by its sign and its limbs' number. -/
def zof (neg : Bool) (n : Nat) : Int := if neg then -(n : Int) else n

/-- Whether a number is below 0. -/
def sg (z : Int) : Bool := decide (z < 0)

/-- From what 'signed' answers to a number of the call's own. -/
theorem signed_gives {w w1 w2 : World} {B : Nat} {neg : Bool} {ao : Option Addr} {cap n : Nat} {z : Int} (ho : Own B w1 (.slice ao (L n).length cap) (L n)) (h1 : Below w.heap.size w w1) (h2 : Below w1.heap.size w1 w2) (hz : z = zof neg n) :
    ∃ ao' cap', (if (L n).length = 0 then Value.agg #[.bool false, .slice none 0 0] else .agg #[.bool neg, .slice ao (L n).length cap]) = .agg #[.bool (sg z), .slice ao' (L z.natAbs).length cap'] ∧ Own B w2 (.slice ao' (L z.natAbs).length cap') (L z.natAbs) ∧ Below w.heap.size w w2 := by
  have hb : Below w.heap.size w w2 := h1.trans (h2.mono h1.size)
  have hna : z.natAbs = n := by subst hz; unfold zof; split <;> omega
  rw [hna]
  by_cases h : n = 0
  · subst h
    have e : z = 0 := by omega
    rw [L_zero]
    refine ⟨none, 0, ?_, Own.nil _ _, hb⟩
    simp [e, sg]
  · have hl : (L n).length ≠ 0 := fun k => h (L_len_zero.1 k)
    rw [if_neg hl]
    refine ⟨ao, cap, ?_, ho.later h2, hb⟩
    have : sg z = neg := by
      subst hz
      unfold sg zof
      cases neg <;> simp <;> omega
    rw [this]

end Go.Proofs.YthnkmjkgcnhlfaaGreatDoor

namespace Go.Proofs.YthnkmjkgcnhlfaaGreatDoor
open Go.RowKit
set_option maxRecDepth 100000


/-- A number is ok. -/
def OkBig (neg : Bool) (l : List Int) : Prop := l.length ≤ 16 ∧ Lim l ∧ (l = [] → neg = false) ∧ (l = [] ∨ l.getD (l.length - 1) 0 ≠ 0)

def okD (neg : Bool) (l : List Int) : Decidable (OkBig neg l) := by unfold OkBig Lim; exact inferInstance

def okB (neg : Bool) (l : List Int) : Bool := @decide (OkBig neg l) (okD neg l)

theorem okB_true {neg : Bool} {l : List Int} (h : OkBig neg l) : okB neg l = true := by simp [okB, h]

theorem okB_false {neg : Bool} {l : List Int} (h : ¬ OkBig neg l) : okB neg l = false := by simp [okB, h]

end Go.Proofs.YthnkmjkgcnhlfaaGreatDoor

namespace Go.Proofs.YthnkmjkgcnhlfaaGreatDoor
open Go.RowKit
set_option maxRecDepth 100000




/-- A number that was made, if it is not too long; nothing, if it is, or if it was not asked of what is ok. -/
def outR (ok : Bool) (z : Int) : Bool × List Int × Bool := if ok = true ∧ (L z.natAbs).length ≤ 16 then (sg z, L z.natAbs, true) else (false, [], false)

/-- What a call answers that hands out a number of its own, and whether. -/
def GivesBig2 (w : World) (o : Bool × List Int × Bool) (e : Ending) (w' : World) : Prop :=
  ∃ ao cap, e = .returned (.tuple #[.agg #[.bool o.1, .slice ao o.2.1.length cap], .bool o.2.2]) ∧ Own w.heap.size w' (.slice ao o.2.1.length cap) o.2.1 ∧ Below w.heap.size w w'

/-- The number that a sign and limbs are. -/
def zv (neg : Bool) (l : List Int) : Int := zof neg (val l).toNat

theorem okB_iff {neg : Bool} {l : List Int} : okB neg l = true ↔ OkBig neg l := by simp [okB]

/-- What is ok has the limbs of its number. -/
theorem ok_limbs {neg : Bool} {l : List Int} (h : okB neg l = true) : l = L (val l).toNat ∧ (val l).toNat < 10000 ^ 16 := by
  obtain ⟨h1, h2, _, h4⟩ := okB_iff.1 h
  have e := L_of h2 h4
  refine ⟨e, lt_of_L_len ?_⟩
  rw [← e]
  exact h1

theorem ok_sign {neg : Bool} {l : List Int} (h : okB neg l = true) : neg = sg (zv neg l) := by
  obtain ⟨e, _⟩ := ok_limbs h
  obtain ⟨h1, h2, h3, h4⟩ := okB_iff.1 h
  unfold sg zv zof
  cases neg
  · simp
    omega
  · have hl : l ≠ [] := fun k => by have := h3 k; cases this
    have hn : (val l).toNat ≠ 0 := fun k => hl (by rw [e, k, L_zero])
    simp
    omega

theorem pow16 {n k : Nat} (h : n < 10000 ^ 16) (hk : 16 ≤ k) : n < 10000 ^ k := Nat.lt_of_lt_of_le h (Nat.pow_le_pow_right (by decide) hk)

end Go.Proofs.YthnkmjkgcnhlfaaGreatDoor
