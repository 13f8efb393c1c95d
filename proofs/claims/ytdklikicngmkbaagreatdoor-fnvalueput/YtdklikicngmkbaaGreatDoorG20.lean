/- A row without noughts at its end: trimmed, by a contract. Texts of figures: the specification's l1IsFigures, the program's areFigures, arePlain, limbsOf, by contracts. -/
import Derived.Test.YtdklikicngmkbaaGreatDoorG01
import Derived.Test.YtdklikicngmkbaaGreatDoorG00
import Derived.WalkLawsBesides
import Derived.Deep.QuietTactic
import Derived.BigQuiet
import Derived.WalkSmall
import Derived.Test.YtdklikicngmkbaaGreatDoorG19
namespace Go.Proofs.YtdklikicngmkbaaGreatDoor
open Go.RowKit
set_option maxRecDepth 100000


/-- What a call answers that hands on a list that was owned: the world is as it was. -/
def Hands (B : Nat) (w : World) (l : List Int) (e : Ending) (w' : World) : Prop :=
  ∃ ao cap, e = .returned (.slice ao l.length cap) ∧ Own B w' (.slice ao l.length cap) l ∧ w' = w

theorem Hands.of {B : Nat} {w : World} {l : List Int} {v : Value} (h : Own B w v l) : Hands B w l (.returned v) w := by
  have h' := h
  obtain ⟨_, h2⟩ := h
  rcases h2 with ⟨rfl, e⟩ | ⟨g, cap, cur, rfl, _⟩
  · exact ⟨none, 0, by rw [e], by rw [e]; exact h', rfl⟩
  · exact ⟨_, cap, rfl, h', rfl⟩

/-- The length of a slice value: for a loop's measure. -/
def lenOf : Value → Nat
  | .slice _ k _ => k
  | _ => 0

theorem trimmed_any (w : World) (B : Nat) (v : Value) (l : List Int) (ho : Own B w v l) :
    Calls Tryz.prog 174 #[v] w (Hands B w (trim l)) := by
  have ho' := ho
  obtain ⟨_, hs⟩ := ho
  rcases hs with ⟨rfl, hn⟩ | ⟨g, cap, cur, rfl, _, _, hn, hm, _⟩
  · have e : l = [] := List.length_eq_zero_iff.1 hn
    subst e
    go_enter Tryz.func174, Tryz.ntmps174
    go_wp2
    refine wp_loop_rounds 1 ?_
    rw [rounds_succ]
    go_wp2
    go_ret
    exact Hands.of (Own.nil _ _)
  · unfold maxLen at hm
    go_enter Tryz.func174, Tryz.ntmps174
    go_wp2
    go_loopw [0] (fun s wr => ∃ k : Nat, k ≤ l.length ∧ s = .slice (some ⟨g, 0, none⟩) k cap ∧ trim (l.take k) = trim l ∧ wr = w)
      (fun s _ => lenOf s)
    case atStart => exact ⟨l.length, Nat.le_refl _, rfl, by rw [List.take_of_length_le (Nat.le_refl _)], rfl⟩
    case round =>
      obtain ⟨k, hk, rfl, ht, rfl⟩ := hrel
      have Ht := hide ht
      clear ht
      by_cases h0 : k = 0
      · subst h0
        go_wp2
        go_ret
        have e := unhide Ht
        have o := Own.cut ho' 0 (by omega)
        simp [trim] at e o
        rw [e]
        exact Hands.of o
      · have hp : 0 < k := by omega
        have hp' : decide ((0 : Int) < k) = true := by simp; omega
        have hz : k - 1 < l.length := by omega
        have hc := (World.ownsRow.cellAt ho' (k - 1) (by omega))
        rw [ints_at hz] at hc
        clear h0
        by_cases hl0 : l[k - 1] = 0
        · have hl0' : (l[k - 1] == 0) = true := by simp [hl0]
          have e := trim_take_zero hz (by rw [getD_at hz]; exact hl0)
          rw [show k - 1 + 1 = k by omega, unhide Ht] at e
          have He := hide e.symm
          clear e hl0
          go_wp2
          go_roundw
          case rel => exact ⟨k - 1, by omega, rfl, unhide He, by trivial⟩
          case measure => simp [lenOf]; omega
        · have hl0' : (l[k - 1] == 0) = false := by simp [hl0]
          have e := trim_take_ne hz (by rw [getD_at hz]; exact hl0)
          rw [show k - 1 + 1 = k by omega, unhide Ht] at e
          have o := Own.cut ho' k hk
          rw [← e] at o
          have He := hide e
          clear e hl0
          go_wp2
          go_ret
          exact Hands.of o

end Go.Proofs.YtdklikicngmkbaaGreatDoor

namespace Go.Proofs.YtdklikicngmkbaaGreatDoor
open Go.RowKit
set_option maxRecDepth 100000


/-- A byte is a figure. -/
def isFig (b : UInt8) : Bool := decide (48 ≤ b.toNat) && decide (b.toNat ≤ 57)

/-- All bytes are figures. -/
def figB (s : ByteArray) : Bool := s.data.toList.all isFig

/-- The first byte. -/
def fstB (s : ByteArray) : Nat := if h : 0 < s.size then s[0].toNat else 0

/-- Figures, one at least, without noughts ahead. -/
def plainB (s : ByteArray) : Bool := figB s && (decide (s.size = 1) || (decide (1 < s.size) && decide (fstB s ≠ 48)))

theorem bytes_at (s : ByteArray) (i : Nat) (h : i < s.size) : s.data.toList[i]'(by simpa using h) = s[i] := by simp [ByteArray.getElem_eq_getElem_data]

theorem figB_at {s : ByteArray} (h : figB s = true) (i : Nat) (hi : i < s.size) : 48 ≤ s[i].toNat ∧ s[i].toNat ≤ 57 := by
  unfold figB at h
  rw [List.all_eq_true] at h
  have := h (s.data.toList[i]'(by simpa using hi)) (List.getElem_mem _)
  rw [bytes_at s i hi] at this
  simpa [isFig] using this

theorem figB_of {s : ByteArray} (h : ∀ i (hi : i < s.size), 48 ≤ s[i].toNat ∧ s[i].toNat ≤ 57) : figB s = true := by
  unfold figB
  rw [List.all_eq_true]
  intro b hb
  obtain ⟨i, hi, rfl⟩ := List.getElem_of_mem hb
  have hi' : i < s.size := by simpa using hi
  rw [bytes_at s i hi']
  have := h i hi'
  simp [isFig, this]

theorem figB_not {s : ByteArray} (i : Nat) (hi : i < s.size) (h : s[i].toNat < 48 ∨ 57 < s[i].toNat) : figB s = false := by
  cases e : figB s
  · rfl
  · have := figB_at e i hi
    omega

theorem plain_not {s : ByteArray} (h : figB s = false) : plainB s = false := by simp [plainB, h]

theorem plain_nil {s : ByteArray} (h : s.size = 0) : plainB s = false := by simp [plainB, h]

theorem plain_one {s : ByteArray} (hf : figB s = true) (h : s.size = 1) : plainB s = true := by simp [plainB, hf, h]

theorem plain_lead {s : ByteArray} (hf : figB s = true) (h : 0 < s.size) (h0 : s[0].toNat ≠ 48) : plainB s = true := by
  have e : fstB s = s[0].toNat := by unfold fstB; rw [dif_pos h]
  have : s.size = 1 ∨ 1 < s.size := by omega
  unfold plainB
  rw [hf, e]
  rcases this with k | k <;> simp [k, h0]

theorem plain_zero {s : ByteArray} (h : 1 < s.size) (h0 : s[0].toNat = 48) : plainB s = false := by
  have e : fstB s = s[0].toNat := by unfold fstB; rw [dif_pos (by omega)]
  unfold plainB
  rw [e, h0]
  have : s.size ≠ 1 := by omega
  simp [this]

theorem plain_fig {s : ByteArray} (h : plainB s = true) : figB s = true := by
  unfold plainB at h
  rw [Bool.and_eq_true] at h
  exact h.1

theorem plain_pos {s : ByteArray} (h : plainB s = true) : 0 < s.size := by
  rcases Nat.eq_zero_or_pos s.size with k | k
  · rw [plain_nil k] at h
    cases h
  · exact k

theorem empty_size (s : ByteArray) : s.toList.isEmpty = decide (s.size = 0) := by
  rw [ByteArray.toList_eq]
  have e : s.data.toList.length = s.size := by simp
  rw [← e]
  cases s.data.toList <;> simp

theorem zero_text {s : ByteArray} (h1 : s.size = 1) (h0 : s[0].toNat = 48) : (s.toList == [48]) = true := by
  rw [ByteArray.toList_eq, beq_iff_eq]
  have e : s.data.toList.length = 1 := by rw [← h1]; simp
  have e0 := bytes_at s 0 (by omega)
  obtain ⟨x, hx⟩ := List.length_eq_one_iff.1 e
  simp only [hx, List.getElem_cons_zero] at e0
  rw [hx, e0]
  congr 1
  apply UInt8.toNat_inj.1
  rw [h0]
  rfl

theorem zero_text_not {s : ByteArray} (h1 : s.size ≠ 1) : (s.toList == [48]) = false := by
  rw [ByteArray.toList_eq, beq_eq_false_iff_ne]
  intro e
  have := congrArg List.length e
  simp at this
  exact h1 this

/-- The figures of a text. -/
def dg (s : ByteArray) : List Nat := s.data.toList.map (fun b => b.toNat - 48)

theorem dg_len (s : ByteArray) : (dg s).length = s.size := by simp [dg]

theorem fig_dg {s : ByteArray} (h : figB s = true) : Fig s (dg s) := by
  unfold figB at h
  rw [List.all_eq_true] at h
  refine ⟨?_, ?_⟩
  · unfold dg
    rw [List.map_map]
    conv => lhs; rw [← List.map_id s.data.toList]
    refine List.map_congr_left fun b hb => ?_
    have := h b hb
    simp only [isFig, Bool.and_eq_true, decide_eq_true_eq] at this
    apply UInt8.toNat_inj.1
    simp only [id, Function.comp, UInt8.toNat_ofNat']
    omega
  · intro d hd
    unfold dg at hd
    rw [List.mem_map] at hd
    obtain ⟨b, hb, rfl⟩ := hd
    have := h b hb
    simp only [isFig, Bool.and_eq_true, decide_eq_true_eq] at this
    omega

theorem l1IsFigures_any (w : World) (s : ByteArray) (hs : s.size ≤ maxLen) :
    Calls Tryz.prog 134 #[.string s] w fun e w' => e = .returned (.bool (plainB s)) ∧ w' = w := by
  unfold maxLen at hs
  go_enter Tryz.func134, Tryz.ntmps134
  go_wp2
  go_loopw [3] (fun ii wr => ∃ i : Nat, ii = .int .i64 i ∧ i ≤ s.size ∧ (∀ j (h : j < s.size), j < i → 48 ≤ s[j].toNat ∧ s[j].toNat ≤ 57) ∧ wr = w) (fun ii _ => s.size - (intOf ii).toNat)
  case atStart => exact ⟨0, rfl, Nat.zero_le _, fun j _ h => absurd h (Nat.not_lt_zero _), rfl⟩
  case round =>
    obtain ⟨i, rfl, hi, hF, rfl⟩ := hrel
    have HF := hide hF
    clear hF
    by_cases h : i < s.size
    · by_cases h1 : s[i].toNat < 48
      · have E := hide (plain_not (figB_not i h (.inl h1)))
        go_wp2
        go_ret
        exact ⟨by rw [unhide E]; rfl, rfl⟩
      · by_cases h2 : 57 < s[i].toNat
        · have E := hide (plain_not (figB_not i h (.inr h2)))
          go_wp2
          go_ret
          exact ⟨by rw [unhide E]; rfl, rfl⟩
        · go_wp2
          go_roundw
          case rel =>
            refine ⟨i + 1, rfl, by omega, fun j hj hji => ?_, trivial⟩
            by_cases hji' : j < i
            · exact unhide HF j hj hji'
            · obtain rfl : j = i := by omega
              omega
          case measure => simp only [intOf]; omega
    · have e : i = s.size := by omega
      have hfig : figB s = true := figB_of fun j hj => unhide HF j hj (by omega)
      by_cases k0 : s.size = 0
      · have E := hide (plain_nil k0)
        go_wp2
        go_ret
        exact ⟨by rw [unhide E]; rfl, rfl⟩
      · by_cases k1 : s.size = 1
        · have E := hide (plain_one hfig k1)
          go_wp2
          go_ret
          exact ⟨by rw [unhide E]; rfl, rfl⟩
        · have hp : 0 < s.size := by omega
          have k1' : ((s.size : Int) == 1) = false := by rw [beq_eq_false_iff_ne]; omega
          by_cases k2 : s[0].toNat = 48
          · have E := hide (plain_zero (by omega) k2)
            go_wp2
            go_ret
            exact ⟨by rw [unhide E]; rfl, rfl⟩
          · have E := hide (plain_lead hfig hp k2)
            have k2' : ((s[0].toNat : Int) != 48) = true := by rw [bne_iff_ne]; omega
            go_wp2
            go_ret
            exact ⟨by rw [unhide E]; rfl, rfl⟩

theorem areFigures_any (w : World) (s : ByteArray) (hs : s.size ≤ maxLen) :
    Calls Tryz.prog 122 #[.string s] w fun e w' => e = .returned (.bool (figB s && decide (s.size ≠ 0))) ∧ w' = w := by
  unfold maxLen at hs
  go_enter Tryz.func122, Tryz.ntmps122
  go_wp2
  go_loopw [6] (fun ii wr => ∃ i : Nat, ii = .int .i64 i ∧ i ≤ s.size ∧ (∀ j (h : j < s.size), j < i → 48 ≤ s[j].toNat ∧ s[j].toNat ≤ 57) ∧ wr = w) (fun ii _ => s.size - (intOf ii).toNat)
  case atStart => exact ⟨0, rfl, Nat.zero_le _, fun j _ h => absurd h (Nat.not_lt_zero _), rfl⟩
  case round =>
    obtain ⟨i, rfl, hi, hF, rfl⟩ := hrel
    have HF := hide hF
    clear hF
    by_cases h : i < s.size
    · by_cases h1 : s[i].toNat < 48
      · have E := hide (figB_not i h (.inl h1))
        go_wp2
        go_ret
        exact ⟨by rw [unhide E]; rfl, rfl⟩
      · by_cases h2 : 57 < s[i].toNat
        · have E := hide (figB_not i h (.inr h2))
          go_wp2
          go_ret
          exact ⟨by rw [unhide E]; rfl, rfl⟩
        · go_wp2
          go_roundw
          case rel =>
            refine ⟨i + 1, rfl, by omega, fun j hj hji => ?_, trivial⟩
            by_cases hji' : j < i
            · exact unhide HF j hj hji'
            · obtain rfl : j = i := by omega
              omega
          case measure => simp only [intOf]; omega
    · have e : i = s.size := by omega
      have hfig : figB s = true := figB_of fun j hj => unhide HF j hj (by omega)
      have E := hide hfig
      clear hfig
      by_cases k0 : s.size = 0
      · have k1 : s.toList.isEmpty = true := by rw [empty_size]; simp [k0]
        go_wp2
        go_ret
        exact ⟨by rw [unhide E]; simp [k0], rfl⟩
      · have k1 : s.toList.isEmpty = false := by rw [empty_size]; simp [k0]
        go_wp2
        go_ret
        exact ⟨by rw [unhide E]; simp [k0], rfl⟩

theorem arePlain_any (w : World) (s : ByteArray) (hs : s.size ≤ maxLen) :
    Calls Tryz.prog 121 #[.string s] w fun e w' => e = .returned (.bool (plainB s)) ∧ w' = w := by
  have C := hide (fun W => areFigures_any W s hs)
  unfold maxLen at hs
  go_enter Tryz.func121, Tryz.ntmps121
  go_wp2_with fail
  refine (unhide C _).mono ?_
  rintro e w1 ⟨rfl, rfl⟩
  generalize hA : (figB s && decide (s.size ≠ 0)) = A
  have HA := hide hA
  clear hA
  cases A with
  | false =>
    have E : plainB s = false := by
      have := unhide HA
      cases hf : figB s
      · exact plain_not hf
      · rw [hf] at this
        simp at this
        exact plain_nil (by simpa using this)
    have HE := hide E
    clear E
    go_wp2
    go_ret
    exact ⟨by rw [unhide HE]; rfl, rfl⟩
  | true =>
    have h2 := unhide HA
    rw [Bool.and_eq_true] at h2
    have hf := hide h2.1
    have hp : 0 < s.size := by have := of_decide_eq_true h2.2; omega
    clear h2
    by_cases k2 : s[0].toNat = 48
    · by_cases k1 : s.size = 1
      · have HE := hide (plain_one (unhide hf) k1)
        have k3 := zero_text k1 k2
        go_wp2
        go_ret
        exact ⟨by rw [unhide HE]; rfl, rfl⟩
      · have HE := hide (plain_zero (by omega) k2)
        have k3 := zero_text_not k1
        go_wp2
        go_ret
        exact ⟨by rw [unhide HE]; rfl, rfl⟩
    · have HE := hide (plain_lead (unhide hf) hp k2)
      go_wp2
      go_ret
      exact ⟨by rw [unhide HE]; rfl, rfl⟩

theorem limbsOf_any (w : World) (s : ByteArray) (ds : List Nat) (hs : Fig s ds) (hl : ds.length ≤ 1000) :
    Calls Tryz.prog 124 #[.string s] w (Gives w (L (num ds))) := by
  have hsz : s.size ≤ 1000 := by rw [hs.size]; exact hl
  obtain ⟨i0, hi, hz0, hz1, hz2⟩ := info_parts Tryz.info3
  go_enter Tryz.func124, Tryz.ntmps124
  go_wp2_with (at_make; refine wpList_make_own _ rfl _ _ 141 rfl w.heap.size 3 i0 (.int .i64 0) 1 Tryz.underlying141 hi hz0 hz1 _ _ _ (s.size / 4 + 1) rfl rfl (by omega) ?b2 ?b3 (Nat.le_refl _) ?_)
  case b2 => rw [hz2]; omega
  case b3 => unfold maxLen; omega
  intro w0 hown0 hgrow0
  have own0 : Own w.heap.size w0 (.slice (some ⟨w.heap.size, 0, none⟩) 0 (s.size / 4 + 1)) [] := hown0
  have bel0 : Below w.heap.size w w0 := (Below.refl _ _).grown hgrow0 (Nat.le_refl _) (fun k h => by cases h)
  clear hown0 hgrow0
  have hF0 : Fig s (ds.take s.size) := by rw [hs.size, List.take_length]; exact hs
  have HF := hide hF0
  have HDL := hide hs.size
  clear hF0 hs
  go_wp2
  go_loopw [3, 4, 5, 6] (fun oo ee _ _ wr => ∃ (e : Int) (out : List Int), ee = .int .i64 e ∧ -3 ≤ e ∧ e ≤ s.size ∧ 4 * (out.length : Int) + e ≤ s.size + 3 ∧ Lim out ∧ (num ds : Int) = num (ds.take e.toNat) * 10000 ^ out.length + val out ∧
      Own w.heap.size wr oo out ∧ Below w.heap.size w wr) (fun _ ee _ _ _ => (intOf ee).toNat)
  case atStart => exact ⟨s.size, [], rfl, by omega, by omega, by simp; omega, Lim.nil, by rw [Int.toNat_natCast, unhide HDL, List.take_length]; simp [val], own0, bel0⟩
  case round =>
    obtain ⟨e, out, rfl, he1, he2, hol0, hlim, hval, hown, hbel⟩ := hrel
    have HV := hide hval
    have hfz := hbel.size
    have HO := hide hown
    clear hval own0 bel0
    by_cases h : 0 < e
    · obtain ⟨k, rfl⟩ := Int.eq_ofNat_of_zero_le (Int.le_of_lt h)
      rw [Int.toNat_natCast] at HV
      have hk : k ≤ s.size := by omega
      obtain ⟨ao, capo, rfl⟩ := hown.shape
      have shape := hown.split
      clear hown
      by_cases h4 : 4 < k
      · obtain ⟨f, hf⟩ : ∃ f : Nat, (k : Int) - 4 = f := ⟨k - 4, by omega⟩
        have hff : f + 4 = k ∨ f = 0 ∧ k ≤ 4 := by omega
        have hfle : f ≤ k := by omega
        have hfle4 : k ≤ f + 4 := by omega
        have HFF := hide hff
        have hf0 : (0 : Int) < f := by omega
        clear hff
        go_wp2
        go_loopw [5, 6] (fun nn ii wr2 => ∃ n i : Nat, nn = .int .i64 n ∧ ii = .int .i64 i ∧ f ≤ i ∧ i ≤ k ∧ num (ds.take i) = num (ds.take f) * 10 ^ (i - f) + n ∧ n < 10 ^ (i - f) ∧ wr2 = wr) (fun _ ii _ => k - (intOf ii).toNat)
        case atStart => exact ⟨0, f, rfl, rfl, Nat.le_refl _, hfle, by simp, by simp, rfl⟩
        case round =>
          obtain ⟨n, i, rfl, rfl, hi1, hi2, hn1, hn2, rfl⟩ := hrel
          have HN := hide hn1
          have HN2 := hide hn2
          clear hn1
          by_cases hik : i < k
          · obtain ⟨d, hd, hd1, hd2, hd3⟩ := (unhide HF).at (i := i) (by omega)
            have hn3 : n < 1000 := Nat.lt_of_lt_of_le hn2 (Nat.pow_le_pow_right (show 0 < 10 by decide) (show i - f ≤ 3 by omega))
            have his : i < s.size := by omega
            have HD := hide hd3
            clear hd3 hn2
            go_wp2
            go_roundw
            case rel =>
              obtain ⟨e1, e2⟩ := fig_step hd2 (unhide HD) hd1 (unhide HN) (unhide HN2) hi1
              exact ⟨n * 10 + d, i + 1, by congr 1, rfl, by omega, by omega, e1, e2, trivial⟩
            case measure => simp only [intOf]; omega
          · have ei : i = k := by omega
            have hn3 : n < 10000 := Nat.lt_of_lt_of_le hn2 (Nat.pow_le_pow_right (show 0 < 10 by decide) (show i - f ≤ 4 by omega))
            rw [ei] at HN
            have HV2 := hide (fig_out (unhide HN) (unhide HFF) (unhide HV))
            have hol : out.length ≤ 8000000 := by omega
            clear ei hn2
            rcases shape with ⟨e1, hz⟩ | ⟨g, capo', e1, hBg, hgs, hcapo, hmo⟩
            all_goals
              simp only [Value.slice.injEq] at e1
              obtain ⟨rfl, hz2, rfl⟩ := e1
              clear hz2
              (try (clear hz))
              go_wp2_with (at_builtin; refine wpList_push rfl _ _ 141 rfl Tryz.underlying141 w.heap.size _ out _ (unhide HO) rfl rfl hol hfz ?_; intro g1 cap1 w1 hown1 hb1 hc1 hm1 hBg1 hgs1)
              go_roundw
              case rel =>
                exact ⟨_, out ++ [(n : Int)], rfl, by omega, by omega, by rw [List.length_append]; simp; omega, Lim.app hlim (Lim.one (by omega) (by omega)), (by rw [Int.toNat_natCast]; exact unhide HV2), hown1, hbel.trans hb1⟩
              case measure => simp only [intOf]; omega
      · have hfle : 0 ≤ k := by omega
        have hneg : ¬ (0 : Int) < (k : Int) - 4 := by omega
        go_wp2
        go_loopw [5, 6] (fun nn ii wr2 => ∃ n i : Nat, nn = .int .i64 n ∧ ii = .int .i64 i ∧ 0 ≤ i ∧ i ≤ k ∧ num (ds.take i) = num (ds.take 0) * 10 ^ (i - 0) + n ∧ n < 10 ^ (i - 0) ∧ wr2 = wr) (fun _ ii _ => k - (intOf ii).toNat)
        case atStart => exact ⟨0, 0, rfl, rfl, Nat.le_refl _, hfle, by simp, by simp, rfl⟩
        case round =>
          obtain ⟨n, i, rfl, rfl, hi1, hi2, hn1, hn2, rfl⟩ := hrel
          have HN := hide hn1
          have HN2 := hide hn2
          clear hn1
          by_cases hik : i < k
          · obtain ⟨d, hd, hd1, hd2, hd3⟩ := (unhide HF).at (i := i) (by omega)
            have hn3 : n < 1000 := Nat.lt_of_lt_of_le hn2 (Nat.pow_le_pow_right (show 0 < 10 by decide) (show i - 0 ≤ 3 by omega))
            have his : i < s.size := by omega
            have HD := hide hd3
            clear hd3 hn2
            go_wp2
            go_roundw
            case rel =>
              obtain ⟨e1, e2⟩ := fig_step hd2 (unhide HD) hd1 (unhide HN) (unhide HN2) hi1
              exact ⟨n * 10 + d, i + 1, by congr 1, rfl, by omega, by omega, e1, e2, trivial⟩
            case measure => simp only [intOf]; omega
          · have ei : i = k := by omega
            have hn3 : n < 10000 := Nat.lt_of_lt_of_le hn2 (Nat.pow_le_pow_right (show 0 < 10 by decide) (show i - 0 ≤ 4 by omega))
            rw [ei] at HN
            have HV2 := hide (fig_out (unhide HN) (Or.inr ⟨rfl, by omega⟩) (unhide HV))
            have hol : out.length ≤ 8000000 := by omega
            clear ei hn2
            rcases shape with ⟨e1, hz⟩ | ⟨g, capo', e1, hBg, hgs, hcapo, hmo⟩
            all_goals
              simp only [Value.slice.injEq] at e1
              obtain ⟨rfl, hz2, rfl⟩ := e1
              clear hz2
              (try (clear hz))
              go_wp2_with (at_builtin; refine wpList_push rfl _ _ 141 rfl Tryz.underlying141 w.heap.size _ out _ (unhide HO) rfl rfl hol hfz ?_; intro g1 cap1 w1 hown1 hb1 hc1 hm1 hBg1 hgs1)
              go_roundw
              case rel =>
                exact ⟨_, out ++ [(n : Int)], rfl, by omega, by omega, by rw [List.length_append]; simp; omega, Lim.app hlim (Lim.one (by omega) (by omega)), (by rw [show ((k : Int) - 4).toNat = 0 by omega]; exact unhide HV2), hown1, hbel.trans hb1⟩
              case measure => simp only [intOf]; omega
    · have C := hide (trimmed_any wr _ _ out hown)
      have et : trim out = L (num ds) := by
        rw [trim_eq hlim]
        have := unhide HV
        rw [show e.toNat = 0 by omega, List.take_zero, num_nil] at this
        congr 1
        omega
      rw [et] at C
      clear et
      obtain ⟨ao, capo, rfl⟩ := hown.shape
      go_wp2_with fail
      refine (unhide C).mono ?_
      rintro e w2 ⟨ao2, cap2, rfl, o2, rfl⟩
      go_wp2
      go_ret
      exact ⟨ao2, cap2, rfl, o2, hbel⟩

end Go.Proofs.YtdklikicngmkbaaGreatDoor
