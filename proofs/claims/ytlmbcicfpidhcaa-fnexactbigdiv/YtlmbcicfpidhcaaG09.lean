/- The specification's limbs, by contracts: noughts struck, a sum, a difference. A box of a number that stands empty while a call goes on. Shapes of what is owned. -/
import Derived.Test.YtlmbcicfpidhcaaG07
import Derived.Test.YtlmbcicfpidhcaaG05
import Derived.Test.YtlmbcicfpidhcaaG00
import Derived.Test.YtlmbcicfpidhcaaMath2
import Derived.WalkLawsBesides
import Derived.Deep.QuietTactic
import Derived.BigQuiet
import Derived.WalkSmall
import Derived.Deep.RegionWith
import Derived.Test.YtlmbcicfpidhcaaG08
namespace Go.Proofs.Ytlmbcicfpidhcaa
open Go.RowKit
set_option maxRecDepth 100000


theorem l1AddAbs_any (w : World) (u v : Value) (a b : Nat) (hu : Reads w u (L a)) (hv : Reads w v (L b)) (ha : a < 10000 ^ 200) (hb : b < 10000 ^ 200) :
    Calls Try.prog 90 #[u, v] w (Gives w (L (a + b))) := by
  have hla := L_len_le ha
  have hlb := L_len_le hb
  have hab : a + b < 10000 ^ 201 := by rw [show (201 : Nat) = 200 + 1 from rfl, Nat.pow_succ]; generalize 10000 ^ 200 = P at *; omega
  have hla' := L_lim a
  have hlb' := L_lim b
  have hstep := @add_end
  have va := val_L a
  have vb := val_L b
  clear ha hb
  have U := hide hu
  have V := hide hv
  obtain ⟨ao, b1, off, cap, rfl, hu⟩ := hu
  obtain ⟨ao', b2, off', cap', rfl, hv⟩ := hv
  have h1 := hu.le
  have h2 := hu.big
  have h3 := hv.le
  have h4 := hv.big
  unfold maxLen at h2 h4
  clear hu hv hstep
  have HAB := hide hab
  have HVA := hide va
  have HVB := hide vb
  clear hab va vb
  go_enter Try.func90, Try.ntmps90
  go_wp2
  go_loopw [5, 6, 7] (fun s o ii wr => ∃ (i : Nat) (over : Int) (out : List Int), ii = .int .i64 i ∧ o = .int .i64 over ∧ out.length = i ∧ Lim out ∧ val out + over * 10000 ^ i = val ((L a).take i) + val ((L b).take i) ∧ 0 ≤ over ∧ over ≤ 1 ∧
      Own w.heap.size wr s out ∧ Below w.heap.size w wr ∧ i ≤ 201)
    (fun _ o ii _ => 2000 - (intOf ii).toNat)
  case atStart => exact ⟨0, 0, [], rfl, rfl, rfl, Lim.nil, by simp [val], by omega, by omega, own_empty w (Nat.le_refl _), (Below.refl _ _).alloc (Nat.le_refl _) _, by omega⟩
  case round =>
    obtain ⟨i, over, out, rfl, rfl, hi', hlim, hval, ho1, ho2, hown, hbel, hi1⟩ := hrel
    have HI := hide hi'
    have HVal := hide hval
    clear hi' hval
    have hsz := hbel.size
    have U' := hide ((unhide U).later hbel)
    have V' := hide ((unhide V).later hbel)
    have hx1 := hla'.getD i
    have hx2 := hlb'.getD i
    by_cases hgo : i < (L a).length ∨ i < (L b).length ∨ 0 < over
    · have hi2 : i < 201 := by
        rcases hgo with h | h | h
        · omega
        · omega
        · by_cases h5 : (L a).length ≤ i ∧ (L b).length ≤ i
          · have e := unhide HVal
            rw [List.take_of_length_le h5.1, List.take_of_length_le h5.2, unhide HVA, unhide HVB] at e
            have := carry_more (n := a + b) hlim (by rw [unhide HI]; omega) h (unhide HAB)
            rw [unhide HI] at this
            exact this
          · omega
      have R := add_step (unhide HI) (unhide HVal) (x := (L a).getD i 0 + (L b).getD i 0 + over) rfl
      have HR := hide R
      have hol : out.length ≤ 8000000 := by rw [unhide HI]; omega
      clear R
      have C1 := hide (fun W (h : Reads W (Value.slice ao (L a).length cap) (L a)) => l1Limb_any W _ (L a) i h (by omega))
      have C2 := hide (fun W (h : Reads W (Value.slice ao' (L b).length cap') (L b)) => l1Limb_any W _ (L b) i h (by omega))
      generalize hxa : (L a).getD i 0 = xa at *
      generalize hxb : (L b).getD i 0 = xb at *
      have Hxa := hide hxa
      have Hxb := hide hxb
      clear hxa hxb
      obtain ⟨hx1, hx3⟩ := hx1
      obtain ⟨hx2, hx4⟩ := hx2
      have shape := hown.split
      have hown' := hide hown
      have cases3 : (i < (L a).length) ∨ (¬ i < (L a).length ∧ i < (L b).length) ∨ (¬ i < (L a).length ∧ ¬ i < (L b).length ∧ 0 < over) := by omega
      clear hgo hown
      rcases cases3 with c1 | ⟨c1, c2⟩ | ⟨c1, c2, c3⟩
      all_goals
        rcases shape with ⟨rfl, h0⟩ | ⟨g, capo, rfl, hBg, hgs, hcapo, hmo⟩
      all_goals
        try clear h0
        go_wp2_with (first
          | (go_at_call_of 81 (Value.slice ao (L a).length cap); refine (unhide C1 _ (unhide U')).mono ?_; rintro e w1 ⟨rfl, rfl⟩)
          | (go_at_call_of 81 (Value.slice ao' (L b).length cap'); refine (unhide C2 _ (unhide V')).mono ?_; rintro e w1 ⟨rfl, rfl⟩)
          | (at_builtin; refine wpList_push rfl _ _ 23 rfl Try.underlying23 w.heap.size _ out _ (unhide hown') rfl rfl hol hsz ?_; intro g1 cap1 w1 hown1 hb1 hc1 hm1 hBg1 hgs1))
        go_roundw
        case rel => exact ⟨i + 1, _, _, by go_num, rfl, by simp [unhide HI], hlim.app (Lim.one (by omega) (by omega)), unhide HR, by omega, by omega, hown1, hbel.trans hb1, by omega⟩
        case measure => simp [intOf]; omega
    · have hc1 : (L a).length ≤ i := by omega
      have hc2 : (L b).length ≤ i := by omega
      have hov : over = 0 := by omega
      subst hov
      have e := unhide HVal
      have etr := add_end (a := a) (b := b) hlim hc1 hc2 (by simpa using e)
      have fin : ∀ e w1, Gives wr (trim out) e w1 → Gives w (L (a + b)) e w1 := by
        rintro e w1 ⟨ao, cap, rfl, ho, hb⟩
        rw [etr] at ho ⊢
        exact ⟨ao, cap, rfl, ho.mono hsz, hbel.trans (hb.mono hsz)⟩
      have HFin := hide fin
      have hcall := l1Trim_any wr u5 out hown.reads (by rw [unhide HI]; omega)
      have HCall := hide hcall
      clear e etr fin hcall hgo
      rcases hown.split with ⟨rfl, h0⟩ | ⟨g, capo, rfl, hBg, hgs, hcapo, hmo⟩
      all_goals
        go_wp2_with fail
        refine (unhide HCall).mono ?_
        intro e w1 h
        obtain ⟨ao1, cap1, rfl, ho1, hb1⟩ := unhide HFin e w1 h
        go_wp2
        go_ret
        exact ⟨ao1, cap1, rfl, ho1, hb1⟩

end Go.Proofs.Ytlmbcicfpidhcaa

namespace Go.Proofs.Ytlmbcicfpidhcaa
open Go.RowKit


/-- The place for an answer, made first. -/
structure EBox' (w0 w : World) : Prop where
  below : Below w0.heap.size w0 w
  c0 : w.cell? ⟨w0.heap.size, 0, none⟩ = some (.bool false)
  c1 : w.cell? ⟨w0.heap.size, 1, none⟩ = some (.slice none 0 0)
  f0 : w.frozen? ⟨w0.heap.size, 0, none⟩ = false
  f1 : w.frozen? ⟨w0.heap.size, 1, none⟩ = false
  lt : w0.heap.size < w.heap.size

theorem EBox'.later {w0 w w' : World} (h : EBox' w0 w) (b : Below w.heap.size w w') : EBox' w0 w' :=
  ⟨h.below.trans (b.mono h.below.size), cell_later b h.c0, cell_later b h.c1, frozen_later b h.f0 h.lt, frozen_later b h.f1 h.lt, lt_later b h.lt⟩

theorem EBox'.start (w : World) : EBox' w (w.alloc (.cells #[.bool false, .slice none 0 0] 25)) :=
  ⟨(Below.refl _ _).alloc (Nat.le_refl _) _, by go_simp, by go_simp, by go_simp, by go_simp, by simp⟩

end Go.Proofs.Ytlmbcicfpidhcaa

namespace Go.Proofs.Ytlmbcicfpidhcaa
open Go.RowKit


theorem EBox'.later1 {w0 w w' : World} (h : EBox' w0 w) (b : Below (w0.heap.size + 1) w w') : EBox' w0 w' :=
  ⟨h.below.trans (b.mono (Nat.le_succ _)), (b.cell (p := ⟨w0.heap.size, 0, none⟩) (Nat.lt_succ_self _)).trans h.c0, (b.cell (p := ⟨w0.heap.size, 1, none⟩) (Nat.lt_succ_self _)).trans h.c1, (b.frozen (p := ⟨w0.heap.size, 0, none⟩) (Nat.lt_succ_self _)).trans h.f0, (b.frozen (p := ⟨w0.heap.size, 1, none⟩) (Nat.lt_succ_self _)).trans h.f1, Nat.lt_of_lt_of_le h.lt b.size⟩

end Go.Proofs.Ytlmbcicfpidhcaa
