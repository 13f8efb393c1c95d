/- A decimal in its box, and the place for an answer behind it. A difference of limbs: l1SubAbs by a contract. -/
import Derived.Test.YthnkmjkgcnhlfaaGreatDoorH04
import Derived.WalkSpells
import Derived.Test.YthnkmjkgcnhlfaaGreatDoorH09
import Derived.Test.YthnkmjkgcnhlfaaGreatDoorH02
import Derived.Test.YthnkmjkgcnhlfaaGreatDoorH01
import Derived.Test.YthnkmjkgcnhlfaaGreatDoorH00
import Derived.WalkLawsBesides
import Derived.Deep.QuietTactic
import Derived.BigQuiet
import Derived.WalkSmall
import Derived.Deep.RegionWith
namespace Go.Proofs.YthnkmjkgcnhlfaaGreatDoor
open Go.RowKit

/-- A decimal in its box, and the place for an answer behind it. -/
structure DcBx (w0 w' : World) (p : Bool) (u : Value) (s : Int) : Prop where
  below : Below w0.heap.size w0 w'
  a0 : w'.cell? ⟨w0.heap.size, 0, none⟩ = some (.bool p)
  a1 : w'.cell? ⟨w0.heap.size, 1, none⟩ = some u
  a2 : w'.cell? ⟨w0.heap.size, 2, none⟩ = some (.int .i64 s)
  r0 : w'.cell? ⟨w0.heap.size + 1, 0, none⟩ = some (.bool false)
  r1 : w'.cell? ⟨w0.heap.size + 1, 1, none⟩ = some (.slice none 0 0)
  r2 : w'.cell? ⟨w0.heap.size + 1, 2, none⟩ = some (.int .i64 0)
  f0 : w'.frozen? ⟨w0.heap.size + 1, 0, none⟩ = false
  f1 : w'.frozen? ⟨w0.heap.size + 1, 1, none⟩ = false
  f2 : w'.frozen? ⟨w0.heap.size + 1, 2, none⟩ = false
  lt : w0.heap.size + 1 < w'.heap.size

theorem DcBx.later {w0 w w' : World} {p : Bool} {u : Value} {s : Int} (h : DcBx w0 w p u s) (k : Below w.heap.size w w') : DcBx w0 w' p u s :=
  ⟨h.below.trans (k.mono h.below.size), cell_later k h.a0, cell_later k h.a1, cell_later k h.a2, cell_later k h.r0, cell_later k h.r1, cell_later k h.r2, frozen_later k h.f0 h.lt, frozen_later k h.f1 h.lt, frozen_later k h.f2 h.lt, lt_later k h.lt⟩

theorem DcBx.start (w : World) (p : Bool) (u : Value) (s : Int) : DcBx w ((w.alloc (.cells #[.bool p, u, .int .i64 s] 27)).alloc (.cells #[.bool false, .slice none 0 0, .int .i64 0] 27)) p u s :=
  ⟨((Below.refl _ _).alloc (Nat.le_refl _) _).alloc (by simp) _, by go_simp, by go_simp, by go_simp, by go_simp, by go_simp, by go_simp, by go_simp, by go_simp, by go_simp, by simp⟩

end Go.Proofs.YthnkmjkgcnhlfaaGreatDoor

namespace Go.Proofs.YthnkmjkgcnhlfaaGreatDoor
open Go.RowKit
set_option maxRecDepth 100000

theorem l1SubAbs_any (w : World) (u v : Value) (a b : Nat) (hu : Reads w u (L a)) (hv : Reads w v (L b)) (ha : a < 10000 ^ 200) (hba : b ≤ a) :
    Calls Tryz.prog 118 #[u, v] w (Gives w (L (a - b))) := by
  have hla := L_len_le ha
  have hlb : (L b).length ≤ 200 := L_len_le (Nat.lt_of_le_of_lt hba ha)
  have hla' := L_lim a
  have hlb' := L_lim b
  have HBA := hide hba
  clear ha hba
  have U := hide hu
  have V := hide hv
  obtain ⟨ao, b1, off, cap, rfl, hu⟩ := hu
  obtain ⟨ao', b2, off', cap', rfl, hv⟩ := hv
  have h1 := hu.le
  have h2 := hu.big
  have h3 := hv.le
  have h4 := hv.big
  unfold maxLen at h2 h4
  clear hv
  go_enter Tryz.func118, Tryz.ntmps118
  go_wp2
  go_loopw [5, 6, 7] (fun s o ii wr => ∃ (i : Nat) (under : Int) (out : List Int), ii = .int .i64 i ∧ o = .int .i64 under ∧ out.length = i ∧ Lim out ∧ val out - under * 10000 ^ i = val ((L a).take i) - val ((L b).take i) ∧ 0 ≤ under ∧ under ≤ 1 ∧
      Own w.heap.size wr s out ∧ Below w.heap.size w wr ∧ i ≤ (L a).length)
    (fun _ o ii _ => 2000 - (intOf ii).toNat)
  case atStart => exact ⟨0, 0, [], rfl, rfl, rfl, Lim.nil, by simp [val], by omega, by omega, own_empty w (Nat.le_refl _), (Below.refl _ _).alloc (Nat.le_refl _) _, by omega⟩
  case round =>
    obtain ⟨i, under, out, rfl, rfl, hi', hlim, hval, ho1, ho2, hown, hbel, hi1⟩ := hrel
    have HI := hide hi'
    have HVal := hide hval
    clear hi' hval
    have hsz := hbel.size
    have V' := hide ((unhide V).later hbel)
    have hx2 := hlb'.getD i
    have shape := hown.split
    have hown' := hide hown
    clear hown
    by_cases hlt : i < (L a).length
    · have hx1 := hla'.at hlt
      have hc := (hu.later hbel).cell i hlt
      have hat := hu.at_ (by omega)
      subst hat
      have hol : out.length ≤ 8000000 := by rw [unhide HI]; omega
      have C2 := hide (fun W (h : Reads W (Value.slice ao' (L b).length cap') (L b)) => l1Limb_any W _ (L b) i h (by omega))
      have S := hide (fun d u (hd : d - u * 10000 = (L a).getD i 0 - (L b).getD i 0 - under) => sub_step (unhide HI) (unhide HVal) rfl hd)
      rw [getD_at hlt] at S
      generalize hxa : (L a)[i] = xa at *
      generalize hxb : (L b).getD i 0 = xb at *
      have Hxa := hide hxa
      have Hxb := hide hxb
      clear hxa hxb hu
      obtain ⟨hx1, hx3⟩ := hx1
      obtain ⟨hx2, hx4⟩ := hx2
      by_cases hneg : xa - xb - under < 0
      · have HR := hide (unhide S (xa - xb - under + 10000) 1 (by omega))
        rcases shape with ⟨rfl, h0⟩ | ⟨g, capo, rfl, hBg, hgs, hcapo, hmo⟩
        all_goals
          try clear h0
          go_wp2
          go_quiet ((go_at_call 122; exact Calls.quiet_of_same (unhide C2 _ ((unhide V').later (below_drewN (Below.refl _ _) _)))))
          go_wp2_with (at_builtin; refine wpList_push rfl _ _ 23 rfl Tryz.underlying23 w.heap.size _ out _ ((unhide hown').later (below_drewN (Below.refl _ _) _)) rfl rfl hol hsz ?_; intro g1 cap1 w1 hown1 hb1 hc1 hm1 hBg1 hgs1)
          go_roundw
          case rel => exact ⟨i + 1, _, _, by go_num, rfl, by simp [unhide HI], hlim.app (Lim.one (by omega) (by omega)), unhide HR, by omega, by omega, hown1, (below_draws hbel _).trans hb1, by omega⟩
          case measure => simp [intOf]; omega
      · have HR := hide (unhide S (xa - xb - under) 0 (by omega))
        rcases shape with ⟨rfl, h0⟩ | ⟨g, capo, rfl, hBg, hgs, hcapo, hmo⟩
        all_goals
          try clear h0
          go_wp2
          go_quiet ((go_at_call 122; exact Calls.quiet_of_same (unhide C2 _ ((unhide V').later (below_drewN (Below.refl _ _) _)))))
          go_wp2_with (at_builtin; refine wpList_push rfl _ _ 23 rfl Tryz.underlying23 w.heap.size _ out _ ((unhide hown').later (below_drewN (Below.refl _ _) _)) rfl rfl hol hsz ?_; intro g1 cap1 w1 hown1 hb1 hc1 hm1 hBg1 hgs1)
          go_roundw
          case rel => exact ⟨i + 1, _, _, by go_num, rfl, by simp [unhide HI], hlim.app (Lim.one (by omega) (by omega)), unhide HR, by omega, by omega, hown1, (below_draws hbel _).trans hb1, by omega⟩
          case measure => simp [intOf]; omega
    · have ei : i = (L a).length := by omega
      have e := unhide HVal
      rw [ei] at e
      have etr := sub_end (a := a) (b := b) hlim ((unhide HI).trans ei) (unhide HBA) ho1 e
      have fin : ∀ e w1, Gives wr (trim out) e w1 → Gives w (L (a - b)) e w1 := by
        rintro e w1 ⟨ao, cap, rfl, ho, hb⟩
        rw [etr] at ho ⊢
        exact ⟨ao, cap, rfl, ho.mono hsz, hbel.trans (hb.mono hsz)⟩
      have HFin := hide fin
      have hcall := l1Trim_any wr u5 out (unhide hown').reads (by rw [unhide HI]; omega)
      have HCall := hide hcall
      clear e etr fin hcall ei hu
      rcases shape with ⟨rfl, h0⟩ | ⟨g, capo, rfl, hBg, hgs, hcapo, hmo⟩
      all_goals
        go_wp2_with fail
        refine (unhide HCall).mono ?_
        intro e w1 h
        obtain ⟨ao1, cap1, rfl, ho1, hb1⟩ := unhide HFin e w1 h
        go_wp2
        go_ret
        exact ⟨ao1, cap1, rfl, ho1, hb1⟩

end Go.Proofs.YthnkmjkgcnhlfaaGreatDoor
