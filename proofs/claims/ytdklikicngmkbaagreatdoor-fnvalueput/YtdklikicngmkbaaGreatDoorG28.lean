/- l2Get of the specification, by a contract: pos, nod. l2Get of the specification, at any text. -/
import Derived.Test.YtdklikicngmkbaaGreatDoorG22
import Derived.Test.YtdklikicngmkbaaGreatDoorH15
namespace Go.Proofs.YtdklikicngmkbaaGreatDoor
open Go.RowKit
set_option maxRecDepth 100000

set_option maxHeartbeats 8000000 in
theorem l2Get_pos_nod (w : World) (s : ByteArray) (d : Nat) (hd : DotAt (restB s) d) (hs : s.size ≤ maxLen) (h0 : 0 < s.size) (h45 : ¬ s[0].toNat = 45) (hfd : ¬ d < (restB s).size) :
    Calls Tryz.prog 83 #[.string s] w (GivesDec2 w (dgetR (negB s) ((restB s).extract 0 d) (partOf (restB s) d) (decide (d < (restB s).size)))) := by
  obtain ⟨O, hO⟩ : ∃ O, O = dgetR (negB s) ((restB s).extract 0 d) (partOf (restB s) d) (decide (d < (restB s).size)) := ⟨_, rfl⟩
  rw [← hO]
  have HO := hide hO
  clear hO
  obtain ⟨w0, hw0⟩ : ∃ w0, w0 = w.alloc (.cells #[.bool false, .slice none 0 0, .int .i64 0] 27) := ⟨_, rfl⟩
  have K0 : EDx w w0 := by rw [hw0]; exact EDx.start w
  have hr0 : (restB s).size ≤ maxLen := by unfold restB; split <;> (try rw [ByteArray.size_extract]) <;> omega
  have CD := hide (fun W => l2Dot_any W (restB s) d hd hr0)
  have hwm : ((restB s).extract 0 d).size ≤ maxLen := by rw [ByteArray.size_extract]; omega
  have CA := hide (fun W => l1IsFigures_any W ((restB s).extract 0 d) hwm)
  have hp0 : (partOf (restB s) d).size ≤ maxLen := by unfold partOf; split <;> first | exact Nat.zero_le _ | (rw [ByteArray.size_extract]; omega)
  have hdle := hd.1
  unfold maxLen at hs hr0 hwm hp0
  clear hd
  have hp1 : 0 < s.size := by omega
  have f : fstB s = s[0].toNat := by unfold fstB; rw [dif_pos hp1]
  have HN := hide (show negB s = false by unfold negB; rw [f]; simpa using h45)
  have HR := hide (show restB s = s by unfold restB; rw [unhide HN, if_neg (by simp)])
  rw [unhide HR] at CA CD hr0 hwm hp0 hdle HO hfd
  rw [unhide HN] at HO
  have h46 : ((s[0].toNat : Int) == 45) = false := by rw [beq_eq_false_iff_ne]; omega
  clear f HN HR
  subst hw0
  go_enter Tryz.func83, Tryz.ntmps83
  go_wp2_with fail
  generalize hw0 : w.alloc (.cells #[.bool false, .slice none 0 0, .int .i64 0] 27) = w0 at *
  have hw0 := hw0.symm
  refine (unhide CD _).mono ?_
  rintro e w1 ⟨rfl, rfl⟩
  clear hw0
  have hfb : decide (d < s.size) = false := by simpa using hfd
  have hpt : partOf s d = ⟨#[]⟩ := by unfold partOf; rw [if_neg hfd]
  rw [hfb, hpt] at HO
  clear hpt hfb hp0
  have hpn : (⟨#[]⟩ : ByteArray).size = 0 := rfl
  go_wp2_with fail
  generalize s.extract 0 d = wh at *
  generalize (⟨#[]⟩ : ByteArray) = pt at *
  have HPN := hide hpn
  clear hpn
  refine (unhide CA _).mono ?_
  rintro e w3 ⟨rfl, rfl⟩
  have EYES := hide (fun (h : dgetOk false wh pt false = true) => (unhide HO).trans (dget_yes h))
  have ENO := hide (fun (h : dgetOk false wh pt false = false) => (unhide HO).trans (dget_no h))
  cases hp : plainB wh with
  | false =>
    have E := hide (unhide ENO (by unfold dgetOk; rw [hp]; rfl))
    obtain ⟨kb, kr0, kr1, kr2, kf0, kf1, kf2, kl⟩ := id K0
    go_wp2
    refine bodyPost_ret (v := .tuple #[.agg #[.bool false, .slice none 0 0, .int .i64 0], .bool false]) (by simp [results, Tryz.results83, go_sem, kr0, kr1, kr2]) rfl ?_
    rw [unhide E]
    exact ⟨none, 0, rfl, Own.nil _ _, ((kb.setCell (by simp) _).setCell (by simp) _).setCell (by simp) _⟩
  | true =>
    by_cases h30 : wh.size ≤ 30
    · have h31 : ¬ (30 : Int) < wh.size := by omega
      have hfw := hide (plain_fig hp)
      by_cases h12 : pt.size ≤ 12
      · have h13 : ¬ (12 : Int) < pt.size := by omega
        go_wp2
        go_loopw [8] (fun ii wr => ∃ k : Nat, ii = .int .i64 k ∧ k ≤ pt.size ∧ (∀ j (h : j < pt.size), j < k → 48 ≤ pt[j].toNat ∧ pt[j].toNat ≤ 57) ∧ wr = w3) (fun ii _ => pt.size - (intOf ii).toNat)
        case atStart => exact ⟨0, rfl, Nat.zero_le _, fun j _ h => absurd h (Nat.not_lt_zero _), rfl⟩
        case round =>
          obtain ⟨k, rfl, hk, hF, rfl⟩ := hrel
          have HF := hide hF
          clear hF
          by_cases h : k < pt.size
          · exfalso
            have := unhide HPN
            omega
          · have hfp := hide (figB_of fun j hj => unhide HF j hj (by omega) : figB pt = true)
            have HCAT := hide (show wh ++ pt = wh ++ pt from rfl)
            have hpd : (!false || (figB pt && decide (pt.size ≠ 0))) = true := by rw [unhide hfp]; rfl
            have EYES := hide (fun (h : decB false (L (num (dg (wh ++ pt)))) pt.size = true) => (unhide HO).trans (dget_yes (n := false) (wh := wh) (pt := pt) (fd := false) (by unfold dgetOk; rw [hp, hpd, h]; simp [h30, h12])))
            have ENO := hide (fun (h : decB false (L (num (dg (wh ++ pt)))) pt.size = false) => (unhide HO).trans (dget_no (n := false) (wh := wh) (pt := pt) (fd := false) (by unfold dgetOk; rw [h]; simp)))
            have hsw : (wh ++ pt).size ≤ 42 := by rw [ByteArray.size_append]; omega
            clear hpd hp
            have CL := hide (fun W => l1FromFigures_any W (wh ++ pt) (dg (wh ++ pt)) (by rw [show (wh ++ pt) = wh ++ pt from unhide HCAT]; exact fig_dg (figB_app (unhide hfw) (unhide hfp))) (by rw [dg_len, ByteArray.size_append]; omega))
            have HY := hide (fun h => unhide EYES h)
            have CI := hide (fun W v (hr : Reads W v (L (num (dg (wh ++ pt))))) => l2Ok_any W false v (L (num (dg (wh ++ pt)))) pt.size hr)
            have hz : L (num (dg (wh ++ pt))) = [] → false = true → decB false (L (num (dg (wh ++ pt)))) pt.size = false := fun _ h2 => absurd h2 (by decide)
            have HZ := hide hz
            clear hz
            generalize L (num (dg (wh ++ pt))) = ll at *
            go_wp2_with fail
            refine (unhide CL _).mono ?_
            rintro e w5 ⟨a5, c5, rfl, o5, b5⟩
            have K5 := K0.later b5
            have o5' : Own (w.heap.size + 1) w5 _ ll := o5.mono K0.lt
            clear b5 o5 CL
            have k7 : Below w5.heap.size w5 (w5.alloc (.cells #[.bool false, .slice a5 ll.length c5, .int .i64 pt.size] 27)) := (Below.refl _ _).alloc (Nat.le_refl _) _
            have K7 := K5.later k7
            have o7 := o5'.later k7
            have lt7 := K5.lt
            go_wp2_with fail
            refine (unhide CI _ _ o7.reads).mono ?_
            rintro e w8 ⟨rfl, b8⟩
            have K8 := K7.later b8
            have o8 := o7.later b8
            have q0 : w8.cell? ⟨w5.heap.size, 0, none⟩ = some (.bool false) := cell_later b8 (by go_simp)
            have q1 : w8.cell? ⟨w5.heap.size, 1, none⟩ = some (.slice a5 ll.length c5) := cell_later b8 (by go_simp)
            have q2 : w8.cell? ⟨w5.heap.size, 2, none⟩ = some (.int .i64 pt.size) := cell_later b8 (by go_simp)
            have n1 : ¬ (w5.heap.size = w.heap.size) := by omega
            have n2 : ¬ (w.heap.size = w5.heap.size) := by omega
            clear b8 K7 o7 k7 o5'
            obtain ⟨kb, kr0, kr1, kr2, kf0, kf1, kf2, kl⟩ := id K8
            cases hdb : decB false ll pt.size with
            | true =>
              have E := hide (unhide HY hdb)
              go_wp2
              refine bodyPost_ret (v := .tuple #[.agg #[.bool false, .slice a5 ll.length c5, .int .i64 pt.size], .bool true]) (by simp [results, Tryz.results83, go_sem, kr0, kr1, kr2]) rfl ?_
              rw [unhide E]
              exact ⟨a5, c5, rfl, (((o8.setBelow (by simp) _).setBelow (by simp) _).setBelow (by simp) _).mono (by simp), ((kb.setCell (by simp) _).setCell (by simp) _).setCell (by simp) _⟩
            | false =>
              have E := hide (unhide ENO hdb)
              go_wp2
              refine bodyPost_ret (v := .tuple #[.agg #[.bool false, .slice none 0 0, .int .i64 0], .bool false]) (by simp [results, Tryz.results83, go_sem, kr0, kr1, kr2]) rfl ?_
              rw [unhide E]
              exact ⟨none, 0, rfl, Own.nil _ _, ((kb.setCell (by simp) _).setCell (by simp) _).setCell (by simp) _⟩
      · have h13 : (12 : Int) < pt.size := by omega
        have E := hide (unhide ENO (by unfold dgetOk; simp [h12]))
        obtain ⟨kb, kr0, kr1, kr2, kf0, kf1, kf2, kl⟩ := id K0
        go_wp2
        refine bodyPost_ret (v := .tuple #[.agg #[.bool false, .slice none 0 0, .int .i64 0], .bool false]) (by simp [results, Tryz.results83, go_sem, kr0, kr1, kr2]) rfl ?_
        rw [unhide E]
        exact ⟨none, 0, rfl, Own.nil _ _, ((kb.setCell (by simp) _).setCell (by simp) _).setCell (by simp) _⟩
    · have h31 : (30 : Int) < wh.size := by omega
      have E := hide (unhide ENO (by unfold dgetOk; simp [h30]))
      obtain ⟨kb, kr0, kr1, kr2, kf0, kf1, kf2, kl⟩ := id K0
      go_wp2
      refine bodyPost_ret (v := .tuple #[.agg #[.bool false, .slice none 0 0, .int .i64 0], .bool false]) (by simp [results, Tryz.results83, go_sem, kr0, kr1, kr2]) rfl ?_
      rw [unhide E]
      exact ⟨none, 0, rfl, Own.nil _ _, ((kb.setCell (by simp) _).setCell (by simp) _).setCell (by simp) _⟩


end Go.Proofs.YtdklikicngmkbaaGreatDoor

namespace Go.Proofs.YtdklikicngmkbaaGreatDoor
open Go.RowKit
set_option maxRecDepth 100000


set_option maxHeartbeats 8000000 in
theorem l2Get_nil (w : World) (s : ByteArray) (d : Nat) (hd : DotAt (restB s) d) (hs : s.size ≤ maxLen) (h0 : s.size = 0) :
    Calls Tryz.prog 83 #[.string s] w (GivesDec2 w (dgetR (negB s) ((restB s).extract 0 d) (partOf (restB s) d) (decide (d < (restB s).size)))) := by
  obtain ⟨O, hO⟩ : ∃ O, O = dgetR (negB s) ((restB s).extract 0 d) (partOf (restB s) d) (decide (d < (restB s).size)) := ⟨_, rfl⟩
  rw [← hO]
  have HO := hide hO
  clear hO
  obtain ⟨w0, hw0⟩ : ∃ w0, w0 = w.alloc (.cells #[.bool false, .slice none 0 0, .int .i64 0] 27) := ⟨_, rfl⟩
  have K0 : EDx w w0 := by rw [hw0]; exact EDx.start w
  have hr0 : (restB s).size ≤ maxLen := by unfold restB; split <;> (try rw [ByteArray.size_extract]) <;> omega
  have CD := hide (fun W => l2Dot_any W (restB s) d hd hr0)
  have hwm : ((restB s).extract 0 d).size ≤ maxLen := by rw [ByteArray.size_extract]; omega
  have CA := hide (fun W => l1IsFigures_any W ((restB s).extract 0 d) hwm)
  have hp0 : (partOf (restB s) d).size ≤ maxLen := by unfold partOf; split <;> first | exact Nat.zero_le _ | (rw [ByteArray.size_extract]; omega)
  have hdle := hd.1
  unfold maxLen at hs hr0 hwm hp0
  clear hd
  have HN := hide (neg_no h0)
  have HR := hide (show restB s = s by unfold restB; rw [unhide HN, if_neg (by simp)])
  rw [unhide HR] at CA CD hr0 hwm hp0 hdle HO
  rw [unhide HN] at HO
  have E := hide ((unhide HO).trans (dget_no (n := false) (wh := s.extract 0 d) (pt := partOf s d) (fd := decide (d < s.size)) (by unfold dgetOk; rw [plain_nil (s := s.extract 0 d) (by rw [ByteArray.size_extract]; omega)]; rfl)))
  have hpl := plain_nil (s := s.extract 0 d) (by rw [ByteArray.size_extract]; omega)
  rw [hpl] at CA
  have hfd : ¬ d < s.size := by omega
  subst hw0
  go_enter Tryz.func83, Tryz.ntmps83
  go_wp2_with fail
  refine (unhide CD _).mono ?_
  rintro e w1 ⟨rfl, rfl⟩
  go_wp2_with fail
  refine (unhide CA _).mono ?_
  rintro e w1 ⟨rfl, rfl⟩
  obtain ⟨kb, kr0, kr1, kr2, kf0, kf1, kf2, kl⟩ := id K0
  go_wp2
  refine bodyPost_ret (v := .tuple #[.agg #[.bool false, .slice none 0 0, .int .i64 0], .bool false]) (by simp [results, Tryz.results83, go_sem, kr0, kr1, kr2]) rfl ?_
  rw [unhide E]
  exact ⟨none, 0, rfl, Own.nil _ _, kb⟩

theorem l2Get_any (w : World) (s : ByteArray) (d : Nat) (hd : DotAt (restB s) d) (hs : s.size ≤ maxLen) :
    Calls Tryz.prog 83 #[.string s] w (GivesDec2 w (dgetR (negB s) ((restB s).extract 0 d) (partOf (restB s) d) (decide (d < (restB s).size)))) := by
  by_cases h0 : s.size = 0
  · exact l2Get_nil w s d hd hs h0
  · have hp : 0 < s.size := by omega
    by_cases h45 : s[0].toNat = 45
    · by_cases hfd : d < (restB s).size
      · exact l2Get_neg_dot w s d hd hs hp h45 hfd
      · exact l2Get_neg_nod w s d hd hs hp h45 hfd
    · by_cases hfd : d < (restB s).size
      · exact l2Get_pos_dot w s d hd hs hp h45 hfd
      · exact l2Get_pos_nod w s d hd hs hp h45 hfd

end Go.Proofs.YtdklikicngmkbaaGreatDoor
