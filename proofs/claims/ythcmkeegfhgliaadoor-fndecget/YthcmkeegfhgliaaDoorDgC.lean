/- DecGet of the specification, by a contract. -/
import Derived.Test.YthcmkeegfhgliaaDoorDgC1
import Derived.Test.YthcmkeegfhgliaaDoorDgC2
import Derived.Test.YthcmkeegfhgliaaDoorDgC3
import Derived.Test.YthcmkeegfhgliaaDoorDgC4
namespace Go.Proofs.YthcmkeegfhgliaaDoor
open Go.RowKit
set_option maxRecDepth 100000

set_option maxHeartbeats 8000000 in
theorem l2Get_nil (w : World) (s : ByteArray) (d : Nat) (hd : DotAt (restB s) d) (hs : s.size ≤ maxLen) (h0 : s.size = 0) :
    Calls Tryd.prog 32 #[.string s] w (GivesDec2 w (dgetR (negB s) ((restB s).extract 0 d) (partOf (restB s) d) (decide (d < (restB s).size)))) := by
  obtain ⟨O, hO⟩ : ∃ O, O = dgetR (negB s) ((restB s).extract 0 d) (partOf (restB s) d) (decide (d < (restB s).size)) := ⟨_, rfl⟩
  rw [← hO]
  have HO := hide hO
  clear hO
  obtain ⟨w0, hw0⟩ : ∃ w0, w0 = w.alloc (.cells #[.bool false, .slice none 0 0, .int .i64 0] 27) := ⟨_, rfl⟩
  have K0 : EDx w w0 := by rw [hw0]; exact EDx.start w
  have hr0 : (restB s).size ≤ maxLen := by unfold restB; split <;> (try rw [ByteArray.size_extract]) <;> omega
  have CD := hide (fun W => l2Dot_any W (restB s) d hd hr0)
  have hwm : ((restB s).extract 0 d).size ≤ maxLen := by rw [ByteArray.size_extract]; omega
  have CA := hide (fun W => l1IsFigures_any W ((restB s).extract 0 d) hwm)
  have hp0 : (partOf (restB s) d).size ≤ maxLen := by unfold partOf; split <;> first | exact Nat.zero_le _ | (rw [ByteArray.size_extract]; omega)
  have hdle := hd.1
  unfold maxLen at hs hr0 hwm hp0
  clear hd
  have HN := hide (neg_no h0)
  have HR := hide (show restB s = s by unfold restB; rw [unhide HN, if_neg (by simp)])
  rw [unhide HR] at CA CD hr0 hwm hp0 hdle HO
  rw [unhide HN] at HO
  have E := hide ((unhide HO).trans (dget_no (n := false) (wh := s.extract 0 d) (pt := partOf s d) (fd := decide (d < s.size)) (by unfold dgetOk; rw [plain_nil (s := s.extract 0 d) (by rw [ByteArray.size_extract]; omega)]; rfl)))
  have hpl := plain_nil (s := s.extract 0 d) (by rw [ByteArray.size_extract]; omega)
  rw [hpl] at CA
  have hfd : ¬ d < s.size := by omega
  subst hw0
  go_enter Tryd.func32, Tryd.ntmps32
  go_wp2_with fail
  refine (unhide CD _).mono ?_
  rintro e w1 ⟨rfl, rfl⟩
  go_wp2_with fail
  refine (unhide CA _).mono ?_
  rintro e w1 ⟨rfl, rfl⟩
  obtain ⟨kb, kr0, kr1, kr2, kf0, kf1, kf2, kl⟩ := id K0
  go_wp2
  refine bodyPost_ret (v := .tuple #[.agg #[.bool false, .slice none 0 0, .int .i64 0], .bool false]) (by simp [results, Tryd.results32, go_sem, kr0, kr1, kr2]) rfl ?_
  rw [unhide E]
  exact ⟨none, 0, rfl, Own.nil _ _, kb⟩

theorem l2Get_any (w : World) (s : ByteArray) (d : Nat) (hd : DotAt (restB s) d) (hs : s.size ≤ maxLen) :
    Calls Tryd.prog 32 #[.string s] w (GivesDec2 w (dgetR (negB s) ((restB s).extract 0 d) (partOf (restB s) d) (decide (d < (restB s).size)))) := by
  by_cases h0 : s.size = 0
  · exact l2Get_nil w s d hd hs h0
  · have hp : 0 < s.size := by omega
    by_cases h45 : s[0].toNat = 45
    · by_cases hfd : d < (restB s).size
      · exact l2Get_neg_dot w s d hd hs hp h45 hfd
      · exact l2Get_neg_nod w s d hd hs hp h45 hfd
    · by_cases hfd : d < (restB s).size
      · exact l2Get_pos_dot w s d hd hs hp h45 hfd
      · exact l2Get_pos_nod w s d hd hs hp h45 hfd

theorem specDecGet_any (w : World) (s : ByteArray) (d : Nat) (hd : DotAt (restB s) d) (hs : s.size ≤ maxLen) :
    Calls Tryd.prog 11 #[.string s] w (GivesDec2 w (dgetR (negB s) ((restB s).extract 0 d) (partOf (restB s) d) (decide (d < (restB s).size)))) := by
  have K0 := EDx.start w
  have C := hide (fun W => l2Get_any W s d hd hs)
  generalize dgetR (negB s) ((restB s).extract 0 d) (partOf (restB s) d) (decide (d < (restB s).size)) = O at *
  obtain ⟨og, ol, os, ok⟩ := O
  clear hd
  go_enter Tryd.func11, Tryd.ntmps11
  go_wp2_with fail
  refine (unhide C _).mono ?_
  rintro e w1 ⟨a1, c1, rfl, o1, b1⟩
  have K1 := K0.later b1
  obtain ⟨kb, kr0, kr1, kr2, kf0, kf1, kf2, kl⟩ := id K1
  clear b1
  go_wp2
  refine bodyPost_ret (v := .tuple #[.agg #[.bool og, .slice a1 ol.length c1, .int .i64 os], .bool ok]) (by simp [results, Tryd.results11, go_sem, kr0, kr1, kr2]) rfl ?_
  exact ⟨a1, c1, rfl, (((o1.setBelow (by simp) _).setBelow (by simp) _).setBelow (by simp) _).mono (by simp), ((kb.setCell (by simp) _).setCell (by simp) _).setCell (by simp) _⟩

end Go.Proofs.YthcmkeegfhgliaaDoor
