/- The law FnDayGet: its walk. -/
import Derived.Test.YtnfalniijmccjaaDoorDrDyG
import Derived.Test.YtnfalniijmccjaaDoorByt1
namespace Go.Proofs.YtnfalniijmccjaaDoor
open Go.RowKit
set_option maxRecDepth 100000

theorem xDayGetP_walk (w : World) (u : Value) (hu : Byt w u) (tt : Tab w) (he : Er w) :
    Calls Tryd.prog 4 #[u] w fun e w' => e = .returned (.bool true) ∧ Below w.heap.size w w' := by
  have C0 := hide (drawDayGet_any w u hu)
  obtain ⟨ao, N, cap, rfl, hn⟩ := byt_len hu
  clear hu
  by_cases hl : (1048576 : Int) < N
  · have t0 : decide ((1048576 : Int) < N) = true := by simpa using hl
    go_enter Tryd.func4, Tryd.ntmps4
    go_wp2
    go_ret
    exact ⟨rfl, Below.refl _ _⟩
  have t0 : decide ((1048576 : Int) < N) = false := by simpa using hl
  go_enter Tryd.func4, Tryd.ntmps4
  go_wp2_with fail
  refine (unhide C0).mono ?_
  rintro e w1 ⟨s, rfl, hs, b1⟩
  have hsm : s.size ≤ maxLen := by unfold maxLen; omega
  have CI := hide (fun W (k : Below w.heap.size w W) => implDayGet_any W s (tt.later k) (he.later k))
  have CS := hide (fun W => specDayGet_any W s hsm)
  have CP := hide (fun W (k : Below w.heap.size w W) => implDayPut_any W (dayG s) (tt.later k))
  have HG := hide (show 0 < dayG s → dayPutR (dayG s) = s from fun h => by
    obtain ⟨a, b⟩ := dayG_is (s := s) (by omega)
    unfold dayPutR
    rw [if_pos a]
    exact b)
  obtain ⟨B, hB⟩ : ∃ B, decide (0 < dayG s) = B := ⟨_, rfl⟩
  rw [hB] at CI CS
  generalize dayG s = G at *
  have HB := hide hB
  have hg : (G != G) = false := by simp
  have hg2 : (G == G) = true := by simp
  have hb : (B != B) = false := by simp
  have hb2 : (B == B) = true := by simp
  clear C0 hsm hB
  go_wp2_with fail
  refine (unhide CI _ b1).mono ?_
  rintro e w2 ⟨rfl, b2⟩
  have B2 := b1.trans (b2.mono b1.size)
  go_wp2_with fail
  refine (unhide CS _).mono ?_
  rintro e w3 ⟨rfl, hw⟩
  subst hw
  clear CI CS b1 b2
  cases B
  · clear CP HG
    go_wp2
    go_ret
    exact ⟨rfl, B2⟩
  · have e1 := unhide HG (by simpa using unhide HB)
    rw [e1] at CP
    clear HG e1
    go_wp2_with fail
    refine (unhide CP _ B2).mono ?_
    rintro e w4 ⟨rfl, b4⟩
    have es : (s.toList == s.toList) = true := by simp
    go_wp2
    go_ret
    exact ⟨rfl, B2.trans (b4.mono B2.size)⟩

end Go.Proofs.YtnfalniijmccjaaDoor
