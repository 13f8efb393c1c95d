/- The law FnExactRowOk: its walk. -/
import Derived.Test.YtnegndajejhflaaDoorVrF
namespace Go.Proofs.YtnegndajejhflaaDoor
open Go.RowKit
set_option maxRecDepth 100000
set_option linter.unusedSimpArgs false
set_option linter.unusedVariables false

theorem bool_iff {a b : Bool} {p : Prop} (h : a = true ↔ p) (k : b = true ↔ p) : a = b := by
  cases a <;> cases b
  · rfl
  · exact absurd (h.2 (k.1 rfl)) (by decide)
  · exact absurd (k.2 (h.1 rfl)) (by decide)
  · rfl

set_option maxHeartbeats 4000000 in
theorem xRowOk_walk (w : World) (u v : Value) (ts : List (Int × Int × Int)) (xs : List Vl) (hu : ReadsT w u ts) (hv : ReadsV w v xs) (tt : Tab w) :
    Calls Tryd.prog 4 #[u, v] w fun e w' => e = .returned (.bool true) ∧ Below w.heap.size w w' := by
  have Z1 := hide (szTypeS_any w u ts 1048576 hu (by decide) (by decide))
  have Z2 := hide (fun W left (h : Below w.heap.size w W) (h0 : 0 ≤ left) (h1 : left ≤ 1048576) => szValueS_any W v xs left (hv.later h) h0 h1)
  have T1 := hide (fun W (h : Below w.heap.size w W) (hl : ts.length ≤ 1048576) => toTypeS_any W u ts (hu.later h) hl)
  have T2 := hide (fun W (h : Below w.heap.size w W) (hl : xs.length ≤ 1048576) (hls : ∀ j (h : j < xs.length), xs[j].l.length ≤ 1048576) => toValueS_any W v xs (hv.later h) hl hls)
  obtain ⟨ao', b', off', cap', rfl, hu⟩ := hu
  obtain ⟨ao, b, off, cap, rfl, hv⟩ := hv
  clear hu hv
  go_enter Tryd.func4, Tryd.ntmps4
  go_wp2_with fail
  refine (unhide Z1).mono ?_
  rintro e w1 ⟨⟨r1, rfl, q1⟩, b1⟩
  clear Z1
  by_cases hr1 : r1 < 0
  · have k1 : decide (r1 < 0) = true := by simpa using hr1
    clear hr1 q1 Z2 T1 T2
    go_wp2
    go_ret
    exact ⟨rfl, b1⟩
  have k1 : decide (r1 < 0) = false := by simpa using hr1
  have hr1' : 0 ≤ r1 ∧ r1 ≤ 1048576 ∧ ts.length ≤ 1048576 := by
    rcases q1 with h | h
    · exact absurd h hr1
    · exact h
  obtain ⟨p1, p2, p3⟩ := hr1'
  have HT := hide p3
  clear hr1 q1 p3
  go_wp2_with fail
  refine (unhide Z2 _ _ b1 p1 p2).mono ?_
  rintro e w2 ⟨⟨r2, rfl, q2⟩, b2⟩
  have B2 := b1.trans (b2.mono b1.size)
  clear Z2 b1 b2 p1 p2
  by_cases hr2 : r2 < 0
  · have k2 : decide (r2 < 0) = true := by simpa using hr2
    clear hr2 q2 T1 T2
    go_wp2
    go_ret
    exact ⟨rfl, B2⟩
  have k2 : decide (r2 < 0) = false := by simpa using hr2
  have hx : xs.length ≤ 1048576 ∧ ∀ j (h : j < xs.length), xs[j].l.length ≤ 1048576 := by
    rcases q2 with h | h
    · exact absurd h hr2
    · exact h.2.2
  have HX := hide hx
  clear hx hr2 q2
  go_wp2_with fail
  refine (unhide T1 _ B2 (unhide HT)).mono ?_
  rintro e w3 ⟨v3, rfl, R3, ⟨a3, c3, rfl⟩, b3⟩
  have B3 := B2.trans (b3.mono B2.size)
  have S3 := hide R3
  clear R3 b3 B2
  go_wp2_with fail
  refine (unhide T2 _ B3 (unhide HX).1 (unhide HX).2).mono ?_
  rintro e w4 ⟨v4, rfl, R4, ⟨a4, c4, rfl⟩, b4⟩
  have B4 := B3.trans (b4.mono B3.size)
  have S4 := hide R4
  have S3' := hide ((unhide S3).later b4)
  clear R4 b4 B3 S3
  go_wp2_with fail
  refine (specRowOk_any _ _ _ ts xs (unhide S3') (unhide S4)).mono ?_
  rintro e w5 ⟨⟨g, rfl, q5⟩, b5⟩
  have B5 := B4.trans (b5.mono B4.size)
  have Q5 := hide q5
  clear q5 b5 B4 S3' S4
  go_wp2_with fail
  refine (unhide T1 _ B5 (unhide HT)).mono ?_
  rintro e w6 ⟨v6, rfl, R6, ⟨a6, c6, rfl⟩, b6⟩
  have B6 := B5.trans (b6.mono B5.size)
  have S6 := hide R6
  clear R6 b6 B5
  go_wp2_with fail
  refine (unhide T2 _ B6 (unhide HX).1 (unhide HX).2).mono ?_
  rintro e w7 ⟨v7, rfl, R7, ⟨a7, c7, rfl⟩, b7⟩
  have B7 := B6.trans (b7.mono B6.size)
  have S7 := hide R7
  have S6' := hide ((unhide S6).later b7)
  clear R7 b7 B6 S6
  go_wp2_with fail
  refine (implRowOk_any _ _ _ ts xs (unhide S6') (unhide S7) (tt.later B7)).mono ?_
  rintro e w8 ⟨⟨g8, rfl, q8⟩, b8⟩
  obtain rfl := bool_iff q8 (unhide Q5)
  have B8 := B7.trans (b8.mono B7.size)
  have S8 := hide ((unhide S6').later b8)
  have S8' := hide ((unhide S7).later b8)
  have gg : (!g8 == g8) = false := by cases g8 <;> rfl
  have gg2 : (g8 != g8) = false := by cases g8 <;> rfl
  clear q8 Q5 b8 B7 S6' S7
  go_wp2_with fail
  refine (unhide T1 _ B8 (unhide HT)).mono ?_
  rintro e w9 ⟨v9, rfl, R9, ⟨a9, c9, rfl⟩, b9⟩
  have B9 := B8.trans (b9.mono B8.size)
  have S9 := hide R9
  have S9' := hide ((unhide S8).later b9)
  have S9'' := hide ((unhide S8').later b9)
  clear R9 b9 B8 S8 S8'
  go_wp2_with fail
  refine (eqTypeS_same _ _ _ ts (unhide S9') (unhide S9)).mono ?_
  rintro e wa ⟨rfl, ba⟩
  have Ba := B9.trans (ba.mono B9.size)
  have Sa := hide ((unhide S9'').later ba)
  clear S9 S9' S9'' ba B9
  go_wp2_with fail
  refine (unhide T2 _ Ba (unhide HX).1 (unhide HX).2).mono ?_
  rintro e wb ⟨vb, rfl, Rb, ⟨ab, cb, rfl⟩, bb⟩
  have Bb := Ba.trans (bb.mono Ba.size)
  have Sb := hide Rb
  have Sb' := hide ((unhide Sa).later bb)
  clear Rb bb Ba Sa
  go_wp2_with fail
  refine (eqValueS_same _ _ _ xs (unhide Sb') (unhide Sb)).mono ?_
  rintro e wc ⟨rfl, bc⟩
  go_wp2
  go_ret
  exact ⟨rfl, Bb.trans (bc.mono Bb.size)⟩

end Go.Proofs.YtnegndajejhflaaDoor
