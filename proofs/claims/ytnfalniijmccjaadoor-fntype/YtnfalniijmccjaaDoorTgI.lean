/- TypeGet of the program, by a contract. -/
import Derived.Test.YtnfalniijmccjaaDoorTgS
import Derived.Test.YtnfalniijmccjaaDoorNbA
import Derived.Test.YtnfalniijmccjaaDoorIxS
import Derived.Deep.DeepCutAuto
namespace Go.Proofs.YtnfalniijmccjaaDoor
open Go.RowKit
set_option maxRecDepth 100000
set_option linter.unusedSimpArgs false

theorem TyB.made {w w1 W : World} (h : TyB w w1) (k : Below w1.heap.size w1 W) (x y z : Int) :
    TyB w (W.alloc (.cells #[.int .i64 x, .int .i64 y, .int .i64 z] 38)) ∧ (W.alloc (.cells #[.int .i64 x, .int .i64 y, .int .i64 z] 38)).cell? ⟨W.heap.size, 0, none⟩ = some (.int .i64 x) ∧
      (W.alloc (.cells #[.int .i64 x, .int .i64 y, .int .i64 z] 38)).cell? ⟨W.heap.size, 1, none⟩ = some (.int .i64 y) ∧ (W.alloc (.cells #[.int .i64 x, .int .i64 y, .int .i64 z] 38)).cell? ⟨W.heap.size, 2, none⟩ = some (.int .i64 z) :=
  ⟨(h.later k).later ((Below.refl _ _).alloc (Nat.le_refl _) _), by go_simp, by go_simp, by go_simp⟩

/-- The program's way: what it makes of the parts is held against the text. -/
theorem impl_type_iff {s : ByteArray} {x y z : Int} (H : ∀ a b e, TypT s a b e → a = x ∧ b = y ∧ e = z) :
    (¬ TypeIs x y z → ∀ a b e, ¬ TypT s a b e) ∧ (TypeIs x y z → (typePutR x y z = s → TypT s x y z) ∧ (typePutR x y z ≠ s → ∀ a b e, ¬ TypT s a b e)) := by
  refine ⟨fun h a b e k => ?_, fun h => ⟨fun k => ?_, fun k a b e q => ?_⟩⟩
  · obtain ⟨rfl, rfl, rfl⟩ := H a b e k
    exact h k.1
  · unfold typePutR at k
    rw [if_pos h] at k
    exact ⟨h, k⟩
  · obtain ⟨rfl, rfl, rfl⟩ := H a b e q
    apply k
    unfold typePutR
    rw [if_pos h]
    exact q.2

theorem partC_size (s : ByteArray) (k : Nat) : (partC s k).size ≤ s.size := by
  unfold partC
  split
  · rw [ByteArray.size_extract]; omega
  · exact Nat.zero_le _

theorem txt_neT {s t : ByteArray} (h : s ≠ t) : (s.toList == t.toList) = false := txtE h

/-- The list of kinds' names, made anew. -/
theorem names_cells (W : World) : ∀ i (h : i < namesT.length), (W.alloc (.cells #[.string ⟨#[]⟩, .string ⟨#[98, 111, 111, 108]⟩, .string ⟨#[110, 117, 109]⟩, .string ⟨#[100, 97, 121]⟩, .string ⟨#[115, 112, 97, 110]⟩, .string ⟨#[116, 101, 120, 116]⟩] 9)).cell? ⟨W.heap.size, i, none⟩ = some (.string namesT[i]) := by
  intro i h
  rcases i with _ | _ | _ | _ | _ | _ | i
  · go_simp; rfl
  · go_simp; rfl
  · go_simp; rfl
  · go_simp; rfl
  · go_simp; rfl
  · go_simp; rfl
  · exfalso
    have : namesT.length = 6 := rfl
    omega

set_option maxHeartbeats 4000000 in
theorem implTypeGet_any (w : World) (s : ByteArray) (hs : s.size ≤ 2000000) (tt : Tab w) (he : Er w) : Calls Tryd.prog 26 #[.string s] w (GivesType w s) := by
  have K0 := TyB.start w
  obtain ⟨k, hk⟩ := cat_is 40 s
  obtain ⟨k2, hk2⟩ := cat_is 44 (cutP (partC s k))
  obtain ⟨x, hx⟩ : ∃ x, x = ixFrom (s.extract 0 k) 0 namesT := ⟨_, rfl⟩
  obtain ⟨y, hy⟩ : ∃ y, y = numB ((cutP (partC s k)).extract 0 k2).data.toList := ⟨_, rfl⟩
  obtain ⟨z, hz⟩ : ∃ z, z = numB (partC (cutP (partC s k)) k2).data.toList := ⟨_, rfl⟩
  have HI := hide (impl_type_iff (s := s) (x := x) (y := y) (z := z) (fun a b e h => by
    obtain ⟨h1, h2, h3⟩ := impl_type hk hk2 h
    exact ⟨h1.trans hx.symm, h2.trans hy.symm, h3.trans hz.symm⟩))
  have zB : (partC s k).size ≤ 2000000 := Nat.le_trans (partC_size s k) hs
  have zT : (cutP (partC s k)).size ≤ 2000000 := Nat.le_trans (cutP_size _) zB
  have zC : ((cutP (partC s k)).extract 0 k2).size ≤ 281474976710656 := by rw [ByteArray.size_extract]; omega
  have zD : (partC (cutP (partC s k)) k2).size ≤ 281474976710656 := Nat.le_trans (partC_size _ k2) (by omega)
  have CC := hide (fun W => cutC_any W 40 s k hk (by unfold maxLen; omega))
  have CT : Hid (∀ W, Calls Tryd.prog 50 #[.string (partC s k), .string ⟨#[41]⟩] W fun e w' => e = .returned (.string (cutP (partC s k))) ∧ w' = W) := hide (fun W => Tryd.strings_TrimSuffix (partC s k) ⟨#[41]⟩ W (by omega))
  have CD := hide (fun W => cutC_any W 44 (cutP (partC s k)) k2 hk2 (by unfold maxLen; omega))
  have CN0 := hide (fun W (b : Below w.heap.size w W) => numberOf_any W _ zC (he.later b))
  have CN1 := hide (fun W (b : Below w.heap.size w W) => numberOf_any W _ zD (he.later b))
  have CI := hide (fun W g (h : ∀ i (h : i < namesT.length), W.cell? ⟨g, i, none⟩ = some (.string namesT[i])) => (indexS_any W g 6 namesT (s.extract 0 k) (by decide) (by decide) h : Calls Tryd.prog 57 #[.slice (some ⟨g, 0, none⟩) 6 6, .string (s.extract 0 k)] W _))
  have CP := hide (fun W (b : Below w.heap.size w W) => implTypePut_any W x y z (tt.later b))
  have CO := hide (fun W => implTypeOk_any W x y z)
  rw [← hx] at CI
  rw [← hy] at CN0
  rw [← hz] at CN1
  clear hx hy hz hk hk2 zB zT zC zD
  generalize partC (cutP (partC s k)) k2 = A1 at *
  generalize (cutP (partC s k)).extract 0 k2 = A0 at *
  generalize cutP (partC s k) = T at *
  generalize s.extract 0 k = A at *
  generalize partC s k = B at *
  go_enter Tryd.func26, Tryd.ntmps26
  go_wp2_with fail
  refine (unhide CC _).mono ?_
  rintro e w1 ⟨rfl, b1⟩
  have K1 := K0.later b1
  clear K0 b1 CC
  go_wp2_with fail
  refine (unhide CT _).mono ?_
  rintro e w2 ⟨rfl, hw⟩
  subst hw
  clear CT
  go_wp2_with fail
  refine (unhide CD _).mono ?_
  rintro e w3 ⟨rfl, b3⟩
  have K3 := K1.later b3
  clear K1 b3 CD
  go_wp2_with fail
  refine (kindNames_any _).mono ?_
  rintro e w4 ⟨rfl, hw⟩
  subst hw
  have NC := hide (names_cells w3)
  have K4 := K3.later ((Below.refl _ _).alloc (Nat.le_refl _) (.cells #[.string ⟨#[]⟩, .string ⟨#[98, 111, 111, 108]⟩, .string ⟨#[110, 117, 109]⟩, .string ⟨#[100, 97, 121]⟩, .string ⟨#[115, 112, 97, 110]⟩, .string ⟨#[116, 101, 120, 116]⟩] 9))
  clear K3
  generalize w3.alloc (.cells #[.string ⟨#[]⟩, .string ⟨#[98, 111, 111, 108]⟩, .string ⟨#[110, 117, 109]⟩, .string ⟨#[100, 97, 121]⟩, .string ⟨#[115, 112, 97, 110]⟩, .string ⟨#[116, 101, 120, 116]⟩] 9) = W4 at *
  go_wp2_with fail
  refine (unhide CI _ _ (unhide NC)).mono ?_
  rintro e w5 ⟨rfl, hw⟩
  subst hw
  clear CI NC
  go_wp2_with fail
  refine (unhide CN0 _ K4.below).mono ?_
  rintro e w6 ⟨rfl, b6⟩
  have K6 := K4.later b6
  clear K4 b6 CN0
  go_wp2_with fail
  refine (unhide CN1 _ K6.below).mono ?_
  rintro e w7 ⟨rfl, b7⟩
  obtain ⟨K7, n0, n1, n2⟩ := K6.made b7 x y z
  have hbz : w.heap.size < w7.heap.size := Nat.lt_of_lt_of_le K6.lt b7.size
  clear K6 b7 CN1
  go_wp2_with fail
  refine (unhide CO _).mono ?_
  rintro e w8 ⟨rfl, hw⟩
  subst hw
  have bq : Below (w7.alloc (.cells #[.int .i64 x, .int .i64 y, .int .i64 z] 38)).heap.size (w7.alloc (.cells #[.int .i64 x, .int .i64 y, .int .i64 z] 38)) ((w7.alloc (.cells #[.int .i64 x, .int .i64 y, .int .i64 z] 38)).alloc (.cells #[.int .i64 x, .int .i64 y, .int .i64 z] 38)) := (Below.refl _ _).alloc (Nat.le_refl _) _
  have K8 := K7.later bq
  have m0 := cell_later bq n0
  have m1 := cell_later bq n1
  have m2 := cell_later bq n2
  clear K7 bq n0 n1 n2 CO
  generalize (w7.alloc (.cells #[.int .i64 x, .int .i64 y, .int .i64 z] 38)).alloc (.cells #[.int .i64 x, .int .i64 y, .int .i64 z] 38) = W8 at *
  by_cases hi : TypeIs x y z
  case neg =>
    rw [decide_eq_false hi]
    have HN := hide ((unhide HI).1 hi)
    clear HI hi CP
    obtain ⟨kb, kc0, kc1, kc2, kf0, kf1, kf2, kl⟩ := K8
    go_wp2
    refine bodyPost_ret (v := .tuple #[.agg #[.int .i64 0, .int .i64 0, .int .i64 0], .bool false]) (by simp [results, Tryd.results26, go_sem, kc0, kc1, kc2]) rfl ?_
    exact gives_noneT (by first | exact kb | exact ((kb.setCell (Nat.le_refl _) _).setCell (Nat.le_refl _) _).setCell (Nat.le_refl _) _) (unhide HN)
  rw [decide_eq_true hi]
  have HJ := hide ((unhide HI).2 hi)
  clear HI hi
  go_wp2_with fail
  refine (unhide CP _ K8.below).mono ?_
  rintro e w9 ⟨rfl, b9⟩
  obtain ⟨kb, kc0, kc1, kc2, kf0, kf1, kf2, kl⟩ := K8.later b9
  have p0 := cell_later b9 m0
  have p1 := cell_later b9 m1
  have p2 := cell_later b9 m2
  clear K8 b9 m0 m1 m2 CP
  generalize typePutR x y z = P at *
  by_cases e : P = s
  · have e1 : (P.toList == s.toList) = true := by simp [e]
    have e2 : (P.toList != s.toList) = false := by simp [e]
    have HE := hide ((unhide HJ).1 e)
    clear HJ e
    go_wp2
    refine bodyPost_ret (v := .tuple #[.agg #[.int .i64 x, .int .i64 y, .int .i64 z], .bool true]) (by simp [results, Tryd.results26, go_sem, kc0, kc1, kc2]) rfl ?_
    exact gives_someT (((kb.setCell (Nat.le_refl _) _).setCell (Nat.le_refl _) _).setCell (Nat.le_refl _) _) (unhide HE)
  · have e1 := txt_neT e
    have e2 : (P.toList != s.toList) = true := by simpa using e1
    have HN := hide ((unhide HJ).2 e)
    clear HJ e
    go_wp2
    refine bodyPost_ret (v := .tuple #[.agg #[.int .i64 0, .int .i64 0, .int .i64 0], .bool false]) (by simp [results, Tryd.results26, go_sem, kc0, kc1, kc2]) rfl ?_
    exact gives_noneT (by first | exact kb | exact ((kb.setCell (Nat.le_refl _) _).setCell (Nat.le_refl _) _).setCell (Nat.le_refl _) _) (unhide HN)

end Go.Proofs.YtnfalniijmccjaaDoor
