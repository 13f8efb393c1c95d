/- A value read of a text: ValueGet of the program. -/
import Derived.Test.YtdklikicngmkbaaGreatDoorVgV
namespace Go.Proofs.YtdklikicngmkbaaGreatDoor
open Go.RowKit
set_option maxRecDepth 100000
set_option linter.unusedSimpArgs false
set_option linter.unusedVariables false

theorem zero_ok : valB 2 false false [] 0 0 0 0 ⟨#[]⟩ = true := by
  have h := (vt_2 (s := decT false [] 0) (n := false) (l := []) (sc := 0) (by decide) rfl).1
  exact h
theorem vg_case {s : ByteArray} {V : Vl} (hp : 0 < s.size ∨ valB V.k V.y V.n V.l V.sc V.d V.mo V.da V.t = true) (h1 : ∀ U, VT s U → U = V) :
    (valPutR V.k V.y V.n V.l V.sc V.d V.mo V.da V.t = s → VT s V) ∧ (valPutR V.k V.y V.n V.l V.sc V.d V.mo V.da V.t ≠ s → ∀ U, ¬ VT s U) := by
  unfold valPutR
  refine ⟨fun h => ?_, fun h U u => ?_⟩
  · by_cases hb : valB V.k V.y V.n V.l V.sc V.d V.mo V.da V.t = true
    · rw [if_pos hb] at h
      exact ⟨hb, h⟩
    · rw [if_neg hb] at h
      rcases hp with hp | hp
      · rw [← h] at hp
        exact absurd hp (by decide)
      · exact absurd hp hb
  · have e := h1 U u
    subst e
    rw [if_pos u.1] at h
    exact h u.2

set_option maxHeartbeats 8000000 in
theorem implValueGet_any (w : World) (s : ByteArray) (hs : s.size ≤ 2000000) (tt : Tab w) (he : Er w) (mx : Mx w) :
    Calls Tryz.prog 14 #[.string s] w (GivesV w s) := by
  have C := hide (fun W (b : Below w.heap.size w W) => unmarked_any W s hs (tt.later b) (he.later b) (mx.later b))
  have K0 := V9.new w (.int .i64 0) (.bool false) (.bool false) (.slice none 0 0) (.int .i64 0) (.int .i64 0) (.int .i64 0) (.int .i64 0) (.string ⟨#[]⟩) 31
  have B0 : Below w.heap.size w (w.alloc (.cells #[.int .i64 0, .bool false, .bool false, .slice none 0 0, .int .i64 0, .int .i64 0, .int .i64 0, .int .i64 0, .string ⟨#[]⟩] 31)) := (Below.refl _ _).alloc (Nat.le_refl _) _
  have hm0 : ∀ (w : World), (method 365 92 (.agg #[]) "loop.example/jetton/impl.value").run Tryz.prog w = .ok (274, .agg #[]) w := fun _ => by kernel_rfl
  have hm1 : ∀ (y : Bool) (w : World), (method 365 93 (.bool y) "loop.example/jetton/impl.value").run Tryz.prog w = .ok (278, .bool y) w := fun _ _ => by kernel_rfl
  have hm2 : ∀ (n : Bool) (ao : Option Addr) (N cap : Nat) (sc : Int) (w : World), (method 365 94 (.agg #[.bool n, .slice ao N cap, .int .i64 sc]) "loop.example/jetton/impl.value").run Tryz.prog w = .ok (284, .agg #[.bool n, .slice ao N cap, .int .i64 sc]) w := fun _ _ _ _ _ _ => by kernel_rfl
  have hm3 : ∀ (d : Int) (w : World), (method 365 95 (.int .i64 d) "loop.example/jetton/impl.value").run Tryz.prog w = .ok (301, .int .i64 d) w := fun _ _ => by kernel_rfl
  have hm4 : ∀ (mo da : Int) (w : World), (method 365 96 (.agg #[.int .i64 mo, .int .i64 da]) "loop.example/jetton/impl.value").run Tryz.prog w = .ok (305, .agg #[.int .i64 mo, .int .i64 da]) w := fun _ _ _ => by kernel_rfl
  have hm5 : ∀ (t : ByteArray) (w : World), (method 365 97 (.string t) "loop.example/jetton/impl.value").run Tryz.prog w = .ok (310, .string t) w := fun _ _ => by kernel_rfl
  go_enter Tryz.func14, Tryz.ntmps14
  go_wp2_with fail
  refine (unhide C _ B0).mono ?_
  rintro e w1 ⟨b1, hcase⟩
  have K1 := K0.later b1
  have B1 := B0.trans (b1.mono B0.size)
  have z1 := b1.size
  simp only [World.size_alloc] at z1
  clear C K0 B0 b1
  rcases hcase with ⟨rfl, hp, h1⟩ | ⟨y, rfl, hp, h1⟩ | ⟨n, ao, l, cap, sc, rfl, o1, hp, h1⟩ | ⟨d, rfl, hp, h1⟩ | ⟨mo, da, rfl, hp, h1⟩ | ⟨t, rfl, hz, hp, h1⟩
  · have HV : (valPutR 0 false false [] 0 0 0 0 ⟨#[]⟩ = s → VT s (V0)) ∧ (valPutR 0 false false [] 0 0 0 0 ⟨#[]⟩ ≠ s → ∀ U, ¬ VT s U) := vg_case (V := V0) (.inl hp) h1
    obtain ⟨P, hP⟩ : ∃ P, valPutR 0 false false [] 0 0 0 0 ⟨#[]⟩ = P := ⟨_, rfl⟩
    rw [hP] at HV
    have HV := hide HV
    clear h1 hp
    go_wp2_with fail
    refine (value_0 _).mono ?_
    rintro e w2 ⟨rfl, b2⟩
    have K2 := (K1.later b2).later ((Below.refl _ _).alloc (Nat.le_refl _) (.cells #[.int .i64 0, .bool false, .bool false, .slice none 0 0, .int .i64 0, .int .i64 0, .int .i64 0, .int .i64 0, .string ⟨#[]⟩] 31))
    have B2 := B1.trans (b2.mono B1.size)
    have z2 := b2.size
    have X2 := V9.new w2 (.int .i64 0) (.bool false) (.bool false) (.slice none 0 0) (.int .i64 0) (.int .i64 0) (.int .i64 0) (.int .i64 0) (.string ⟨#[]⟩) 31
    have CP := fun W (b : Below w.heap.size w W) => implValuePut_any W 0 false false none [] 0 0 0 0 0 ⟨#[]⟩ (by decide) ((Own.nil 0 W).reads) (tt.later b) (mx.later b)
    rw [hP] at CP
    have CP := hide CP
    clear hP K1 B1 b2
    go_wp2_with fail
    refine (unhide CP _ (B2.alloc B2.size _)).mono ?_
    rintro e w3 ⟨rfl, b3⟩
    have K3 := K2.later b3
    have X3 := X2.later b3
    have B3 := (B2.alloc B2.size (.cells #[.int .i64 0, .bool false, .bool false, .slice none 0 0, .int .i64 0, .int .i64 0, .int .i64 0, .int .i64 0, .string ⟨#[]⟩] 31)).trans (b3.mono (by simp; omega))
    clear K2 X2 B2 b3 CP
    obtain ⟨x0, x1, x2, x3, x4, x5, x6, x7, x8, -, -, -, -, -, -, -, -, -, -⟩ := id X3
    obtain ⟨c0, c1, c2, c3, c4, c5, c6, c7, c8, f0, f1, f2, f3, f4, f5, f6, f7, f8, lt9⟩ := id K3
    by_cases e : P = s
    · have e1 : (P.toList == s.toList) = true := by simp [e]
      have e2 : (P.toList != s.toList) = false := by simp [e]
      have E := hide ((unhide HV).1 e)
      clear HV e
      go_wp2
      have R := (((((((((K3.put0 (.int .i64 0)).put1 (.bool false)).put2 (.bool false)).put3 (.slice none 0 0)).put4 (.int .i64 0)).put5 (.int .i64 0)).put6 (.int .i64 0)).put7 (.int .i64 0)).put8 (.string ⟨#[]⟩))
      have BB := (((((((((B3.setCell (p := ⟨w.heap.size, 0, none⟩) (Nat.le_refl _) (.int .i64 0)).setCell (p := ⟨w.heap.size, 1, none⟩) (Nat.le_refl _) (.bool false)).setCell (p := ⟨w.heap.size, 2, none⟩) (Nat.le_refl _) (.bool false)).setCell (p := ⟨w.heap.size, 3, none⟩) (Nat.le_refl _) (.slice none 0 0)).setCell (p := ⟨w.heap.size, 4, none⟩) (Nat.le_refl _) (.int .i64 0)).setCell (p := ⟨w.heap.size, 5, none⟩) (Nat.le_refl _) (.int .i64 0)).setCell (p := ⟨w.heap.size, 6, none⟩) (Nat.le_refl _) (.int .i64 0)).setCell (p := ⟨w.heap.size, 7, none⟩) (Nat.le_refl _) (.int .i64 0)).setCell (p := ⟨w.heap.size, 8, none⟩) (Nat.le_refl _) (.string ⟨#[]⟩))
      generalize (((((((((w3.setCell ⟨w.heap.size, 0, none⟩ (.int .i64 0)).setCell ⟨w.heap.size, 1, none⟩ (.bool false)).setCell ⟨w.heap.size, 2, none⟩ (.bool false)).setCell ⟨w.heap.size, 3, none⟩ (.slice none 0 0)).setCell ⟨w.heap.size, 4, none⟩ (.int .i64 0)).setCell ⟨w.heap.size, 5, none⟩ (.int .i64 0)).setCell ⟨w.heap.size, 6, none⟩ (.int .i64 0)).setCell ⟨w.heap.size, 7, none⟩ (.int .i64 0)).setCell ⟨w.heap.size, 8, none⟩ (.string ⟨#[]⟩)) = W9 at *
      obtain ⟨r0, r1, r2, r3, r4, r5, r6, r7, r8, -, -, -, -, -, -, -, -, -, -⟩ := id R
      refine bodyPost_ret (v := .tuple #[.agg #[.int .i64 0, .bool false, .bool false, .slice none 0 0, .int .i64 0, .int .i64 0, .int .i64 0, .int .i64 0, .string ⟨#[]⟩], .bool true]) (by simp [results, Tryz.results14, go_sem, r0, r1, r2, r3, r4, r5, r6, r7, r8]) rfl (gv_some (V0) (Own.nil _ _) BB (unhide E))
    · have e1 := txt_ne e
      have e2 : (P.toList != s.toList) = true := by simpa using e1
      have E := hide ((unhide HV).2 e)
      clear HV e
      go_wp2
      have R := (((((((((K3.put0 (.int .i64 0)).put1 (.bool false)).put2 (.bool false)).put3 (.slice none 0 0)).put4 (.int .i64 0)).put5 (.int .i64 0)).put6 (.int .i64 0)).put7 (.int .i64 0)).put8 (.string ⟨#[]⟩))
      have BB := (((((((((B3.setCell (p := ⟨w.heap.size, 0, none⟩) (Nat.le_refl _) (.int .i64 0)).setCell (p := ⟨w.heap.size, 1, none⟩) (Nat.le_refl _) (.bool false)).setCell (p := ⟨w.heap.size, 2, none⟩) (Nat.le_refl _) (.bool false)).setCell (p := ⟨w.heap.size, 3, none⟩) (Nat.le_refl _) (.slice none 0 0)).setCell (p := ⟨w.heap.size, 4, none⟩) (Nat.le_refl _) (.int .i64 0)).setCell (p := ⟨w.heap.size, 5, none⟩) (Nat.le_refl _) (.int .i64 0)).setCell (p := ⟨w.heap.size, 6, none⟩) (Nat.le_refl _) (.int .i64 0)).setCell (p := ⟨w.heap.size, 7, none⟩) (Nat.le_refl _) (.int .i64 0)).setCell (p := ⟨w.heap.size, 8, none⟩) (Nat.le_refl _) (.string ⟨#[]⟩))
      generalize (((((((((w3.setCell ⟨w.heap.size, 0, none⟩ (.int .i64 0)).setCell ⟨w.heap.size, 1, none⟩ (.bool false)).setCell ⟨w.heap.size, 2, none⟩ (.bool false)).setCell ⟨w.heap.size, 3, none⟩ (.slice none 0 0)).setCell ⟨w.heap.size, 4, none⟩ (.int .i64 0)).setCell ⟨w.heap.size, 5, none⟩ (.int .i64 0)).setCell ⟨w.heap.size, 6, none⟩ (.int .i64 0)).setCell ⟨w.heap.size, 7, none⟩ (.int .i64 0)).setCell ⟨w.heap.size, 8, none⟩ (.string ⟨#[]⟩)) = W9 at *
      obtain ⟨r0, r1, r2, r3, r4, r5, r6, r7, r8, -, -, -, -, -, -, -, -, -, -⟩ := id R
      refine bodyPost_ret (v := .tuple #[.agg #[.int .i64 0, .bool false, .bool false, .slice none 0 0, .int .i64 0, .int .i64 0, .int .i64 0, .int .i64 0, .string ⟨#[]⟩], .bool false]) (by simp [results, Tryz.results14, go_sem, r0, r1, r2, r3, r4, r5, r6, r7, r8]) rfl (gv_none BB (unhide E))
  · have HV : (valPutR 1 y false [] 0 0 0 0 ⟨#[]⟩ = s → VT s (V1 y)) ∧ (valPutR 1 y false [] 0 0 0 0 ⟨#[]⟩ ≠ s → ∀ U, ¬ VT s U) := vg_case (V := V1 y) (.inl hp) h1
    obtain ⟨P, hP⟩ : ∃ P, valPutR 1 y false [] 0 0 0 0 ⟨#[]⟩ = P := ⟨_, rfl⟩
    rw [hP] at HV
    have HV := hide HV
    clear h1 hp
    go_wp2_with fail
    refine (value_1 _ y).mono ?_
    rintro e w2 ⟨rfl, b2⟩
    have K2 := (K1.later b2).later ((Below.refl _ _).alloc (Nat.le_refl _) (.cells #[.int .i64 1, .bool y, .bool false, .slice none 0 0, .int .i64 0, .int .i64 0, .int .i64 0, .int .i64 0, .string ⟨#[]⟩] 31))
    have B2 := B1.trans (b2.mono B1.size)
    have z2 := b2.size
    have X2 := V9.new w2 (.int .i64 1) (.bool y) (.bool false) (.slice none 0 0) (.int .i64 0) (.int .i64 0) (.int .i64 0) (.int .i64 0) (.string ⟨#[]⟩) 31
    have CP := fun W (b : Below w.heap.size w W) => implValuePut_any W 1 y false none [] 0 0 0 0 0 ⟨#[]⟩ (by decide) ((Own.nil 0 W).reads) (tt.later b) (mx.later b)
    rw [hP] at CP
    have CP := hide CP
    clear hP K1 B1 b2
    go_wp2_with fail
    refine (unhide CP _ (B2.alloc B2.size _)).mono ?_
    rintro e w3 ⟨rfl, b3⟩
    have K3 := K2.later b3
    have X3 := X2.later b3
    have B3 := (B2.alloc B2.size (.cells #[.int .i64 1, .bool y, .bool false, .slice none 0 0, .int .i64 0, .int .i64 0, .int .i64 0, .int .i64 0, .string ⟨#[]⟩] 31)).trans (b3.mono (by simp; omega))
    clear K2 X2 B2 b3 CP
    obtain ⟨x0, x1, x2, x3, x4, x5, x6, x7, x8, -, -, -, -, -, -, -, -, -, -⟩ := id X3
    obtain ⟨c0, c1, c2, c3, c4, c5, c6, c7, c8, f0, f1, f2, f3, f4, f5, f6, f7, f8, lt9⟩ := id K3
    by_cases e : P = s
    · have e1 : (P.toList == s.toList) = true := by simp [e]
      have e2 : (P.toList != s.toList) = false := by simp [e]
      have E := hide ((unhide HV).1 e)
      clear HV e
      go_wp2
      have R := (((((((((K3.put0 (.int .i64 1)).put1 (.bool y)).put2 (.bool false)).put3 (.slice none 0 0)).put4 (.int .i64 0)).put5 (.int .i64 0)).put6 (.int .i64 0)).put7 (.int .i64 0)).put8 (.string ⟨#[]⟩))
      have BB := (((((((((B3.setCell (p := ⟨w.heap.size, 0, none⟩) (Nat.le_refl _) (.int .i64 1)).setCell (p := ⟨w.heap.size, 1, none⟩) (Nat.le_refl _) (.bool y)).setCell (p := ⟨w.heap.size, 2, none⟩) (Nat.le_refl _) (.bool false)).setCell (p := ⟨w.heap.size, 3, none⟩) (Nat.le_refl _) (.slice none 0 0)).setCell (p := ⟨w.heap.size, 4, none⟩) (Nat.le_refl _) (.int .i64 0)).setCell (p := ⟨w.heap.size, 5, none⟩) (Nat.le_refl _) (.int .i64 0)).setCell (p := ⟨w.heap.size, 6, none⟩) (Nat.le_refl _) (.int .i64 0)).setCell (p := ⟨w.heap.size, 7, none⟩) (Nat.le_refl _) (.int .i64 0)).setCell (p := ⟨w.heap.size, 8, none⟩) (Nat.le_refl _) (.string ⟨#[]⟩))
      generalize (((((((((w3.setCell ⟨w.heap.size, 0, none⟩ (.int .i64 1)).setCell ⟨w.heap.size, 1, none⟩ (.bool y)).setCell ⟨w.heap.size, 2, none⟩ (.bool false)).setCell ⟨w.heap.size, 3, none⟩ (.slice none 0 0)).setCell ⟨w.heap.size, 4, none⟩ (.int .i64 0)).setCell ⟨w.heap.size, 5, none⟩ (.int .i64 0)).setCell ⟨w.heap.size, 6, none⟩ (.int .i64 0)).setCell ⟨w.heap.size, 7, none⟩ (.int .i64 0)).setCell ⟨w.heap.size, 8, none⟩ (.string ⟨#[]⟩)) = W9 at *
      obtain ⟨r0, r1, r2, r3, r4, r5, r6, r7, r8, -, -, -, -, -, -, -, -, -, -⟩ := id R
      refine bodyPost_ret (v := .tuple #[.agg #[.int .i64 1, .bool y, .bool false, .slice none 0 0, .int .i64 0, .int .i64 0, .int .i64 0, .int .i64 0, .string ⟨#[]⟩], .bool true]) (by simp [results, Tryz.results14, go_sem, r0, r1, r2, r3, r4, r5, r6, r7, r8]) rfl (gv_some (V1 y) (Own.nil _ _) BB (unhide E))
    · have e1 := txt_ne e
      have e2 : (P.toList != s.toList) = true := by simpa using e1
      have E := hide ((unhide HV).2 e)
      clear HV e
      go_wp2
      have R := (((((((((K3.put0 (.int .i64 0)).put1 (.bool false)).put2 (.bool false)).put3 (.slice none 0 0)).put4 (.int .i64 0)).put5 (.int .i64 0)).put6 (.int .i64 0)).put7 (.int .i64 0)).put8 (.string ⟨#[]⟩))
      have BB := (((((((((B3.setCell (p := ⟨w.heap.size, 0, none⟩) (Nat.le_refl _) (.int .i64 0)).setCell (p := ⟨w.heap.size, 1, none⟩) (Nat.le_refl _) (.bool false)).setCell (p := ⟨w.heap.size, 2, none⟩) (Nat.le_refl _) (.bool false)).setCell (p := ⟨w.heap.size, 3, none⟩) (Nat.le_refl _) (.slice none 0 0)).setCell (p := ⟨w.heap.size, 4, none⟩) (Nat.le_refl _) (.int .i64 0)).setCell (p := ⟨w.heap.size, 5, none⟩) (Nat.le_refl _) (.int .i64 0)).setCell (p := ⟨w.heap.size, 6, none⟩) (Nat.le_refl _) (.int .i64 0)).setCell (p := ⟨w.heap.size, 7, none⟩) (Nat.le_refl _) (.int .i64 0)).setCell (p := ⟨w.heap.size, 8, none⟩) (Nat.le_refl _) (.string ⟨#[]⟩))
      generalize (((((((((w3.setCell ⟨w.heap.size, 0, none⟩ (.int .i64 0)).setCell ⟨w.heap.size, 1, none⟩ (.bool false)).setCell ⟨w.heap.size, 2, none⟩ (.bool false)).setCell ⟨w.heap.size, 3, none⟩ (.slice none 0 0)).setCell ⟨w.heap.size, 4, none⟩ (.int .i64 0)).setCell ⟨w.heap.size, 5, none⟩ (.int .i64 0)).setCell ⟨w.heap.size, 6, none⟩ (.int .i64 0)).setCell ⟨w.heap.size, 7, none⟩ (.int .i64 0)).setCell ⟨w.heap.size, 8, none⟩ (.string ⟨#[]⟩)) = W9 at *
      obtain ⟨r0, r1, r2, r3, r4, r5, r6, r7, r8, -, -, -, -, -, -, -, -, -, -⟩ := id R
      refine bodyPost_ret (v := .tuple #[.agg #[.int .i64 0, .bool false, .bool false, .slice none 0 0, .int .i64 0, .int .i64 0, .int .i64 0, .int .i64 0, .string ⟨#[]⟩], .bool false]) (by simp [results, Tryz.results14, go_sem, r0, r1, r2, r3, r4, r5, r6, r7, r8]) rfl (gv_none BB (unhide E))
  · have HV : (valPutR 2 false n l sc 0 0 0 ⟨#[]⟩ = s → VT s (V2 n l sc)) ∧ (valPutR 2 false n l sc 0 0 0 ⟨#[]⟩ ≠ s → ∀ U, ¬ VT s U) := vg_case (V := V2 n l sc) (by rcases hp with hp | ⟨rfl, rfl, rfl⟩; exact .inl hp; exact .inr zero_ok) h1
    obtain ⟨P, hP⟩ : ∃ P, valPutR 2 false n l sc 0 0 0 ⟨#[]⟩ = P := ⟨_, rfl⟩
    rw [hP] at HV
    have HV := hide HV
    clear h1 hp
    go_wp2_with fail
    refine (value_2 _ n ao l.length cap sc).mono ?_
    rintro e w2 ⟨rfl, b2⟩
    have K2 := (K1.later b2).later ((Below.refl _ _).alloc (Nat.le_refl _) (.cells #[.int .i64 2, .bool false, .bool n, .slice ao l.length cap, .int .i64 sc, .int .i64 0, .int .i64 0, .int .i64 0, .string ⟨#[]⟩] 31))
    have B2 := B1.trans (b2.mono B1.size)
    have z2 := b2.size
    have o2 := o1.later b2
    have X2 := V9.new w2 (.int .i64 2) (.bool false) (.bool n) (.slice ao l.length cap) (.int .i64 sc) (.int .i64 0) (.int .i64 0) (.int .i64 0) (.string ⟨#[]⟩) 31
    have CP := fun W (b : Below w.heap.size w W) (c : Below w2.heap.size w2 W) => implValuePut_any W 2 false n ao l cap sc 0 0 0 ⟨#[]⟩ (by decide) ((o2.later c).reads) (tt.later b) (mx.later b)
    rw [hP] at CP
    have CP := hide CP
    clear hP K1 B1 b2
    go_wp2_with fail
    refine (unhide CP _ (B2.alloc B2.size _) ((Below.refl _ _).alloc (Nat.le_refl _) _)).mono ?_
    rintro e w3 ⟨rfl, b3⟩
    have K3 := K2.later b3
    have X3 := X2.later b3
    have B3 := (B2.alloc B2.size (.cells #[.int .i64 2, .bool false, .bool n, .slice ao l.length cap, .int .i64 sc, .int .i64 0, .int .i64 0, .int .i64 0, .string ⟨#[]⟩] 31)).trans (b3.mono (by simp; omega))
    have o3 := ((o2.later ((Below.refl _ _).alloc (Nat.le_refl _) (.cells #[.int .i64 2, .bool false, .bool n, .slice ao l.length cap, .int .i64 sc, .int .i64 0, .int .i64 0, .int .i64 0, .string ⟨#[]⟩] 31))).later b3).mono (B' := w.heap.size + 1) (by simp)
    clear K2 X2 B2 b3 CP
    obtain ⟨x0, x1, x2, x3, x4, x5, x6, x7, x8, -, -, -, -, -, -, -, -, -, -⟩ := id X3
    obtain ⟨c0, c1, c2, c3, c4, c5, c6, c7, c8, f0, f1, f2, f3, f4, f5, f6, f7, f8, lt9⟩ := id K3
    by_cases e : P = s
    · have e1 : (P.toList == s.toList) = true := by simp [e]
      have e2 : (P.toList != s.toList) = false := by simp [e]
      have E := hide ((unhide HV).1 e)
      clear HV e
      go_wp2
      have R := (((((((((K3.put0 (.int .i64 2)).put1 (.bool false)).put2 (.bool n)).put3 (.slice ao l.length cap)).put4 (.int .i64 sc)).put5 (.int .i64 0)).put6 (.int .i64 0)).put7 (.int .i64 0)).put8 (.string ⟨#[]⟩))
      have BB := (((((((((B3.setCell (p := ⟨w.heap.size, 0, none⟩) (Nat.le_refl _) (.int .i64 2)).setCell (p := ⟨w.heap.size, 1, none⟩) (Nat.le_refl _) (.bool false)).setCell (p := ⟨w.heap.size, 2, none⟩) (Nat.le_refl _) (.bool n)).setCell (p := ⟨w.heap.size, 3, none⟩) (Nat.le_refl _) (.slice ao l.length cap)).setCell (p := ⟨w.heap.size, 4, none⟩) (Nat.le_refl _) (.int .i64 sc)).setCell (p := ⟨w.heap.size, 5, none⟩) (Nat.le_refl _) (.int .i64 0)).setCell (p := ⟨w.heap.size, 6, none⟩) (Nat.le_refl _) (.int .i64 0)).setCell (p := ⟨w.heap.size, 7, none⟩) (Nat.le_refl _) (.int .i64 0)).setCell (p := ⟨w.heap.size, 8, none⟩) (Nat.le_refl _) (.string ⟨#[]⟩))
      have OO := (((((((((o3.setBelow (a := ⟨w.heap.size, 0, none⟩) (Nat.lt_succ_self _) (.int .i64 2)).setBelow (a := ⟨w.heap.size, 1, none⟩) (Nat.lt_succ_self _) (.bool false)).setBelow (a := ⟨w.heap.size, 2, none⟩) (Nat.lt_succ_self _) (.bool n)).setBelow (a := ⟨w.heap.size, 3, none⟩) (Nat.lt_succ_self _) (.slice ao l.length cap)).setBelow (a := ⟨w.heap.size, 4, none⟩) (Nat.lt_succ_self _) (.int .i64 sc)).setBelow (a := ⟨w.heap.size, 5, none⟩) (Nat.lt_succ_self _) (.int .i64 0)).setBelow (a := ⟨w.heap.size, 6, none⟩) (Nat.lt_succ_self _) (.int .i64 0)).setBelow (a := ⟨w.heap.size, 7, none⟩) (Nat.lt_succ_self _) (.int .i64 0)).setBelow (a := ⟨w.heap.size, 8, none⟩) (Nat.lt_succ_self _) (.string ⟨#[]⟩))
      generalize (((((((((w3.setCell ⟨w.heap.size, 0, none⟩ (.int .i64 2)).setCell ⟨w.heap.size, 1, none⟩ (.bool false)).setCell ⟨w.heap.size, 2, none⟩ (.bool n)).setCell ⟨w.heap.size, 3, none⟩ (.slice ao l.length cap)).setCell ⟨w.heap.size, 4, none⟩ (.int .i64 sc)).setCell ⟨w.heap.size, 5, none⟩ (.int .i64 0)).setCell ⟨w.heap.size, 6, none⟩ (.int .i64 0)).setCell ⟨w.heap.size, 7, none⟩ (.int .i64 0)).setCell ⟨w.heap.size, 8, none⟩ (.string ⟨#[]⟩)) = W9 at *
      obtain ⟨r0, r1, r2, r3, r4, r5, r6, r7, r8, -, -, -, -, -, -, -, -, -, -⟩ := id R
      refine bodyPost_ret (v := .tuple #[.agg #[.int .i64 2, .bool false, .bool n, .slice ao l.length cap, .int .i64 sc, .int .i64 0, .int .i64 0, .int .i64 0, .string ⟨#[]⟩], .bool true]) (by simp [results, Tryz.results14, go_sem, r0, r1, r2, r3, r4, r5, r6, r7, r8]) rfl (gv_some (V2 n l sc) (OO.mono (Nat.le_succ _)) BB (unhide E))
    · have e1 := txt_ne e
      have e2 : (P.toList != s.toList) = true := by simpa using e1
      have E := hide ((unhide HV).2 e)
      clear HV e
      go_wp2
      have R := (((((((((K3.put0 (.int .i64 0)).put1 (.bool false)).put2 (.bool false)).put3 (.slice none 0 0)).put4 (.int .i64 0)).put5 (.int .i64 0)).put6 (.int .i64 0)).put7 (.int .i64 0)).put8 (.string ⟨#[]⟩))
      have BB := (((((((((B3.setCell (p := ⟨w.heap.size, 0, none⟩) (Nat.le_refl _) (.int .i64 0)).setCell (p := ⟨w.heap.size, 1, none⟩) (Nat.le_refl _) (.bool false)).setCell (p := ⟨w.heap.size, 2, none⟩) (Nat.le_refl _) (.bool false)).setCell (p := ⟨w.heap.size, 3, none⟩) (Nat.le_refl _) (.slice none 0 0)).setCell (p := ⟨w.heap.size, 4, none⟩) (Nat.le_refl _) (.int .i64 0)).setCell (p := ⟨w.heap.size, 5, none⟩) (Nat.le_refl _) (.int .i64 0)).setCell (p := ⟨w.heap.size, 6, none⟩) (Nat.le_refl _) (.int .i64 0)).setCell (p := ⟨w.heap.size, 7, none⟩) (Nat.le_refl _) (.int .i64 0)).setCell (p := ⟨w.heap.size, 8, none⟩) (Nat.le_refl _) (.string ⟨#[]⟩))
      generalize (((((((((w3.setCell ⟨w.heap.size, 0, none⟩ (.int .i64 0)).setCell ⟨w.heap.size, 1, none⟩ (.bool false)).setCell ⟨w.heap.size, 2, none⟩ (.bool false)).setCell ⟨w.heap.size, 3, none⟩ (.slice none 0 0)).setCell ⟨w.heap.size, 4, none⟩ (.int .i64 0)).setCell ⟨w.heap.size, 5, none⟩ (.int .i64 0)).setCell ⟨w.heap.size, 6, none⟩ (.int .i64 0)).setCell ⟨w.heap.size, 7, none⟩ (.int .i64 0)).setCell ⟨w.heap.size, 8, none⟩ (.string ⟨#[]⟩)) = W9 at *
      obtain ⟨r0, r1, r2, r3, r4, r5, r6, r7, r8, -, -, -, -, -, -, -, -, -, -⟩ := id R
      refine bodyPost_ret (v := .tuple #[.agg #[.int .i64 0, .bool false, .bool false, .slice none 0 0, .int .i64 0, .int .i64 0, .int .i64 0, .int .i64 0, .string ⟨#[]⟩], .bool false]) (by simp [results, Tryz.results14, go_sem, r0, r1, r2, r3, r4, r5, r6, r7, r8]) rfl (gv_none BB (unhide E))
  · have HV : (valPutR 3 false false [] 0 d 0 0 ⟨#[]⟩ = s → VT s (V3 d)) ∧ (valPutR 3 false false [] 0 d 0 0 ⟨#[]⟩ ≠ s → ∀ U, ¬ VT s U) := vg_case (V := V3 d) (.inl hp) h1
    obtain ⟨P, hP⟩ : ∃ P, valPutR 3 false false [] 0 d 0 0 ⟨#[]⟩ = P := ⟨_, rfl⟩
    rw [hP] at HV
    have HV := hide HV
    clear h1 hp
    go_wp2_with fail
    refine (value_3 _ d).mono ?_
    rintro e w2 ⟨rfl, b2⟩
    have K2 := (K1.later b2).later ((Below.refl _ _).alloc (Nat.le_refl _) (.cells #[.int .i64 3, .bool false, .bool false, .slice none 0 0, .int .i64 0, .int .i64 d, .int .i64 0, .int .i64 0, .string ⟨#[]⟩] 31))
    have B2 := B1.trans (b2.mono B1.size)
    have z2 := b2.size
    have X2 := V9.new w2 (.int .i64 3) (.bool false) (.bool false) (.slice none 0 0) (.int .i64 0) (.int .i64 d) (.int .i64 0) (.int .i64 0) (.string ⟨#[]⟩) 31
    have CP := fun W (b : Below w.heap.size w W) => implValuePut_any W 3 false false none [] 0 0 d 0 0 ⟨#[]⟩ (by decide) ((Own.nil 0 W).reads) (tt.later b) (mx.later b)
    rw [hP] at CP
    have CP := hide CP
    clear hP K1 B1 b2
    go_wp2_with fail
    refine (unhide CP _ (B2.alloc B2.size _)).mono ?_
    rintro e w3 ⟨rfl, b3⟩
    have K3 := K2.later b3
    have X3 := X2.later b3
    have B3 := (B2.alloc B2.size (.cells #[.int .i64 3, .bool false, .bool false, .slice none 0 0, .int .i64 0, .int .i64 d, .int .i64 0, .int .i64 0, .string ⟨#[]⟩] 31)).trans (b3.mono (by simp; omega))
    clear K2 X2 B2 b3 CP
    obtain ⟨x0, x1, x2, x3, x4, x5, x6, x7, x8, -, -, -, -, -, -, -, -, -, -⟩ := id X3
    obtain ⟨c0, c1, c2, c3, c4, c5, c6, c7, c8, f0, f1, f2, f3, f4, f5, f6, f7, f8, lt9⟩ := id K3
    by_cases e : P = s
    · have e1 : (P.toList == s.toList) = true := by simp [e]
      have e2 : (P.toList != s.toList) = false := by simp [e]
      have E := hide ((unhide HV).1 e)
      clear HV e
      go_wp2
      have R := (((((((((K3.put0 (.int .i64 3)).put1 (.bool false)).put2 (.bool false)).put3 (.slice none 0 0)).put4 (.int .i64 0)).put5 (.int .i64 d)).put6 (.int .i64 0)).put7 (.int .i64 0)).put8 (.string ⟨#[]⟩))
      have BB := (((((((((B3.setCell (p := ⟨w.heap.size, 0, none⟩) (Nat.le_refl _) (.int .i64 3)).setCell (p := ⟨w.heap.size, 1, none⟩) (Nat.le_refl _) (.bool false)).setCell (p := ⟨w.heap.size, 2, none⟩) (Nat.le_refl _) (.bool false)).setCell (p := ⟨w.heap.size, 3, none⟩) (Nat.le_refl _) (.slice none 0 0)).setCell (p := ⟨w.heap.size, 4, none⟩) (Nat.le_refl _) (.int .i64 0)).setCell (p := ⟨w.heap.size, 5, none⟩) (Nat.le_refl _) (.int .i64 d)).setCell (p := ⟨w.heap.size, 6, none⟩) (Nat.le_refl _) (.int .i64 0)).setCell (p := ⟨w.heap.size, 7, none⟩) (Nat.le_refl _) (.int .i64 0)).setCell (p := ⟨w.heap.size, 8, none⟩) (Nat.le_refl _) (.string ⟨#[]⟩))
      generalize (((((((((w3.setCell ⟨w.heap.size, 0, none⟩ (.int .i64 3)).setCell ⟨w.heap.size, 1, none⟩ (.bool false)).setCell ⟨w.heap.size, 2, none⟩ (.bool false)).setCell ⟨w.heap.size, 3, none⟩ (.slice none 0 0)).setCell ⟨w.heap.size, 4, none⟩ (.int .i64 0)).setCell ⟨w.heap.size, 5, none⟩ (.int .i64 d)).setCell ⟨w.heap.size, 6, none⟩ (.int .i64 0)).setCell ⟨w.heap.size, 7, none⟩ (.int .i64 0)).setCell ⟨w.heap.size, 8, none⟩ (.string ⟨#[]⟩)) = W9 at *
      obtain ⟨r0, r1, r2, r3, r4, r5, r6, r7, r8, -, -, -, -, -, -, -, -, -, -⟩ := id R
      refine bodyPost_ret (v := .tuple #[.agg #[.int .i64 3, .bool false, .bool false, .slice none 0 0, .int .i64 0, .int .i64 d, .int .i64 0, .int .i64 0, .string ⟨#[]⟩], .bool true]) (by simp [results, Tryz.results14, go_sem, r0, r1, r2, r3, r4, r5, r6, r7, r8]) rfl (gv_some (V3 d) (Own.nil _ _) BB (unhide E))
    · have e1 := txt_ne e
      have e2 : (P.toList != s.toList) = true := by simpa using e1
      have E := hide ((unhide HV).2 e)
      clear HV e
      go_wp2
      have R := (((((((((K3.put0 (.int .i64 0)).put1 (.bool false)).put2 (.bool false)).put3 (.slice none 0 0)).put4 (.int .i64 0)).put5 (.int .i64 0)).put6 (.int .i64 0)).put7 (.int .i64 0)).put8 (.string ⟨#[]⟩))
      have BB := (((((((((B3.setCell (p := ⟨w.heap.size, 0, none⟩) (Nat.le_refl _) (.int .i64 0)).setCell (p := ⟨w.heap.size, 1, none⟩) (Nat.le_refl _) (.bool false)).setCell (p := ⟨w.heap.size, 2, none⟩) (Nat.le_refl _) (.bool false)).setCell (p := ⟨w.heap.size, 3, none⟩) (Nat.le_refl _) (.slice none 0 0)).setCell (p := ⟨w.heap.size, 4, none⟩) (Nat.le_refl _) (.int .i64 0)).setCell (p := ⟨w.heap.size, 5, none⟩) (Nat.le_refl _) (.int .i64 0)).setCell (p := ⟨w.heap.size, 6, none⟩) (Nat.le_refl _) (.int .i64 0)).setCell (p := ⟨w.heap.size, 7, none⟩) (Nat.le_refl _) (.int .i64 0)).setCell (p := ⟨w.heap.size, 8, none⟩) (Nat.le_refl _) (.string ⟨#[]⟩))
      generalize (((((((((w3.setCell ⟨w.heap.size, 0, none⟩ (.int .i64 0)).setCell ⟨w.heap.size, 1, none⟩ (.bool false)).setCell ⟨w.heap.size, 2, none⟩ (.bool false)).setCell ⟨w.heap.size, 3, none⟩ (.slice none 0 0)).setCell ⟨w.heap.size, 4, none⟩ (.int .i64 0)).setCell ⟨w.heap.size, 5, none⟩ (.int .i64 0)).setCell ⟨w.heap.size, 6, none⟩ (.int .i64 0)).setCell ⟨w.heap.size, 7, none⟩ (.int .i64 0)).setCell ⟨w.heap.size, 8, none⟩ (.string ⟨#[]⟩)) = W9 at *
      obtain ⟨r0, r1, r2, r3, r4, r5, r6, r7, r8, -, -, -, -, -, -, -, -, -, -⟩ := id R
      refine bodyPost_ret (v := .tuple #[.agg #[.int .i64 0, .bool false, .bool false, .slice none 0 0, .int .i64 0, .int .i64 0, .int .i64 0, .int .i64 0, .string ⟨#[]⟩], .bool false]) (by simp [results, Tryz.results14, go_sem, r0, r1, r2, r3, r4, r5, r6, r7, r8]) rfl (gv_none BB (unhide E))
  · have HV : (valPutR 4 false false [] 0 0 mo da ⟨#[]⟩ = s → VT s (V4 mo da)) ∧ (valPutR 4 false false [] 0 0 mo da ⟨#[]⟩ ≠ s → ∀ U, ¬ VT s U) := vg_case (V := V4 mo da) (.inl hp) h1
    obtain ⟨P, hP⟩ : ∃ P, valPutR 4 false false [] 0 0 mo da ⟨#[]⟩ = P := ⟨_, rfl⟩
    rw [hP] at HV
    have HV := hide HV
    clear h1 hp
    go_wp2_with fail
    refine (value_4 _ mo da).mono ?_
    rintro e w2 ⟨rfl, b2⟩
    have K2 := (K1.later b2).later ((Below.refl _ _).alloc (Nat.le_refl _) (.cells #[.int .i64 4, .bool false, .bool false, .slice none 0 0, .int .i64 0, .int .i64 0, .int .i64 mo, .int .i64 da, .string ⟨#[]⟩] 31))
    have B2 := B1.trans (b2.mono B1.size)
    have z2 := b2.size
    have X2 := V9.new w2 (.int .i64 4) (.bool false) (.bool false) (.slice none 0 0) (.int .i64 0) (.int .i64 0) (.int .i64 mo) (.int .i64 da) (.string ⟨#[]⟩) 31
    have CP := fun W (b : Below w.heap.size w W) => implValuePut_any W 4 false false none [] 0 0 0 mo da ⟨#[]⟩ (by decide) ((Own.nil 0 W).reads) (tt.later b) (mx.later b)
    rw [hP] at CP
    have CP := hide CP
    clear hP K1 B1 b2
    go_wp2_with fail
    refine (unhide CP _ (B2.alloc B2.size _)).mono ?_
    rintro e w3 ⟨rfl, b3⟩
    have K3 := K2.later b3
    have X3 := X2.later b3
    have B3 := (B2.alloc B2.size (.cells #[.int .i64 4, .bool false, .bool false, .slice none 0 0, .int .i64 0, .int .i64 0, .int .i64 mo, .int .i64 da, .string ⟨#[]⟩] 31)).trans (b3.mono (by simp; omega))
    clear K2 X2 B2 b3 CP
    obtain ⟨x0, x1, x2, x3, x4, x5, x6, x7, x8, -, -, -, -, -, -, -, -, -, -⟩ := id X3
    obtain ⟨c0, c1, c2, c3, c4, c5, c6, c7, c8, f0, f1, f2, f3, f4, f5, f6, f7, f8, lt9⟩ := id K3
    by_cases e : P = s
    · have e1 : (P.toList == s.toList) = true := by simp [e]
      have e2 : (P.toList != s.toList) = false := by simp [e]
      have E := hide ((unhide HV).1 e)
      clear HV e
      go_wp2
      have R := (((((((((K3.put0 (.int .i64 4)).put1 (.bool false)).put2 (.bool false)).put3 (.slice none 0 0)).put4 (.int .i64 0)).put5 (.int .i64 0)).put6 (.int .i64 mo)).put7 (.int .i64 da)).put8 (.string ⟨#[]⟩))
      have BB := (((((((((B3.setCell (p := ⟨w.heap.size, 0, none⟩) (Nat.le_refl _) (.int .i64 4)).setCell (p := ⟨w.heap.size, 1, none⟩) (Nat.le_refl _) (.bool false)).setCell (p := ⟨w.heap.size, 2, none⟩) (Nat.le_refl _) (.bool false)).setCell (p := ⟨w.heap.size, 3, none⟩) (Nat.le_refl _) (.slice none 0 0)).setCell (p := ⟨w.heap.size, 4, none⟩) (Nat.le_refl _) (.int .i64 0)).setCell (p := ⟨w.heap.size, 5, none⟩) (Nat.le_refl _) (.int .i64 0)).setCell (p := ⟨w.heap.size, 6, none⟩) (Nat.le_refl _) (.int .i64 mo)).setCell (p := ⟨w.heap.size, 7, none⟩) (Nat.le_refl _) (.int .i64 da)).setCell (p := ⟨w.heap.size, 8, none⟩) (Nat.le_refl _) (.string ⟨#[]⟩))
      generalize (((((((((w3.setCell ⟨w.heap.size, 0, none⟩ (.int .i64 4)).setCell ⟨w.heap.size, 1, none⟩ (.bool false)).setCell ⟨w.heap.size, 2, none⟩ (.bool false)).setCell ⟨w.heap.size, 3, none⟩ (.slice none 0 0)).setCell ⟨w.heap.size, 4, none⟩ (.int .i64 0)).setCell ⟨w.heap.size, 5, none⟩ (.int .i64 0)).setCell ⟨w.heap.size, 6, none⟩ (.int .i64 mo)).setCell ⟨w.heap.size, 7, none⟩ (.int .i64 da)).setCell ⟨w.heap.size, 8, none⟩ (.string ⟨#[]⟩)) = W9 at *
      obtain ⟨r0, r1, r2, r3, r4, r5, r6, r7, r8, -, -, -, -, -, -, -, -, -, -⟩ := id R
      refine bodyPost_ret (v := .tuple #[.agg #[.int .i64 4, .bool false, .bool false, .slice none 0 0, .int .i64 0, .int .i64 0, .int .i64 mo, .int .i64 da, .string ⟨#[]⟩], .bool true]) (by simp [results, Tryz.results14, go_sem, r0, r1, r2, r3, r4, r5, r6, r7, r8]) rfl (gv_some (V4 mo da) (Own.nil _ _) BB (unhide E))
    · have e1 := txt_ne e
      have e2 : (P.toList != s.toList) = true := by simpa using e1
      have E := hide ((unhide HV).2 e)
      clear HV e
      go_wp2
      have R := (((((((((K3.put0 (.int .i64 0)).put1 (.bool false)).put2 (.bool false)).put3 (.slice none 0 0)).put4 (.int .i64 0)).put5 (.int .i64 0)).put6 (.int .i64 0)).put7 (.int .i64 0)).put8 (.string ⟨#[]⟩))
      have BB := (((((((((B3.setCell (p := ⟨w.heap.size, 0, none⟩) (Nat.le_refl _) (.int .i64 0)).setCell (p := ⟨w.heap.size, 1, none⟩) (Nat.le_refl _) (.bool false)).setCell (p := ⟨w.heap.size, 2, none⟩) (Nat.le_refl _) (.bool false)).setCell (p := ⟨w.heap.size, 3, none⟩) (Nat.le_refl _) (.slice none 0 0)).setCell (p := ⟨w.heap.size, 4, none⟩) (Nat.le_refl _) (.int .i64 0)).setCell (p := ⟨w.heap.size, 5, none⟩) (Nat.le_refl _) (.int .i64 0)).setCell (p := ⟨w.heap.size, 6, none⟩) (Nat.le_refl _) (.int .i64 0)).setCell (p := ⟨w.heap.size, 7, none⟩) (Nat.le_refl _) (.int .i64 0)).setCell (p := ⟨w.heap.size, 8, none⟩) (Nat.le_refl _) (.string ⟨#[]⟩))
      generalize (((((((((w3.setCell ⟨w.heap.size, 0, none⟩ (.int .i64 0)).setCell ⟨w.heap.size, 1, none⟩ (.bool false)).setCell ⟨w.heap.size, 2, none⟩ (.bool false)).setCell ⟨w.heap.size, 3, none⟩ (.slice none 0 0)).setCell ⟨w.heap.size, 4, none⟩ (.int .i64 0)).setCell ⟨w.heap.size, 5, none⟩ (.int .i64 0)).setCell ⟨w.heap.size, 6, none⟩ (.int .i64 0)).setCell ⟨w.heap.size, 7, none⟩ (.int .i64 0)).setCell ⟨w.heap.size, 8, none⟩ (.string ⟨#[]⟩)) = W9 at *
      obtain ⟨r0, r1, r2, r3, r4, r5, r6, r7, r8, -, -, -, -, -, -, -, -, -, -⟩ := id R
      refine bodyPost_ret (v := .tuple #[.agg #[.int .i64 0, .bool false, .bool false, .slice none 0 0, .int .i64 0, .int .i64 0, .int .i64 0, .int .i64 0, .string ⟨#[]⟩], .bool false]) (by simp [results, Tryz.results14, go_sem, r0, r1, r2, r3, r4, r5, r6, r7, r8]) rfl (gv_none BB (unhide E))
  · have HV : (valPutR 5 false false [] 0 0 0 0 t = s → VT s (V5 t)) ∧ (valPutR 5 false false [] 0 0 0 0 t ≠ s → ∀ U, ¬ VT s U) := vg_case (V := V5 t) (.inl hp) h1
    obtain ⟨P, hP⟩ : ∃ P, valPutR 5 false false [] 0 0 0 0 t = P := ⟨_, rfl⟩
    rw [hP] at HV
    have HV := hide HV
    clear h1 hp
    go_wp2_with fail
    refine (value_5 _ t).mono ?_
    rintro e w2 ⟨rfl, b2⟩
    have K2 := (K1.later b2).later ((Below.refl _ _).alloc (Nat.le_refl _) (.cells #[.int .i64 5, .bool false, .bool false, .slice none 0 0, .int .i64 0, .int .i64 0, .int .i64 0, .int .i64 0, .string t] 31))
    have B2 := B1.trans (b2.mono B1.size)
    have z2 := b2.size
    have X2 := V9.new w2 (.int .i64 5) (.bool false) (.bool false) (.slice none 0 0) (.int .i64 0) (.int .i64 0) (.int .i64 0) (.int .i64 0) (.string t) 31
    have CP := fun W (b : Below w.heap.size w W) => implValuePut_any W 5 false false none [] 0 0 0 0 0 t (by unfold maxLen; omega) ((Own.nil 0 W).reads) (tt.later b) (mx.later b)
    rw [hP] at CP
    have CP := hide CP
    clear hP K1 B1 b2
    go_wp2_with fail
    refine (unhide CP _ (B2.alloc B2.size _)).mono ?_
    rintro e w3 ⟨rfl, b3⟩
    have K3 := K2.later b3
    have X3 := X2.later b3
    have B3 := (B2.alloc B2.size (.cells #[.int .i64 5, .bool false, .bool false, .slice none 0 0, .int .i64 0, .int .i64 0, .int .i64 0, .int .i64 0, .string t] 31)).trans (b3.mono (by simp; omega))
    clear K2 X2 B2 b3 CP
    obtain ⟨x0, x1, x2, x3, x4, x5, x6, x7, x8, -, -, -, -, -, -, -, -, -, -⟩ := id X3
    obtain ⟨c0, c1, c2, c3, c4, c5, c6, c7, c8, f0, f1, f2, f3, f4, f5, f6, f7, f8, lt9⟩ := id K3
    by_cases e : P = s
    · have e1 : (P.toList == s.toList) = true := by simp [e]
      have e2 : (P.toList != s.toList) = false := by simp [e]
      have E := hide ((unhide HV).1 e)
      clear HV e
      go_wp2
      have R := (((((((((K3.put0 (.int .i64 5)).put1 (.bool false)).put2 (.bool false)).put3 (.slice none 0 0)).put4 (.int .i64 0)).put5 (.int .i64 0)).put6 (.int .i64 0)).put7 (.int .i64 0)).put8 (.string t))
      have BB := (((((((((B3.setCell (p := ⟨w.heap.size, 0, none⟩) (Nat.le_refl _) (.int .i64 5)).setCell (p := ⟨w.heap.size, 1, none⟩) (Nat.le_refl _) (.bool false)).setCell (p := ⟨w.heap.size, 2, none⟩) (Nat.le_refl _) (.bool false)).setCell (p := ⟨w.heap.size, 3, none⟩) (Nat.le_refl _) (.slice none 0 0)).setCell (p := ⟨w.heap.size, 4, none⟩) (Nat.le_refl _) (.int .i64 0)).setCell (p := ⟨w.heap.size, 5, none⟩) (Nat.le_refl _) (.int .i64 0)).setCell (p := ⟨w.heap.size, 6, none⟩) (Nat.le_refl _) (.int .i64 0)).setCell (p := ⟨w.heap.size, 7, none⟩) (Nat.le_refl _) (.int .i64 0)).setCell (p := ⟨w.heap.size, 8, none⟩) (Nat.le_refl _) (.string t))
      generalize (((((((((w3.setCell ⟨w.heap.size, 0, none⟩ (.int .i64 5)).setCell ⟨w.heap.size, 1, none⟩ (.bool false)).setCell ⟨w.heap.size, 2, none⟩ (.bool false)).setCell ⟨w.heap.size, 3, none⟩ (.slice none 0 0)).setCell ⟨w.heap.size, 4, none⟩ (.int .i64 0)).setCell ⟨w.heap.size, 5, none⟩ (.int .i64 0)).setCell ⟨w.heap.size, 6, none⟩ (.int .i64 0)).setCell ⟨w.heap.size, 7, none⟩ (.int .i64 0)).setCell ⟨w.heap.size, 8, none⟩ (.string t)) = W9 at *
      obtain ⟨r0, r1, r2, r3, r4, r5, r6, r7, r8, -, -, -, -, -, -, -, -, -, -⟩ := id R
      refine bodyPost_ret (v := .tuple #[.agg #[.int .i64 5, .bool false, .bool false, .slice none 0 0, .int .i64 0, .int .i64 0, .int .i64 0, .int .i64 0, .string t], .bool true]) (by simp [results, Tryz.results14, go_sem, r0, r1, r2, r3, r4, r5, r6, r7, r8]) rfl (gv_some (V5 t) (Own.nil _ _) BB (unhide E))
    · have e1 := txt_ne e
      have e2 : (P.toList != s.toList) = true := by simpa using e1
      have E := hide ((unhide HV).2 e)
      clear HV e
      go_wp2
      have R := (((((((((K3.put0 (.int .i64 0)).put1 (.bool false)).put2 (.bool false)).put3 (.slice none 0 0)).put4 (.int .i64 0)).put5 (.int .i64 0)).put6 (.int .i64 0)).put7 (.int .i64 0)).put8 (.string ⟨#[]⟩))
      have BB := (((((((((B3.setCell (p := ⟨w.heap.size, 0, none⟩) (Nat.le_refl _) (.int .i64 0)).setCell (p := ⟨w.heap.size, 1, none⟩) (Nat.le_refl _) (.bool false)).setCell (p := ⟨w.heap.size, 2, none⟩) (Nat.le_refl _) (.bool false)).setCell (p := ⟨w.heap.size, 3, none⟩) (Nat.le_refl _) (.slice none 0 0)).setCell (p := ⟨w.heap.size, 4, none⟩) (Nat.le_refl _) (.int .i64 0)).setCell (p := ⟨w.heap.size, 5, none⟩) (Nat.le_refl _) (.int .i64 0)).setCell (p := ⟨w.heap.size, 6, none⟩) (Nat.le_refl _) (.int .i64 0)).setCell (p := ⟨w.heap.size, 7, none⟩) (Nat.le_refl _) (.int .i64 0)).setCell (p := ⟨w.heap.size, 8, none⟩) (Nat.le_refl _) (.string ⟨#[]⟩))
      generalize (((((((((w3.setCell ⟨w.heap.size, 0, none⟩ (.int .i64 0)).setCell ⟨w.heap.size, 1, none⟩ (.bool false)).setCell ⟨w.heap.size, 2, none⟩ (.bool false)).setCell ⟨w.heap.size, 3, none⟩ (.slice none 0 0)).setCell ⟨w.heap.size, 4, none⟩ (.int .i64 0)).setCell ⟨w.heap.size, 5, none⟩ (.int .i64 0)).setCell ⟨w.heap.size, 6, none⟩ (.int .i64 0)).setCell ⟨w.heap.size, 7, none⟩ (.int .i64 0)).setCell ⟨w.heap.size, 8, none⟩ (.string ⟨#[]⟩)) = W9 at *
      obtain ⟨r0, r1, r2, r3, r4, r5, r6, r7, r8, -, -, -, -, -, -, -, -, -, -⟩ := id R
      refine bodyPost_ret (v := .tuple #[.agg #[.int .i64 0, .bool false, .bool false, .slice none 0 0, .int .i64 0, .int .i64 0, .int .i64 0, .int .i64 0, .string ⟨#[]⟩], .bool false]) (by simp [results, Tryz.results14, go_sem, r0, r1, r2, r3, r4, r5, r6, r7, r8]) rfl (gv_none BB (unhide E))

end Go.Proofs.YtdklikicngmkbaaGreatDoor
