/- The law FnType: its walk. -/
import Derived.Test.YtnfalniijmccjaaDoorXTypeGet
import Derived.Test.YtnfalniijmccjaaDoorDrTy
import Derived.Test.YtnfalniijmccjaaDoorByt1
import Derived.Deep.RegionHeld3
namespace Go.Proofs.YtnfalniijmccjaaDoor
open Go.RowKit
set_option maxRecDepth 100000
set_option linter.unusedSimpArgs false

theorem specTypeOk_any2 (w : World) (k m d : Int) : Calls Tryd.prog 29 #[.agg #[.int .i64 k, .int .i64 m, .int .i64 d]] w fun e w' => e = .returned (.bool (decide (TypeIs k m d))) ∧ Below w.heap.size w w' := by
  have C := fun W => specL4TypeOk_any W k m d
  generalize decide (TypeIs k m d) = bb at *
  have C := hide C
  go_enter Tryd.func29, Tryd.ntmps29
  go_wp2_with fail
  refine (unhide C _).mono ?_
  rintro e w1 ⟨rfl, hw⟩
  subst hw
  go_wp2
  go_ret
  exact ⟨rfl, ((Below.refl _ _).alloc (Nat.le_refl _) _).alloc (by simp) _⟩

theorem implTypeOk_any2 (w : World) (k m d : Int) : Calls Tryd.prog 28 #[.agg #[.int .i64 k, .int .i64 m, .int .i64 d]] w fun e w' => e = .returned (.bool (decide (TypeIs k m d))) ∧ Below w.heap.size w w' := by
  refine (implTypeOk_any w k m d).mono ?_
  rintro e w1 ⟨rfl, rfl⟩
  exact ⟨rfl, (Below.refl _ _).alloc (Nat.le_refl _) _⟩

theorem typT_ne {s : ByteArray} {a b c : Int} (h : TypT s a b c) : s ≠ ⟨#[]⟩ := by
  obtain ⟨hi, rfl⟩ := h
  rcases type_kinds hi with ⟨rfl, -⟩ | ⟨rfl, rfl, rfl⟩ | ⟨rfl, rfl, rfl⟩ | ⟨rfl, rfl, rfl⟩ | ⟨rfl, rfl, rfl⟩
  · intro e
    have h := congrArg (fun x : ByteArray => x.data.toList.length) (show numT b c = ⟨#[]⟩ from e)
    simp only [numT_list] at h
    simp at h
  all_goals decide

theorem type_text {k m d x y z : Int} {ok : Bool} (h : (ok = true ∧ TypT (typePutR k m d) x y z) ∨ (ok = false ∧ x = 0 ∧ y = 0 ∧ z = 0 ∧ ∀ a b e, ¬ TypT (typePutR k m d) a b e)) : (TypeIs k m d ∧ x = k ∧ y = m ∧ z = d ∧ ok = true) ∨ (¬ TypeIs k m d ∧ ok = false) := by
  by_cases hi : TypeIs k m d
  · have hs : TypT (typePutR k m d) k m d := ⟨hi, by unfold typePutR; rw [if_pos hi]⟩
    rcases h with ⟨h1, h2⟩ | ⟨h1, h2, h3, h4, h5⟩
    · obtain ⟨a, b, c⟩ := typT_same hs h2
      exact .inl ⟨hi, a, b, c, h1⟩
    · exact absurd hs (h5 _ _ _)
  · right
    refine ⟨hi, ?_⟩
    rcases h with ⟨h1, h2⟩ | ⟨h1, -⟩
    · exfalso
      apply typT_ne h2
      unfold typePutR
      rw [if_neg hi]
    · exact h1

set_option maxHeartbeats 8000000 in
theorem xTypeP_walk (w : World) (u u1 : Value) (hu : Byt w u) (hu1 : Byt w u1) (tt : Tab w) (he : Er w) :
    Calls Tryd.prog 6 #[u, u1] w fun e w' => e = .returned (.bool true) ∧ Below w.heap.size w w' := by
  have C0 := hide (drawTypePut_any w u hu)
  have C1 := hide (fun W (b : Below w.heap.size w W) => drawTypeGet_any W u1 (hu1.later b))
  obtain ⟨ao, N, cap, rfl, hn⟩ := byt_len hu
  obtain ⟨ao1, N1, cap1, rfl, hn1⟩ := byt_len hu1
  clear hu hu1
  by_cases hl : (1048576 : Int) < N
  · have t0 : decide ((1048576 : Int) < N) = true := by simpa using hl
    go_enter Tryd.func6, Tryd.ntmps6
    go_wp2
    go_ret
    exact ⟨rfl, Below.refl _ _⟩
  have t0 : decide ((1048576 : Int) < N) = false := by simpa using hl
  by_cases hl1 : (1048576 : Int) < N1
  · have t1 : decide ((1048576 : Int) < N1) = true := by simpa using hl1
    go_enter Tryd.func6, Tryd.ntmps6
    go_wp2
    go_ret
    exact ⟨rfl, Below.refl _ _⟩
  have t1 : decide ((1048576 : Int) < N1) = false := by simpa using hl1
  have CP := hide (fun W k m d (b : Below w.heap.size w W) => implTypePut_any W k m d (tt.later b))
  have CG := hide (fun W s (hs : s.size ≤ 2000000) (b : Below w.heap.size w W) => implTypeGet_any W s hs (tt.later b) (he.later b))
  go_enter Tryd.func6, Tryd.ntmps6
  go_wp2_with fail
  refine (unhide C0).mono ?_
  rintro e w1 ⟨k, m, d, rfl, b1⟩
  have B1 := b1.alloc b1.size (.cells #[.int .i64 k, .int .i64 m, .int .i64 d] 38)
  have a0 : (w1.alloc (.cells #[.int .i64 k, .int .i64 m, .int .i64 d] 38)).cell? ⟨w1.heap.size, 0, none⟩ = some (.int .i64 k) := by go_simp
  have a1 : (w1.alloc (.cells #[.int .i64 k, .int .i64 m, .int .i64 d] 38)).cell? ⟨w1.heap.size, 1, none⟩ = some (.int .i64 m) := by go_simp
  have a2 : (w1.alloc (.cells #[.int .i64 k, .int .i64 m, .int .i64 d] 38)).cell? ⟨w1.heap.size, 2, none⟩ = some (.int .i64 d) := by go_simp
  have zt : (typePutR k m d).size ≤ 2000000 := by
    unfold typePutR
    split
    · have := typeT_small (k := k) (d := m) (c := d) (by assumption); omega
    · exact Nat.zero_le _
  clear b1 C0
  go_wp2_with fail
  refine (unhide CP _ k m d B1).mono ?_
  rintro e w2 ⟨rfl, b2⟩
  have B2 := B1.trans (b2.mono B1.size)
  have p0 := cell_later b2 a0
  have p1 := cell_later b2 a1
  have p2 := cell_later b2 a2
  have zA : w1.heap.size < w2.heap.size := by have := b2.size; rw [World.size_alloc] at this; omega
  clear b2 a0 a1 a2 B1
  go_wp2_with fail
  refine (unhide CG _ _ zt B2).mono ?_
  rintro e w3 ⟨x, y, z, ok, rfl, b3, h3⟩
  have HT := hide (type_text h3)
  have B3 := B2.trans (b3.mono B2.size)
  have q0 := cell_later b3 p0
  have q1 := cell_later b3 p1
  have q2 := cell_later b3 p2
  have zB : w1.heap.size < w3.heap.size := Nat.lt_of_lt_of_le zA b3.size
  clear h3 b3 p0 p1 p2 B2 zA zt
  go_wp2_with fail
  have BA : Below w3.heap.size w3 (w3.alloc (.cells #[.int .i64 x, .int .i64 y, .int .i64 z] 38)) := (Below.refl _ _).alloc (Nat.le_refl _) _
  have r0 := cell_later BA q0
  have r1 := cell_later BA q1
  have r2 := cell_later BA q2
  have s0 : (w3.alloc (.cells #[.int .i64 x, .int .i64 y, .int .i64 z] 38)).cell? ⟨w3.heap.size, 0, none⟩ = some (.int .i64 x) := by go_simp
  have s1 : (w3.alloc (.cells #[.int .i64 x, .int .i64 y, .int .i64 z] 38)).cell? ⟨w3.heap.size, 1, none⟩ = some (.int .i64 y) := by go_simp
  have s2 : (w3.alloc (.cells #[.int .i64 x, .int .i64 y, .int .i64 z] 38)).cell? ⟨w3.heap.size, 2, none⟩ = some (.int .i64 z) := by go_simp
  have B4 := B3.trans (BA.mono B3.size)
  have zC : w3.heap.size < (w3.alloc (.cells #[.int .i64 x, .int .i64 y, .int .i64 z] 38)).heap.size := by simp
  have zD : w1.heap.size < (w3.alloc (.cells #[.int .i64 x, .int .i64 y, .int .i64 z] 38)).heap.size := by simp; omega
  generalize w3.alloc (.cells #[.int .i64 x, .int .i64 y, .int .i64 z] 38) = H at *
  have Stab := hide (fun (w' : World) (h : Below H.heap.size H w') => (⟨cell_later h r0, cell_later h r1, cell_later h r2, cell_later h s0, cell_later h s1, cell_later h s2⟩ : w'.cell? ⟨w1.heap.size, 0, none⟩ = some (.int .i64 k) ∧ w'.cell? ⟨w1.heap.size, 1, none⟩ = some (.int .i64 m) ∧ w'.cell? ⟨w1.heap.size, 2, none⟩ = some (.int .i64 d) ∧ w'.cell? ⟨w3.heap.size, 0, none⟩ = some (.int .i64 x) ∧ w'.cell? ⟨w3.heap.size, 1, none⟩ = some (.int .i64 y) ∧ w'.cell? ⟨w3.heap.size, 2, none⟩ = some (.int .i64 z)))
  have CS := hide (fun W => specTypePut_any W k m d)
  have CO := hide (fun W => implTypeOk_any2 W k m d)
  have CQ := hide (fun W => specTypeOk_any2 W k m d)
  have PP : ((typePutR k m d).toList != (typePutR k m d).toList) = false := by simp
  clear B3 q0 q1 q2 r0 r1 r2 s0 s1 s2 BA
  generalize typePutR k m d = P at *
  have BX0 : Below H.heap.size H H.drew := (Below.refl _ _).drew
  rcases unhide HT with ⟨hi, rfl, rfl, rfl, rfl⟩ | ⟨hi, rfl⟩
  case inl =>
    rw [decide_eq_true hi] at CO CQ
    have v1 : (x != x) = false := by simp
    have v2 : (y != y) = false := by simp
    have v3 : (z != z) = false := by simp
    clear hi HT
    refine wp_region_held_drew (S := (fun w' => w'.cell? ⟨w1.heap.size, 0, none⟩ = some (.int .i64 x) ∧ w'.cell? ⟨w1.heap.size, 1, none⟩ = some (.int .i64 y) ∧ w'.cell? ⟨w1.heap.size, 2, none⟩ = some (.int .i64 z) ∧ w'.cell? ⟨w3.heap.size, 0, none⟩ = some (.int .i64 x) ∧ w'.cell? ⟨w3.heap.size, 1, none⟩ = some (.int .i64 y) ∧ w'.cell? ⟨w3.heap.size, 2, none⟩ = some (.int .i64 z))) (by kernel_rfl) (unhide Stab _ BX0) (fun hHeld => ?_)
    refine wpAnyH_take (i := 0) (oi := { dst := some 31, op := Op.move (Operand.tmp 6), type := 9, pos := "laws.go:758", after := #[], guard := none }) (v := ?v0) rfl (by kernel_rfl) (by kernel_rfl) (by kernel_rfl) (fun _ _ _ h => h) (Or.inl ⟨by rfl, ?hy0⟩) hHeld ?rest0
    case hy0 => (intro wq hSw; (try dsimp only at hSw); go_simp; first | done | with_reducible rfl)
    try simp only [Act.put, List.setIfInBounds_toArray, List.set_cons_zero, List.set_cons_succ]
    refine wpAnyH_take (i := 1) (oi := { dst := some 32, op := Op.load 38 (Operand.tmp 5), type := 38, pos := "laws.go:758", after := #[], guard := none }) (v := ?v1) rfl (by kernel_rfl) (by kernel_rfl) (by kernel_rfl) (fun _ _ _ h => h) (Or.inl ⟨by rfl, ?hy1⟩) hHeld ?rest1
    case hy1 => (intro wq hSw; (try dsimp only at hSw); go_simp; first | done | with_reducible rfl)
    try simp only [Act.put, List.setIfInBounds_toArray, List.set_cons_zero, List.set_cons_succ]
    refine wpAnyH_ready (rs := [2]) (by kernel_rfl) (by simp) ?_
    refine AllReadyH.cons (o := { dst := some 33, op := Op.call { callee := Callee.value (Operand.func 27), args := #[Operand.tmp 32], argTypes := #[38] }, type := 9, pos := "laws.go:758", after := #[{ on := 1, ground := Ground.data }], guard := none }) rfl (fun K hK => ?_) AllReadyH.nil
    go_simp
    refine (unhide CS _).mono ?_
    rintro e wy1 ⟨rfl, by1⟩
    have BX1 := BX0.trans (by1.mono BX0.size)
    go_wp2_with fail
    refine hK.out _ _ (unhide Stab _ BX1) (fun hHeld => ?_)
    clear hK K
    try simp only [Act.put, List.setIfInBounds_toArray, List.set_cons_zero, List.set_cons_succ]
    refine wpAnyH_take (i := 3) (oi := { dst := some 34, op := Op.binOp BinOp.neq 9 (Operand.tmp 31) (Operand.tmp 33) 9, type := 4, pos := "laws.go:758", after := #[{ on := 0, ground := Ground.data }, { on := 2, ground := Ground.data }], guard := none }) (v := ?v3) rfl (by kernel_rfl) (by kernel_rfl) (by kernel_rfl) (fun _ _ _ h => h) (Or.inl ⟨by rfl, ?hy3⟩) hHeld ?rest3
    case hy3 => (intro wq hSw; (try dsimp only at hSw); go_simp; first | done | with_reducible rfl)
    try simp only [Act.put, List.setIfInBounds_toArray, List.set_cons_zero, List.set_cons_succ]
    refine wpAnyH_take (i := 4) (oi := { dst := some 35, op := Op.move (Operand.tmp 34), type := 4, pos := "laws.go:758", after := #[{ on := 3, ground := Ground.data }, { on := 2, ground := Ground.chain }], guard := none }) (v := ?v4) rfl (by kernel_rfl) (by kernel_rfl) (by kernel_rfl) (fun _ _ _ h => h) (Or.inl ⟨by rfl, ?hy4⟩) hHeld ?rest4
    case hy4 => (intro wq hSw; (try dsimp only at hSw); go_simp; first | done | with_reducible rfl)
    try simp only [Act.put, List.setIfInBounds_toArray, List.set_cons_zero, List.set_cons_succ]
    refine wpAnyH_take (i := 5) (oi := { dst := some 36, op := Op.load 38 (Operand.tmp 5), type := 38, pos := "laws.go:758", after := #[{ on := 4, ground := Ground.guard }], guard := some (4, false) }) (v := ?v5) rfl (by kernel_rfl) (by kernel_rfl) (by kernel_rfl) (fun _ _ _ h => h) (Or.inl ⟨by rfl, ?hy5⟩) hHeld ?rest5
    case hy5 => (intro wq hSw; (try dsimp only at hSw); go_simp; first | done | with_reducible rfl)
    try simp only [Act.put, List.setIfInBounds_toArray, List.set_cons_zero, List.set_cons_succ]
    refine wpAnyH_take (i := 7) (oi := { dst := some 38, op := Op.load 38 (Operand.tmp 5), type := 38, pos := "laws.go:758", after := #[{ on := 4, ground := Ground.guard }], guard := some (4, false) }) (v := ?v7) rfl (by kernel_rfl) (by kernel_rfl) (by kernel_rfl) (fun _ _ _ h => h) (Or.inl ⟨by rfl, ?hy7⟩) hHeld ?rest7
    case hy7 => (intro wq hSw; (try dsimp only at hSw); go_simp; first | done | with_reducible rfl)
    try simp only [Act.put, List.setIfInBounds_toArray, List.set_cons_zero, List.set_cons_succ]
    refine wpAnyH_ready (rs := [6]) (by kernel_rfl) (by simp) ?_
    refine AllReadyH.cons (o := { dst := some 37, op := Op.call { callee := Callee.value (Operand.func 28), args := #[Operand.tmp 36], argTypes := #[38] }, type := 4, pos := "laws.go:758", after := #[{ on := 5, ground := Ground.data }, { on := 4, ground := Ground.chain }, { on := 4, ground := Ground.guard }], guard := some (4, false) }) rfl (fun K hK => ?_) AllReadyH.nil
    go_simp
    refine (unhide CO _).mono ?_
    rintro e wy2 ⟨rfl, by2⟩
    have BX2 := BX1.trans (by2.mono BX1.size)
    go_wp2_with fail
    refine hK.out _ _ (unhide Stab _ BX2) (fun hHeld => ?_)
    clear hK K
    try simp only [Act.put, List.setIfInBounds_toArray, List.set_cons_zero, List.set_cons_succ]
    refine wpAnyH_ready (rs := [8]) (by kernel_rfl) (by simp) ?_
    refine AllReadyH.cons (o := { dst := some 39, op := Op.call { callee := Callee.value (Operand.func 29), args := #[Operand.tmp 38], argTypes := #[38] }, type := 4, pos := "laws.go:758", after := #[{ on := 7, ground := Ground.data }, { on := 6, ground := Ground.chain }, { on := 4, ground := Ground.guard }], guard := some (4, false) }) rfl (fun K hK => ?_) AllReadyH.nil
    go_simp
    refine (unhide CQ _).mono ?_
    rintro e wy3 ⟨rfl, by3⟩
    have BX3 := BX2.trans (by3.mono BX2.size)
    go_wp2_with fail
    refine hK.out _ _ (unhide Stab _ BX3) (fun hHeld => ?_)
    clear hK K
    try simp only [Act.put, List.setIfInBounds_toArray, List.set_cons_zero, List.set_cons_succ]
    refine wpAnyH_take (i := 9) (oi := { dst := some 40, op := Op.binOp BinOp.neq 4 (Operand.tmp 37) (Operand.tmp 39) 4, type := 4, pos := "laws.go:758", after := #[{ on := 6, ground := Ground.data }, { on := 8, ground := Ground.data }, { on := 4, ground := Ground.guard }], guard := some (4, false) }) (v := ?v9) rfl (by kernel_rfl) (by kernel_rfl) (by kernel_rfl) (fun _ _ _ h => h) (Or.inl ⟨by rfl, ?hy9⟩) hHeld ?rest9
    case hy9 => (intro wq hSw; (try dsimp only at hSw); go_simp; first | done | with_reducible rfl)
    try simp only [Act.put, List.setIfInBounds_toArray, List.set_cons_zero, List.set_cons_succ]
    refine wpAnyH_take (i := 10) (oi := { dst := some 41, op := Op.pick (Operand.tmp 35) (Operand.const (Value.bool true)) (Operand.tmp 40), type := 4, pos := "laws.go:758", after := #[{ on := 4, ground := Ground.data }, { on := 9, ground := Ground.data }], guard := none }) (v := ?v10) rfl (by kernel_rfl) (by kernel_rfl) (by kernel_rfl) (fun _ _ _ h => h) (Or.inl ⟨by rfl, ?hy10⟩) hHeld ?rest10
    case hy10 => (intro wq hSw; (try dsimp only at hSw); go_simp; first | done | with_reducible rfl)
    try simp only [Act.put, List.setIfInBounds_toArray, List.set_cons_zero, List.set_cons_succ]
    refine wpAnyH_take (i := 11) (oi := { dst := some 42, op := Op.move (Operand.tmp 41), type := 4, pos := "laws.go:758", after := #[{ on := 10, ground := Ground.data }, { on := 8, ground := Ground.chain }], guard := none }) (v := ?v11) rfl (by kernel_rfl) (by kernel_rfl) (by kernel_rfl) (fun _ _ _ h => h) (Or.inl ⟨by rfl, ?hy11⟩) hHeld ?rest11
    case hy11 => (intro wq hSw; (try dsimp only at hSw); go_simp; first | done | with_reducible rfl)
    try simp only [Act.put, List.setIfInBounds_toArray, List.set_cons_zero, List.set_cons_succ]
    refine wpAnyH_take (i := 12) (oi := { dst := some 43, op := Op.move (Operand.tmp 8), type := 4, pos := "laws.go:758", after := #[{ on := 11, ground := Ground.guard }], guard := some (11, false) }) (v := ?v12) rfl (by kernel_rfl) (by kernel_rfl) (by kernel_rfl) (fun _ _ _ h => h) (Or.inl ⟨by rfl, ?hy12⟩) hHeld ?rest12
    case hy12 => (intro wq hSw; (try dsimp only at hSw); go_simp; first | done | with_reducible rfl)
    try simp only [Act.put, List.setIfInBounds_toArray, List.set_cons_zero, List.set_cons_succ]
    refine wpAnyH_take (i := 13) (oi := { dst := some 44, op := Op.load 38 (Operand.tmp 5), type := 38, pos := "laws.go:758", after := #[{ on := 11, ground := Ground.guard }], guard := some (11, false) }) (v := ?v13) rfl (by kernel_rfl) (by kernel_rfl) (by kernel_rfl) (fun _ _ _ h => h) (Or.inl ⟨by rfl, ?hy13⟩) hHeld ?rest13
    case hy13 => (intro wq hSw; (try dsimp only at hSw); go_simp; first | done | with_reducible rfl)
    try simp only [Act.put, List.setIfInBounds_toArray, List.set_cons_zero, List.set_cons_succ]
    refine wpAnyH_ready (rs := [14]) (by kernel_rfl) (by simp) ?_
    refine AllReadyH.cons (o := { dst := some 45, op := Op.call { callee := Callee.value (Operand.func 28), args := #[Operand.tmp 44], argTypes := #[38] }, type := 4, pos := "laws.go:758", after := #[{ on := 13, ground := Ground.data }, { on := 11, ground := Ground.chain }, { on := 11, ground := Ground.guard }], guard := some (11, false) }) rfl (fun K hK => ?_) AllReadyH.nil
    go_simp
    refine (unhide CO _).mono ?_
    rintro e wy4 ⟨rfl, by4⟩
    have BX4 := BX3.trans (by4.mono BX3.size)
    go_wp2_with fail
    refine hK.out _ _ (unhide Stab _ BX4) (fun hHeld => ?_)
    clear hK K
    try simp only [Act.put, List.setIfInBounds_toArray, List.set_cons_zero, List.set_cons_succ]
    refine wpAnyH_take (i := 15) (oi := { dst := some 46, op := Op.binOp BinOp.neq 4 (Operand.tmp 43) (Operand.tmp 45) 4, type := 4, pos := "laws.go:758", after := #[{ on := 12, ground := Ground.data }, { on := 14, ground := Ground.data }, { on := 11, ground := Ground.guard }], guard := some (11, false) }) (v := ?v15) rfl (by kernel_rfl) (by kernel_rfl) (by kernel_rfl) (fun _ _ _ h => h) (Or.inl ⟨by rfl, ?hy15⟩) hHeld ?rest15
    case hy15 => (intro wq hSw; (try dsimp only at hSw); go_simp; first | done | with_reducible rfl)
    try simp only [Act.put, List.setIfInBounds_toArray, List.set_cons_zero, List.set_cons_succ]
    refine wpAnyH_take (i := 16) (oi := { dst := some 47, op := Op.pick (Operand.tmp 42) (Operand.const (Value.bool true)) (Operand.tmp 46), type := 4, pos := "laws.go:758", after := #[{ on := 11, ground := Ground.data }, { on := 15, ground := Ground.data }], guard := none }) (v := ?v16) rfl (by kernel_rfl) (by kernel_rfl) (by kernel_rfl) (fun _ _ _ h => h) (Or.inl ⟨by rfl, ?hy16⟩) hHeld ?rest16
    case hy16 => (intro wq hSw; (try dsimp only at hSw); go_simp; first | done | with_reducible rfl)
    try simp only [Act.put, List.setIfInBounds_toArray, List.set_cons_zero, List.set_cons_succ]
    refine wpAnyH_take (i := 17) (oi := { dst := some 48, op := Op.move (Operand.tmp 47), type := 4, pos := "laws.go:758", after := #[{ on := 16, ground := Ground.data }, { on := 14, ground := Ground.chain }], guard := none }) (v := ?v17) rfl (by kernel_rfl) (by kernel_rfl) (by kernel_rfl) (fun _ _ _ h => h) (Or.inl ⟨by rfl, ?hy17⟩) hHeld ?rest17
    case hy17 => (intro wq hSw; (try dsimp only at hSw); go_simp; first | done | with_reducible rfl)
    try simp only [Act.put, List.setIfInBounds_toArray, List.set_cons_zero, List.set_cons_succ]
    refine wpAnyH_take (i := 18) (oi := { dst := some 49, op := Op.move (Operand.tmp 8), type := 4, pos := "laws.go:758", after := #[{ on := 17, ground := Ground.guard }], guard := some (17, false) }) (v := ?v18) rfl (by kernel_rfl) (by kernel_rfl) (by kernel_rfl) (fun _ _ _ h => h) (Or.inl ⟨by rfl, ?hy18⟩) hHeld ?rest18
    case hy18 => (intro wq hSw; (try dsimp only at hSw); go_simp; first | done | with_reducible rfl)
    try simp only [Act.put, List.setIfInBounds_toArray, List.set_cons_zero, List.set_cons_succ]
    refine wpAnyH_take (i := 19) (oi := { dst := some 50, op := Op.move (Operand.tmp 49), type := 4, pos := "laws.go:758", after := #[{ on := 18, ground := Ground.data }, { on := 17, ground := Ground.chain }, { on := 17, ground := Ground.guard }], guard := some (17, false) }) (v := ?v19) rfl (by kernel_rfl) (by kernel_rfl) (by kernel_rfl) (fun _ _ _ h => h) (Or.inl ⟨by rfl, ?hy19⟩) hHeld ?rest19
    case hy19 => (intro wq hSw; (try dsimp only at hSw); go_simp; first | done | with_reducible rfl)
    try simp only [Act.put, List.setIfInBounds_toArray, List.set_cons_zero, List.set_cons_succ]
    refine wpAnyH_take (i := 20) (oi := { dst := some 51, op := Op.load 38 (Operand.tmp 7), type := 38, pos := "laws.go:758", after := #[{ on := 19, ground := Ground.guard }], guard := some (19, true) }) (v := ?v20) rfl (by kernel_rfl) (by kernel_rfl) (by kernel_rfl) (fun _ _ _ h => h) (Or.inl ⟨by rfl, ?hy20⟩) hHeld ?rest20
    case hy20 => (intro wq hSw; (try dsimp only at hSw); go_simp; first | done | with_reducible rfl)
    try simp only [Act.put, List.setIfInBounds_toArray, List.set_cons_zero, List.set_cons_succ]
    refine wpAnyH_take (i := 21) (oi := { dst := some 52, op := Op.load 38 (Operand.tmp 5), type := 38, pos := "laws.go:758", after := #[{ on := 19, ground := Ground.guard }], guard := some (19, true) }) (v := ?v21) rfl (by kernel_rfl) (by kernel_rfl) (by kernel_rfl) (fun _ _ _ h => h) (Or.inl ⟨by rfl, ?hy21⟩) hHeld ?rest21
    case hy21 => (intro wq hSw; (try dsimp only at hSw); go_simp; first | done | with_reducible rfl)
    try simp only [Act.put, List.setIfInBounds_toArray, List.set_cons_zero, List.set_cons_succ]
    refine wpAnyH_take (i := 22) (oi := { dst := some 53, op := Op.binOp BinOp.neq 38 (Operand.tmp 51) (Operand.tmp 52) 38, type := 4, pos := "laws.go:758", after := #[{ on := 20, ground := Ground.data }, { on := 21, ground := Ground.data }, { on := 19, ground := Ground.guard }], guard := some (19, true) }) (v := ?v22) rfl (by kernel_rfl) (by kernel_rfl) (by kernel_rfl) (fun _ _ _ h => h) (Or.inl ⟨by rfl, ?hy22⟩) hHeld ?rest22
    case hy22 => (intro wq hSw; (try dsimp only at hSw); go_simp; first | done | with_reducible rfl)
    try simp only [Act.put, List.setIfInBounds_toArray, List.set_cons_zero, List.set_cons_succ]
    refine wpAnyH_take (i := 23) (oi := { dst := some 54, op := Op.pick (Operand.tmp 50) (Operand.tmp 53) (Operand.const (Value.bool false)), type := 4, pos := "laws.go:758", after := #[{ on := 19, ground := Ground.data }, { on := 22, ground := Ground.data }, { on := 17, ground := Ground.guard }], guard := some (17, false) }) (v := ?v23) rfl (by kernel_rfl) (by kernel_rfl) (by kernel_rfl) (fun _ _ _ h => h) (Or.inl ⟨by rfl, ?hy23⟩) hHeld ?rest23
    case hy23 => (intro wq hSw; (try dsimp only at hSw); go_simp; first | done | with_reducible rfl)
    try simp only [Act.put, List.setIfInBounds_toArray, List.set_cons_zero, List.set_cons_succ]
    refine wpAnyH_take (i := 24) (oi := { dst := some 55, op := Op.pick (Operand.tmp 48) (Operand.const (Value.bool true)) (Operand.tmp 54), type := 4, pos := "laws.go:758", after := #[{ on := 17, ground := Ground.data }, { on := 23, ground := Ground.data }], guard := none }) (v := ?v24) rfl (by kernel_rfl) (by kernel_rfl) (by kernel_rfl) (fun _ _ _ h => h) (Or.inl ⟨by rfl, ?hy24⟩) hHeld ?rest24
    case hy24 => (intro wq hSw; (try dsimp only at hSw); go_simp; first | done | with_reducible rfl)
    try simp only [Act.put, List.setIfInBounds_toArray, List.set_cons_zero, List.set_cons_succ]
    refine wpAnyH_done (by kernel_rfl) ?_ _
    have B5 := B4.trans (BX4.mono B4.size)
    go_wp2_with fail
    refine (unhide C1 _ B5).mono ?_
    rintro e w6 ⟨U, rfl, hU, b6⟩
    have B6 := B5.trans (b6.mono B5.size)
    have hUm : U.size ≤ maxLen := by unfold maxLen; omega
    clear b6 B5
    go_wp2_with fail
    refine (unhide CG _ U (by omega) B6).mono ?_
    rintro e w7 ⟨f, g, j, is, rfl, b7, h7⟩
    have H7 := hide h7
    have B7 := (B6.trans (b7.mono B6.size))
    have B8 := B7.alloc B7.size (.cells #[.int .i64 f, .int .i64 g, .int .i64 j] 38)
    have f0 : (w7.alloc (.cells #[.int .i64 f, .int .i64 g, .int .i64 j] 38)).cell? ⟨w7.heap.size, 0, none⟩ = some (.int .i64 f) := by go_simp
    have f1 : (w7.alloc (.cells #[.int .i64 f, .int .i64 g, .int .i64 j] 38)).cell? ⟨w7.heap.size, 1, none⟩ = some (.int .i64 g) := by go_simp
    have f2 : (w7.alloc (.cells #[.int .i64 f, .int .i64 g, .int .i64 j] 38)).cell? ⟨w7.heap.size, 2, none⟩ = some (.int .i64 j) := by go_simp
    clear h7 b7 B6 B7
    go_wp2_with fail
    refine (specTypeGet_any _ U hUm).mono ?_
    rintro e w9 ⟨n1, n2, n3, is2, rfl, b9, h9⟩
    have e9 := type_one (unhide H7) h9
    obtain ⟨rfl, rfl, rfl, rfl⟩ := e9
    have B9 := B8.trans (b9.mono B8.size)
    have j0 := cell_later b9 f0
    have j1 := cell_later b9 f1
    have j2 := cell_later b9 f2
    have zE : w7.heap.size < w9.heap.size := by have := b9.size; rw [World.size_alloc] at this; omega
    clear b9 f0 f1 f2 B8 h9
    have B10 := B9.alloc B9.size (.cells #[.int .i64 n1, .int .i64 n2, .int .i64 n3] 38)
    have i1 : (is2 == is2) = true := by simp
    have i2 : (n1 == n1) = true := by simp
    have i3 : (n2 == n2) = true := by simp
    have i4 : (n3 == n3) = true := by simp
    cases is2
    · clear H7
      go_wp2
      go_ret
      exact ⟨rfl, B10⟩
    · have HU := hide (show typePutR n1 n2 n3 = U from by
        rcases unhide H7 with ⟨-, h⟩ | ⟨h, -⟩
        · unfold typePutR; rw [if_pos h.1]; exact h.2
        · cases h)
      clear H7
      go_wp2_with fail
      refine (unhide CP _ n1 n2 n3 B10).mono ?_
      rw [unhide HU]
      rintro e w11 ⟨rfl, b11⟩
      have uu : (U.toList == U.toList) = true := by simp
      go_wp2
      go_ret
      exact ⟨rfl, B10.trans (b11.mono B10.size)⟩
  case inr =>
    rw [decide_eq_false hi] at CO CQ
    clear hi HT
    refine wp_region_held_drew (S := (fun w' => w'.cell? ⟨w1.heap.size, 0, none⟩ = some (.int .i64 k) ∧ w'.cell? ⟨w1.heap.size, 1, none⟩ = some (.int .i64 m) ∧ w'.cell? ⟨w1.heap.size, 2, none⟩ = some (.int .i64 d) ∧ w'.cell? ⟨w3.heap.size, 0, none⟩ = some (.int .i64 x) ∧ w'.cell? ⟨w3.heap.size, 1, none⟩ = some (.int .i64 y) ∧ w'.cell? ⟨w3.heap.size, 2, none⟩ = some (.int .i64 z))) (by kernel_rfl) (unhide Stab _ BX0) (fun hHeld => ?_)
    refine wpAnyH_take (i := 0) (oi := { dst := some 31, op := Op.move (Operand.tmp 6), type := 9, pos := "laws.go:758", after := #[], guard := none }) (v := ?v0b) rfl (by kernel_rfl) (by kernel_rfl) (by kernel_rfl) (fun _ _ _ h => h) (Or.inl ⟨by rfl, ?hy0b⟩) hHeld ?rest0b
    case hy0b => (intro wq hSw; (try dsimp only at hSw); go_simp; first | done | with_reducible rfl)
    try simp only [Act.put, List.setIfInBounds_toArray, List.set_cons_zero, List.set_cons_succ]
    refine wpAnyH_take (i := 1) (oi := { dst := some 32, op := Op.load 38 (Operand.tmp 5), type := 38, pos := "laws.go:758", after := #[], guard := none }) (v := ?v1b) rfl (by kernel_rfl) (by kernel_rfl) (by kernel_rfl) (fun _ _ _ h => h) (Or.inl ⟨by rfl, ?hy1b⟩) hHeld ?rest1b
    case hy1b => (intro wq hSw; (try dsimp only at hSw); go_simp; first | done | with_reducible rfl)
    try simp only [Act.put, List.setIfInBounds_toArray, List.set_cons_zero, List.set_cons_succ]
    refine wpAnyH_ready (rs := [2]) (by kernel_rfl) (by simp) ?_
    refine AllReadyH.cons (o := { dst := some 33, op := Op.call { callee := Callee.value (Operand.func 27), args := #[Operand.tmp 32], argTypes := #[38] }, type := 9, pos := "laws.go:758", after := #[{ on := 1, ground := Ground.data }], guard := none }) rfl (fun K hK => ?_) AllReadyH.nil
    go_simp
    refine (unhide CS _).mono ?_
    rintro e wy1 ⟨rfl, by1⟩
    have BX1 := BX0.trans (by1.mono BX0.size)
    go_wp2_with fail
    refine hK.out _ _ (unhide Stab _ BX1) (fun hHeld => ?_)
    clear hK K
    try simp only [Act.put, List.setIfInBounds_toArray, List.set_cons_zero, List.set_cons_succ]
    refine wpAnyH_take (i := 3) (oi := { dst := some 34, op := Op.binOp BinOp.neq 9 (Operand.tmp 31) (Operand.tmp 33) 9, type := 4, pos := "laws.go:758", after := #[{ on := 0, ground := Ground.data }, { on := 2, ground := Ground.data }], guard := none }) (v := ?v3b) rfl (by kernel_rfl) (by kernel_rfl) (by kernel_rfl) (fun _ _ _ h => h) (Or.inl ⟨by rfl, ?hy3b⟩) hHeld ?rest3b
    case hy3b => (intro wq hSw; (try dsimp only at hSw); go_simp; first | done | with_reducible rfl)
    try simp only [Act.put, List.setIfInBounds_toArray, List.set_cons_zero, List.set_cons_succ]
    refine wpAnyH_take (i := 4) (oi := { dst := some 35, op := Op.move (Operand.tmp 34), type := 4, pos := "laws.go:758", after := #[{ on := 3, ground := Ground.data }, { on := 2, ground := Ground.chain }], guard := none }) (v := ?v4b) rfl (by kernel_rfl) (by kernel_rfl) (by kernel_rfl) (fun _ _ _ h => h) (Or.inl ⟨by rfl, ?hy4b⟩) hHeld ?rest4b
    case hy4b => (intro wq hSw; (try dsimp only at hSw); go_simp; first | done | with_reducible rfl)
    try simp only [Act.put, List.setIfInBounds_toArray, List.set_cons_zero, List.set_cons_succ]
    refine wpAnyH_take (i := 5) (oi := { dst := some 36, op := Op.load 38 (Operand.tmp 5), type := 38, pos := "laws.go:758", after := #[{ on := 4, ground := Ground.guard }], guard := some (4, false) }) (v := ?v5b) rfl (by kernel_rfl) (by kernel_rfl) (by kernel_rfl) (fun _ _ _ h => h) (Or.inl ⟨by rfl, ?hy5b⟩) hHeld ?rest5b
    case hy5b => (intro wq hSw; (try dsimp only at hSw); go_simp; first | done | with_reducible rfl)
    try simp only [Act.put, List.setIfInBounds_toArray, List.set_cons_zero, List.set_cons_succ]
    refine wpAnyH_take (i := 7) (oi := { dst := some 38, op := Op.load 38 (Operand.tmp 5), type := 38, pos := "laws.go:758", after := #[{ on := 4, ground := Ground.guard }], guard := some (4, false) }) (v := ?v7b) rfl (by kernel_rfl) (by kernel_rfl) (by kernel_rfl) (fun _ _ _ h => h) (Or.inl ⟨by rfl, ?hy7b⟩) hHeld ?rest7b
    case hy7b => (intro wq hSw; (try dsimp only at hSw); go_simp; first | done | with_reducible rfl)
    try simp only [Act.put, List.setIfInBounds_toArray, List.set_cons_zero, List.set_cons_succ]
    refine wpAnyH_ready (rs := [6]) (by kernel_rfl) (by simp) ?_
    refine AllReadyH.cons (o := { dst := some 37, op := Op.call { callee := Callee.value (Operand.func 28), args := #[Operand.tmp 36], argTypes := #[38] }, type := 4, pos := "laws.go:758", after := #[{ on := 5, ground := Ground.data }, { on := 4, ground := Ground.chain }, { on := 4, ground := Ground.guard }], guard := some (4, false) }) rfl (fun K hK => ?_) AllReadyH.nil
    go_simp
    refine (unhide CO _).mono ?_
    rintro e wy2 ⟨rfl, by2⟩
    have BX2 := BX1.trans (by2.mono BX1.size)
    go_wp2_with fail
    refine hK.out _ _ (unhide Stab _ BX2) (fun hHeld => ?_)
    clear hK K
    try simp only [Act.put, List.setIfInBounds_toArray, List.set_cons_zero, List.set_cons_succ]
    refine wpAnyH_ready (rs := [8]) (by kernel_rfl) (by simp) ?_
    refine AllReadyH.cons (o := { dst := some 39, op := Op.call { callee := Callee.value (Operand.func 29), args := #[Operand.tmp 38], argTypes := #[38] }, type := 4, pos := "laws.go:758", after := #[{ on := 7, ground := Ground.data }, { on := 6, ground := Ground.chain }, { on := 4, ground := Ground.guard }], guard := some (4, false) }) rfl (fun K hK => ?_) AllReadyH.nil
    go_simp
    refine (unhide CQ _).mono ?_
    rintro e wy3 ⟨rfl, by3⟩
    have BX3 := BX2.trans (by3.mono BX2.size)
    go_wp2_with fail
    refine hK.out _ _ (unhide Stab _ BX3) (fun hHeld => ?_)
    clear hK K
    try simp only [Act.put, List.setIfInBounds_toArray, List.set_cons_zero, List.set_cons_succ]
    refine wpAnyH_take (i := 9) (oi := { dst := some 40, op := Op.binOp BinOp.neq 4 (Operand.tmp 37) (Operand.tmp 39) 4, type := 4, pos := "laws.go:758", after := #[{ on := 6, ground := Ground.data }, { on := 8, ground := Ground.data }, { on := 4, ground := Ground.guard }], guard := some (4, false) }) (v := ?v9b) rfl (by kernel_rfl) (by kernel_rfl) (by kernel_rfl) (fun _ _ _ h => h) (Or.inl ⟨by rfl, ?hy9b⟩) hHeld ?rest9b
    case hy9b => (intro wq hSw; (try dsimp only at hSw); go_simp; first | done | with_reducible rfl)
    try simp only [Act.put, List.setIfInBounds_toArray, List.set_cons_zero, List.set_cons_succ]
    refine wpAnyH_take (i := 10) (oi := { dst := some 41, op := Op.pick (Operand.tmp 35) (Operand.const (Value.bool true)) (Operand.tmp 40), type := 4, pos := "laws.go:758", after := #[{ on := 4, ground := Ground.data }, { on := 9, ground := Ground.data }], guard := none }) (v := ?v10b) rfl (by kernel_rfl) (by kernel_rfl) (by kernel_rfl) (fun _ _ _ h => h) (Or.inl ⟨by rfl, ?hy10b⟩) hHeld ?rest10b
    case hy10b => (intro wq hSw; (try dsimp only at hSw); go_simp; first | done | with_reducible rfl)
    try simp only [Act.put, List.setIfInBounds_toArray, List.set_cons_zero, List.set_cons_succ]
    refine wpAnyH_take (i := 11) (oi := { dst := some 42, op := Op.move (Operand.tmp 41), type := 4, pos := "laws.go:758", after := #[{ on := 10, ground := Ground.data }, { on := 8, ground := Ground.chain }], guard := none }) (v := ?v11b) rfl (by kernel_rfl) (by kernel_rfl) (by kernel_rfl) (fun _ _ _ h => h) (Or.inl ⟨by rfl, ?hy11b⟩) hHeld ?rest11b
    case hy11b => (intro wq hSw; (try dsimp only at hSw); go_simp; first | done | with_reducible rfl)
    try simp only [Act.put, List.setIfInBounds_toArray, List.set_cons_zero, List.set_cons_succ]
    refine wpAnyH_take (i := 12) (oi := { dst := some 43, op := Op.move (Operand.tmp 8), type := 4, pos := "laws.go:758", after := #[{ on := 11, ground := Ground.guard }], guard := some (11, false) }) (v := ?v12b) rfl (by kernel_rfl) (by kernel_rfl) (by kernel_rfl) (fun _ _ _ h => h) (Or.inl ⟨by rfl, ?hy12b⟩) hHeld ?rest12b
    case hy12b => (intro wq hSw; (try dsimp only at hSw); go_simp; first | done | with_reducible rfl)
    try simp only [Act.put, List.setIfInBounds_toArray, List.set_cons_zero, List.set_cons_succ]
    refine wpAnyH_take (i := 13) (oi := { dst := some 44, op := Op.load 38 (Operand.tmp 5), type := 38, pos := "laws.go:758", after := #[{ on := 11, ground := Ground.guard }], guard := some (11, false) }) (v := ?v13b) rfl (by kernel_rfl) (by kernel_rfl) (by kernel_rfl) (fun _ _ _ h => h) (Or.inl ⟨by rfl, ?hy13b⟩) hHeld ?rest13b
    case hy13b => (intro wq hSw; (try dsimp only at hSw); go_simp; first | done | with_reducible rfl)
    try simp only [Act.put, List.setIfInBounds_toArray, List.set_cons_zero, List.set_cons_succ]
    refine wpAnyH_ready (rs := [14]) (by kernel_rfl) (by simp) ?_
    refine AllReadyH.cons (o := { dst := some 45, op := Op.call { callee := Callee.value (Operand.func 28), args := #[Operand.tmp 44], argTypes := #[38] }, type := 4, pos := "laws.go:758", after := #[{ on := 13, ground := Ground.data }, { on := 11, ground := Ground.chain }, { on := 11, ground := Ground.guard }], guard := some (11, false) }) rfl (fun K hK => ?_) AllReadyH.nil
    go_simp
    refine (unhide CO _).mono ?_
    rintro e wy4 ⟨rfl, by4⟩
    have BX4 := BX3.trans (by4.mono BX3.size)
    go_wp2_with fail
    refine hK.out _ _ (unhide Stab _ BX4) (fun hHeld => ?_)
    clear hK K
    try simp only [Act.put, List.setIfInBounds_toArray, List.set_cons_zero, List.set_cons_succ]
    refine wpAnyH_take (i := 15) (oi := { dst := some 46, op := Op.binOp BinOp.neq 4 (Operand.tmp 43) (Operand.tmp 45) 4, type := 4, pos := "laws.go:758", after := #[{ on := 12, ground := Ground.data }, { on := 14, ground := Ground.data }, { on := 11, ground := Ground.guard }], guard := some (11, false) }) (v := ?v15b) rfl (by kernel_rfl) (by kernel_rfl) (by kernel_rfl) (fun _ _ _ h => h) (Or.inl ⟨by rfl, ?hy15b⟩) hHeld ?rest15b
    case hy15b => (intro wq hSw; (try dsimp only at hSw); go_simp; first | done | with_reducible rfl)
    try simp only [Act.put, List.setIfInBounds_toArray, List.set_cons_zero, List.set_cons_succ]
    refine wpAnyH_take (i := 16) (oi := { dst := some 47, op := Op.pick (Operand.tmp 42) (Operand.const (Value.bool true)) (Operand.tmp 46), type := 4, pos := "laws.go:758", after := #[{ on := 11, ground := Ground.data }, { on := 15, ground := Ground.data }], guard := none }) (v := ?v16b) rfl (by kernel_rfl) (by kernel_rfl) (by kernel_rfl) (fun _ _ _ h => h) (Or.inl ⟨by rfl, ?hy16b⟩) hHeld ?rest16b
    case hy16b => (intro wq hSw; (try dsimp only at hSw); go_simp; first | done | with_reducible rfl)
    try simp only [Act.put, List.setIfInBounds_toArray, List.set_cons_zero, List.set_cons_succ]
    refine wpAnyH_take (i := 17) (oi := { dst := some 48, op := Op.move (Operand.tmp 47), type := 4, pos := "laws.go:758", after := #[{ on := 16, ground := Ground.data }, { on := 14, ground := Ground.chain }], guard := none }) (v := ?v17b) rfl (by kernel_rfl) (by kernel_rfl) (by kernel_rfl) (fun _ _ _ h => h) (Or.inl ⟨by rfl, ?hy17b⟩) hHeld ?rest17b
    case hy17b => (intro wq hSw; (try dsimp only at hSw); go_simp; first | done | with_reducible rfl)
    try simp only [Act.put, List.setIfInBounds_toArray, List.set_cons_zero, List.set_cons_succ]
    refine wpAnyH_take (i := 18) (oi := { dst := some 49, op := Op.move (Operand.tmp 8), type := 4, pos := "laws.go:758", after := #[{ on := 17, ground := Ground.guard }], guard := some (17, false) }) (v := ?v18b) rfl (by kernel_rfl) (by kernel_rfl) (by kernel_rfl) (fun _ _ _ h => h) (Or.inl ⟨by rfl, ?hy18b⟩) hHeld ?rest18b
    case hy18b => (intro wq hSw; (try dsimp only at hSw); go_simp; first | done | with_reducible rfl)
    try simp only [Act.put, List.setIfInBounds_toArray, List.set_cons_zero, List.set_cons_succ]
    refine wpAnyH_take (i := 19) (oi := { dst := some 50, op := Op.move (Operand.tmp 49), type := 4, pos := "laws.go:758", after := #[{ on := 18, ground := Ground.data }, { on := 17, ground := Ground.chain }, { on := 17, ground := Ground.guard }], guard := some (17, false) }) (v := ?v19b) rfl (by kernel_rfl) (by kernel_rfl) (by kernel_rfl) (fun _ _ _ h => h) (Or.inl ⟨by rfl, ?hy19b⟩) hHeld ?rest19b
    case hy19b => (intro wq hSw; (try dsimp only at hSw); go_simp; first | done | with_reducible rfl)
    try simp only [Act.put, List.setIfInBounds_toArray, List.set_cons_zero, List.set_cons_succ]
    refine wpAnyH_take (i := 20) (oi := { dst := some 51, op := Op.load 38 (Operand.tmp 7), type := 38, pos := "laws.go:758", after := #[{ on := 19, ground := Ground.guard }], guard := some (19, true) }) (v := undef) rfl (by kernel_rfl) (by kernel_rfl) (by kernel_rfl) (fun _ _ _ h => h) (Or.inr ⟨by rfl, rfl⟩) hHeld ?rest20b
    try simp only [Act.put, List.setIfInBounds_toArray, List.set_cons_zero, List.set_cons_succ]
    refine wpAnyH_take (i := 21) (oi := { dst := some 52, op := Op.load 38 (Operand.tmp 5), type := 38, pos := "laws.go:758", after := #[{ on := 19, ground := Ground.guard }], guard := some (19, true) }) (v := undef) rfl (by kernel_rfl) (by kernel_rfl) (by kernel_rfl) (fun _ _ _ h => h) (Or.inr ⟨by rfl, rfl⟩) hHeld ?rest21b
    try simp only [Act.put, List.setIfInBounds_toArray, List.set_cons_zero, List.set_cons_succ]
    refine wpAnyH_take (i := 22) (oi := { dst := some 53, op := Op.binOp BinOp.neq 38 (Operand.tmp 51) (Operand.tmp 52) 38, type := 4, pos := "laws.go:758", after := #[{ on := 20, ground := Ground.data }, { on := 21, ground := Ground.data }, { on := 19, ground := Ground.guard }], guard := some (19, true) }) (v := undef) rfl (by kernel_rfl) (by kernel_rfl) (by kernel_rfl) (fun _ _ _ h => h) (Or.inr ⟨by rfl, rfl⟩) hHeld ?rest22b
    try simp only [Act.put, List.setIfInBounds_toArray, List.set_cons_zero, List.set_cons_succ]
    refine wpAnyH_take (i := 23) (oi := { dst := some 54, op := Op.pick (Operand.tmp 50) (Operand.tmp 53) (Operand.const (Value.bool false)), type := 4, pos := "laws.go:758", after := #[{ on := 19, ground := Ground.data }, { on := 22, ground := Ground.data }, { on := 17, ground := Ground.guard }], guard := some (17, false) }) (v := ?v23b) rfl (by kernel_rfl) (by kernel_rfl) (by kernel_rfl) (fun _ _ _ h => h) (Or.inl ⟨by rfl, ?hy23b⟩) hHeld ?rest23b
    case hy23b => (intro wq hSw; (try dsimp only at hSw); go_simp; first | done | with_reducible rfl)
    try simp only [Act.put, List.setIfInBounds_toArray, List.set_cons_zero, List.set_cons_succ]
    refine wpAnyH_take (i := 24) (oi := { dst := some 55, op := Op.pick (Operand.tmp 48) (Operand.const (Value.bool true)) (Operand.tmp 54), type := 4, pos := "laws.go:758", after := #[{ on := 17, ground := Ground.data }, { on := 23, ground := Ground.data }], guard := none }) (v := ?v24b) rfl (by kernel_rfl) (by kernel_rfl) (by kernel_rfl) (fun _ _ _ h => h) (Or.inl ⟨by rfl, ?hy24b⟩) hHeld ?rest24b
    case hy24b => (intro wq hSw; (try dsimp only at hSw); go_simp; first | done | with_reducible rfl)
    try simp only [Act.put, List.setIfInBounds_toArray, List.set_cons_zero, List.set_cons_succ]
    refine wpAnyH_done (by kernel_rfl) ?_ _
    have B5 := B4.trans (BX4.mono B4.size)
    go_wp2_with fail
    refine (unhide C1 _ B5).mono ?_
    rintro e w6 ⟨U, rfl, hU, b6⟩
    have B6 := B5.trans (b6.mono B5.size)
    have hUm : U.size ≤ maxLen := by unfold maxLen; omega
    clear b6 B5
    go_wp2_with fail
    refine (unhide CG _ U (by omega) B6).mono ?_
    rintro e w7 ⟨f, g, j, is, rfl, b7, h7⟩
    have H7 := hide h7
    have B7 := (B6.trans (b7.mono B6.size))
    have B8 := B7.alloc B7.size (.cells #[.int .i64 f, .int .i64 g, .int .i64 j] 38)
    have f0 : (w7.alloc (.cells #[.int .i64 f, .int .i64 g, .int .i64 j] 38)).cell? ⟨w7.heap.size, 0, none⟩ = some (.int .i64 f) := by go_simp
    have f1 : (w7.alloc (.cells #[.int .i64 f, .int .i64 g, .int .i64 j] 38)).cell? ⟨w7.heap.size, 1, none⟩ = some (.int .i64 g) := by go_simp
    have f2 : (w7.alloc (.cells #[.int .i64 f, .int .i64 g, .int .i64 j] 38)).cell? ⟨w7.heap.size, 2, none⟩ = some (.int .i64 j) := by go_simp
    clear h7 b7 B6 B7
    go_wp2_with fail
    refine (specTypeGet_any _ U hUm).mono ?_
    rintro e w9 ⟨n1, n2, n3, is2, rfl, b9, h9⟩
    have e9 := type_one (unhide H7) h9
    obtain ⟨rfl, rfl, rfl, rfl⟩ := e9
    have B9 := B8.trans (b9.mono B8.size)
    have j0 := cell_later b9 f0
    have j1 := cell_later b9 f1
    have j2 := cell_later b9 f2
    have zE : w7.heap.size < w9.heap.size := by have := b9.size; rw [World.size_alloc] at this; omega
    clear b9 f0 f1 f2 B8 h9
    have B10 := B9.alloc B9.size (.cells #[.int .i64 n1, .int .i64 n2, .int .i64 n3] 38)
    have i1 : (is2 == is2) = true := by simp
    have i2 : (n1 == n1) = true := by simp
    have i3 : (n2 == n2) = true := by simp
    have i4 : (n3 == n3) = true := by simp
    cases is2
    · clear H7
      go_wp2
      go_ret
      exact ⟨rfl, B10⟩
    · have HU := hide (show typePutR n1 n2 n3 = U from by
        rcases unhide H7 with ⟨-, h⟩ | ⟨h, -⟩
        · unfold typePutR; rw [if_pos h.1]; exact h.2
        · cases h)
      clear H7
      go_wp2_with fail
      refine (unhide CP _ n1 n2 n3 B10).mono ?_
      rw [unhide HU]
      rintro e w11 ⟨rfl, b11⟩
      have uu : (U.toList == U.toList) = true := by simp
      go_wp2
      go_ret
      exact ⟨rfl, B10.trans (b11.mono B10.size)⟩

end Go.Proofs.YtnfalniijmccjaaDoor
