/- A number at a scale, if it is not too long: fitted and coded of the program, l2Make of the specification, by contracts. -/
import Derived.Test.YthnkmjkgcnhlfaaGreatDoorH21
import Derived.Test.YthnkmjkgcnhlfaaGreatDoorH13
import Derived.Test.YthnkmjkgcnhlfaaGreatDoorH03
namespace Go.Proofs.YthnkmjkgcnhlfaaGreatDoor
open Go.RowKit
set_option maxRecDepth 100000

/-- What a call answers that hands out a decimal of its own, and a code. -/
def GivesDecI (w : World) (o : Bool × List Int × Int × Int) (e : Ending) (w' : World) : Prop :=
  ∃ ao cap, e = .returned (.tuple #[.agg #[.bool o.1, .slice ao o.2.1.length cap, .int .i64 o.2.2.1], .int .i64 o.2.2.2]) ∧ Own w.heap.size w' (.slice ao o.2.1.length cap) o.2.1 ∧ Below w.heap.size w w'

/-- A number at a scale as a decimal, if it has not too many figures. -/
def dmake (z s : Int) : Bool × List Int × Int × Int := if (txtL (L z.natAbs)).length ≤ 30 then (sg z, L z.natAbs, s, 0) else (false, [], 0, 3)

theorem fitted_fine (w : World) (p : Bool) (v : Value) (l : List Int) (s : Int) (hr : Reads w v l) (hl : Lim l) (hn : l.length ≤ 1000) (h : (txtL l).length ≤ 30) (tt : Tab w) :
    Calls Tryz.prog 49 #[.agg #[.bool p, v], .int .i64 s] w fun e w' => e = .returned (.tuple #[.agg #[.bool p, v, .int .i64 s], .nilIface]) ∧ Below w.heap.size w w' := by
  have C := hide (fun W (k : Below w.heap.size w W) => figuresOf_any W p v l (hr.later k) hl hn (tt.later k))
  have h' : ¬ (30 : Int) < (txtL l).length := by omega
  generalize (txtL l).length = n at *
  obtain ⟨ao, b, off, cap, rfl, hr0⟩ := hr
  clear hr0
  go_enter Tryz.func49, Tryz.ntmps49
  go_wp2_with fail
  refine (unhide C _ (((Below.refl _ _).alloc (Nat.le_refl _) _).alloc (by simp) _)).mono ?_
  rintro e w1 ⟨rfl, b1⟩
  obtain ⟨hc, hf⟩ := bcell b1
  have hz : w.heap.size + 1 < w1.heap.size := by have := b1.size; simp at this; omega
  have bw : Below w.heap.size w w1 := (((Below.refl _ _).alloc (Nat.le_refl _) _).alloc (by simp) _).trans (b1.mono (by simp; omega))
  clear b1
  go_wp2
  refine bodyPost_ret (v := .tuple #[.agg #[.bool p, .slice ao l.length cap, .int .i64 s], .nilIface]) (by simp [results, Tryz.results49, go_sem, hc]) rfl ⟨rfl, ?_⟩
  exact ((bw.setCell (by simp) _).setCell (by simp) _).setCell (by simp) _

theorem fitted_long (w : World) (p : Bool) (v : Value) (l : List Int) (s : Int) (hr : Reads w v l) (hl : Lim l) (hn : l.length ≤ 1000) (h : ¬ (txtL l).length ≤ 30) (tt : Tab w) :
    Calls Tryz.prog 49 #[.agg #[.bool p, v], .int .i64 s] w fun e w' => e = .returned (.tuple #[.agg #[.bool false, .slice none 0 0, .int .i64 0], .iface 80 (.agg #[.int .i64 (txtL l).length, .int .i64 3])]) ∧ Below w.heap.size w w' := by
  have C := hide (fun W (k : Below w.heap.size w W) => figuresOf_any W p v l (hr.later k) hl hn (tt.later k))
  have h' : (30 : Int) < (txtL l).length := by omega
  have h2 := txtL_long hl
  have h3 : ((txtL l).length : Int) ≤ 5000 := by omega
  clear h2 h
  generalize (txtL l).length = n at *
  obtain ⟨ao, b, off, cap, rfl, hr0⟩ := hr
  clear hr0
  go_enter Tryz.func49, Tryz.ntmps49
  go_wp2_with fail
  refine (unhide C _ (((Below.refl _ _).alloc (Nat.le_refl _) _).alloc (by simp) _)).mono ?_
  rintro e w1 ⟨rfl, b1⟩
  obtain ⟨hc, hf⟩ := bcell b1
  have hz : w.heap.size + 1 < w1.heap.size := by have := b1.size; simp at this; omega
  have bw : Below w.heap.size w w1 := (((Below.refl _ _).alloc (Nat.le_refl _) _).alloc (by simp) _).trans (b1.mono (by simp; omega))
  clear b1
  go_wp2
  refine bodyPost_ret (v := .tuple #[.agg #[.bool false, .slice none 0 0, .int .i64 0], .iface 80 (.agg #[.int .i64 n, .int .i64 3])]) (by simp [results, Tryz.results49, go_sem, hc]) rfl ⟨rfl, ?_⟩
  exact ((bw.setCell (by simp) _).setCell (by simp) _).setCell (by simp) _

theorem coded_fine (w : World) (p : Bool) (ao : Option Addr) (n cap : Nat) (s : Int) :
    Calls Tryz.prog 48 #[.agg #[.bool p, .slice ao n cap, .int .i64 s], .nilIface] w fun e w' => e = .returned (.tuple #[.agg #[.bool p, .slice ao n cap, .int .i64 s], .int .i64 0]) ∧ Below w.heap.size w w' := by
  go_enter Tryz.func48, Tryz.ntmps48
  go_wp2_with fail
  refine (as_nil _ _).mono ?_
  rintro e w1 ⟨rfl, rfl⟩
  go_wp2
  refine bodyPost_ret (v := .tuple #[.agg #[.bool p, .slice ao n cap, .int .i64 s], .int .i64 0]) (by simp [results, Tryz.results48, go_sem]) rfl ⟨rfl, ?_⟩
  exact (((Below.refl _ _).alloc (Nat.le_refl _) _).alloc (by simp) _).alloc (by simp; omega) _

theorem coded_long (w : World) (p : Bool) (ao : Option Addr) (n cap : Nat) (s : Int) (x y : Int) (hd : Hd w) :
    Calls Tryz.prog 48 #[.agg #[.bool p, .slice ao n cap, .int .i64 s], .iface 80 (.agg #[.int .i64 x, .int .i64 y])] w fun e w' => e = .returned (.tuple #[.agg #[.bool false, .slice none 0 0, .int .i64 0], .int .i64 y]) ∧ Below w.heap.size w w' := by
  have B0 : Below w.heap.size w (((w.alloc (.cells #[.bool p, .slice ao n cap, .int .i64 s] 27)).alloc (.cells #[.bool false, .slice none 0 0, .int .i64 0] 27)).alloc (.cells #[.int .i64 0, .int .i64 0] 80)) := (((Below.refl _ _).alloc (Nat.le_refl _) _).alloc (by simp) _).alloc (by simp; omega) _
  have H0 := hd.later B0
  go_enter Tryz.func48, Tryz.ntmps48
  go_wp2_with fail
  refine (as_hit (w.heap.size + 1 + 1) x y (.int .i64 0) (.int .i64 0) _ H0 (by go_simp) (by go_simp) (by go_simp) (by go_simp)).mono ?_
  rintro e w1 ⟨rfl, c1, b1⟩
  have hc : ∀ o, w1.cell? ⟨w.heap.size + 1, o, none⟩ = _ := fun o => b1.cell (p := ⟨w.heap.size + 1, o, none⟩) (by simp)
  have hf : ∀ o, w1.frozen? ⟨w.heap.size + 1, o, none⟩ = _ := fun o => b1.frozen (p := ⟨w.heap.size + 1, o, none⟩) (by simp)
  have r0 : w1.cell? ⟨w.heap.size + 1, 0, none⟩ = some (.bool false) := by rw [hc]; go_simp
  have r1 : w1.cell? ⟨w.heap.size + 1, 1, none⟩ = some (.slice none 0 0) := by rw [hc]; go_simp
  have r2 : w1.cell? ⟨w.heap.size + 1, 2, none⟩ = some (.int .i64 0) := by rw [hc]; go_simp
  have g0 : w1.frozen? ⟨w.heap.size + 1, 0, none⟩ = false := by rw [hf]; go_simp
  have g1 : w1.frozen? ⟨w.heap.size + 1, 1, none⟩ = false := by rw [hf]; go_simp
  have g2 : w1.frozen? ⟨w.heap.size + 1, 2, none⟩ = false := by rw [hf]; go_simp
  have bw : Below w.heap.size w w1 := B0.trans (b1.mono (by omega))
  clear hc hf b1 B0 H0
  have hne : ¬ (w.heap.size + 1 + 1 = w.heap.size + 1) := by omega
  have hne' : ¬ (w.heap.size + 1 = w.heap.size + 1 + 1) := by omega
  go_wp2
  go_region
  all_goals
    go_wp2
    refine bodyPost_ret (v := .tuple #[.agg #[.bool false, .slice none 0 0, .int .i64 0], .int .i64 y]) (by simp [results, Tryz.results48, go_sem, r0, r1, r2]) rfl ⟨rfl, ?_⟩
    exact (((bw.setCell (by simp) _).setCell (by simp) _).setCell (by simp) _).drew

theorem l2Make_fine (w : World) (p : Bool) (v : Value) (l : List Int) (s : Int) (hr : Reads w v l) (hl : Lim l) (hn : l.length ≤ 1000) (h : (txtL l).length ≤ 30) :
    Calls Tryz.prog 91 #[.bool p, v, .int .i64 s] w fun e w' => e = .returned (.tuple #[.agg #[.bool (p && decide (l.length ≠ 0)), v, .int .i64 s], .int .i64 0]) ∧ Below w.heap.size w w' := by
  have C := hide (fun W (k : Below w.heap.size w W) => l1Long_any W v l (hr.later k) hl hn)
  obtain ⟨ao, b, off, cap, rfl, hr0⟩ := hr
  have h1 := hr0.le
  have h2 := hr0.big
  unfold maxLen at h2
  clear hr0
  have h' : ¬ (30 : Int) < ((if l.length = 0 then 0 else (txtL l).length : Nat) : Int) := by split <;> omega
  generalize (if l.length = 0 then 0 else (txtL l).length : Nat) = n at *
  obtain ⟨q, hq⟩ : ∃ q, decide (l.length ≠ 0) = q := ⟨_, rfl⟩
  have hq' : decide ((0 : Int) < l.length) = q := by rw [← hq]; exact decide_eq_decide.2 (by omega)
  rw [hq]
  clear hq
  go_enter Tryz.func91, Tryz.ntmps91
  go_wp2_with fail
  refine (unhide C _ ((Below.refl _ _).alloc (Nat.le_refl _) _)).mono ?_
  rintro e w1 ⟨rfl, b1⟩
  obtain ⟨hc, hf⟩ := bcell b1
  have hz : w.heap.size < w1.heap.size := by have := b1.size; simp at this; omega
  have bw : Below w.heap.size w w1 := ((Below.refl _ _).alloc (Nat.le_refl _) _).trans (b1.mono (by simp))
  clear b1
  have hq2 : decide (0 < l.length) = q := by rw [← hq']; exact decide_eq_decide.2 (by omega)
  cases p
  · go_wp2
    refine bodyPost_ret (v := .tuple #[.agg #[.bool false, .slice ao l.length cap, .int .i64 s], .int .i64 0]) (by simp [results, Tryz.results91, go_sem, hc]) rfl ⟨rfl, ?_⟩
    exact ((bw.setCell (by simp) _).setCell (by simp) _).setCell (by simp) _
  · go_wp2
    refine bodyPost_ret (v := .tuple #[.agg #[.bool q, .slice ao l.length cap, .int .i64 s], .int .i64 0]) (by simp [results, Tryz.results91, go_sem, hc]) rfl ⟨rfl, ?_⟩
    exact ((bw.setCell (by simp) _).setCell (by simp) _).setCell (by simp) _

theorem l2Make_long (w : World) (p : Bool) (v : Value) (l : List Int) (s : Int) (hr : Reads w v l) (hl : Lim l) (hn : l.length ≤ 1000) (h : ¬ (txtL l).length ≤ 30) :
    Calls Tryz.prog 91 #[.bool p, v, .int .i64 s] w fun e w' => e = .returned (.tuple #[.agg #[.bool false, .slice none 0 0, .int .i64 0], .int .i64 3]) ∧ Below w.heap.size w w' := by
  have C := hide (fun W (k : Below w.heap.size w W) => l1Long_any W v l (hr.later k) hl hn)
  have h2 := txtL_long hl
  obtain ⟨ao, b, off, cap, rfl, hr0⟩ := hr
  clear hr0
  have h0 : ¬ l.length = 0 := by
    intro e
    have e' : l = [] := List.length_eq_zero_iff.1 e
    subst e'
    exact h (by decide)
  rw [if_neg h0] at C
  have h' : (30 : Int) < (txtL l).length := by omega
  have h3 : ((txtL l).length : Int) ≤ 5000 := by omega
  clear h2 h h0
  generalize (txtL l).length = n at *
  go_enter Tryz.func91, Tryz.ntmps91
  go_wp2_with fail
  refine (unhide C _ ((Below.refl _ _).alloc (Nat.le_refl _) _)).mono ?_
  rintro e w1 ⟨rfl, b1⟩
  obtain ⟨hc, hf⟩ := bcell b1
  have hz : w.heap.size < w1.heap.size := by have := b1.size; simp at this; omega
  have bw : Below w.heap.size w w1 := ((Below.refl _ _).alloc (Nat.le_refl _) _).trans (b1.mono (by simp))
  clear b1
  go_wp2
  refine bodyPost_ret (v := .tuple #[.agg #[.bool false, .slice none 0 0, .int .i64 0], .int .i64 3]) (by simp [results, Tryz.results91, go_sem, hc]) rfl ⟨rfl, ?_⟩
  exact ((bw.setCell (by simp) _).setCell (by simp) _).setCell (by simp) _

end Go.Proofs.YthnkmjkgcnhlfaaGreatDoor
