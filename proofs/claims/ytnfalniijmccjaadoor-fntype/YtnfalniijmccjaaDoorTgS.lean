/- TypeGet of the specification, by a contract. -/
import Derived.Test.YtnfalniijmccjaaDoorTgN
import Derived.Test.YtnfalniijmccjaaDoorCtC
import Derived.Test.YtnfalniijmccjaaDoorNmC
import Derived.Deep.RegionHeld
import Derived.Deep.DeepCutAuto
namespace Go.Proofs.YtnfalniijmccjaaDoor
open Go.RowKit
set_option linter.unusedSimpArgs false
set_option maxRecDepth 100000

/-- The place for a type, made first. -/
structure TyB (w0 w : World) : Prop where
  below : Below w0.heap.size w0 w
  c0 : w.cell? ⟨w0.heap.size, 0, none⟩ = some (.int .i64 0)
  c1 : w.cell? ⟨w0.heap.size, 1, none⟩ = some (.int .i64 0)
  c2 : w.cell? ⟨w0.heap.size, 2, none⟩ = some (.int .i64 0)
  f0 : w.frozen? ⟨w0.heap.size, 0, none⟩ = false
  f1 : w.frozen? ⟨w0.heap.size, 1, none⟩ = false
  f2 : w.frozen? ⟨w0.heap.size, 2, none⟩ = false
  lt : w0.heap.size < w.heap.size

theorem TyB.later {w w' : World} {w0 : World} (h : TyB w0 w) (b : Below w.heap.size w w') : TyB w0 w' :=
  ⟨h.below.trans (b.mono h.below.size), cell_later b h.c0, cell_later b h.c1, cell_later b h.c2, (b.frozen (p := ⟨w0.heap.size, 0, none⟩) h.lt).trans h.f0, (b.frozen (p := ⟨w0.heap.size, 1, none⟩) h.lt).trans h.f1, (b.frozen (p := ⟨w0.heap.size, 2, none⟩) h.lt).trans h.f2, Nat.lt_of_lt_of_le h.lt b.size⟩
theorem TyB.start (w : World) : TyB w (w.alloc (.cells #[.int .i64 0, .int .i64 0, .int .i64 0] 38)) :=
  ⟨(Below.refl _ _).alloc (Nat.le_refl _) _, by go_simp, by go_simp, by go_simp, by go_simp, by go_simp, by go_simp, by simp⟩

/-- A box of three cells that is filled. -/
def fill3 (W : World) (R : Nat) (x y z : Value) : World := ((W.setCell ⟨R, 0, none⟩ x).setCell ⟨R, 1, none⟩ y).setCell ⟨R, 2, none⟩ z

theorem set3_in {W : World} {R : Nat} {a b c : Value} (h0 : W.cell? ⟨R, 0, none⟩ = some a) (h1 : W.cell? ⟨R, 1, none⟩ = some b) (h2 : W.cell? ⟨R, 2, none⟩ = some c) (x y z : Value) :
    (fill3 W R x y z).cell? ⟨R, 0, none⟩ = some x ∧ (fill3 W R x y z).cell? ⟨R, 1, none⟩ = some y ∧ (fill3 W R x y z).cell? ⟨R, 2, none⟩ = some z := ⟨by unfold fill3; go_simp, by unfold fill3; go_simp, by unfold fill3; go_simp⟩

theorem set3_alloc {W : World} {R : Nat} {a b c : Value} (h0 : W.cell? ⟨R, 0, none⟩ = some a) (h1 : W.cell? ⟨R, 1, none⟩ = some b) (h2 : W.cell? ⟨R, 2, none⟩ = some c) (x y z : Value) (o : Obj) :
    (((((W.setCell ⟨R, 0, none⟩ x).setCell ⟨R, 1, none⟩ y).setCell ⟨R, 2, none⟩ z).alloc o).cell? ⟨R, 0, none⟩ = some x) ∧ (((((W.setCell ⟨R, 0, none⟩ x).setCell ⟨R, 1, none⟩ y).setCell ⟨R, 2, none⟩ z).alloc o).cell? ⟨R, 1, none⟩ = some y) ∧
      (((((W.setCell ⟨R, 0, none⟩ x).setCell ⟨R, 1, none⟩ y).setCell ⟨R, 2, none⟩ z).alloc o).cell? ⟨R, 2, none⟩ = some z) :=
  ⟨cell_later ((Below.refl _ _).alloc (Nat.le_refl _) _) (set3_in h0 h1 h2 x y z).1, cell_later ((Below.refl _ _).alloc (Nat.le_refl _) _) (set3_in h0 h1 h2 x y z).2.1, cell_later ((Below.refl _ _).alloc (Nat.le_refl _) _) (set3_in h0 h1 h2 x y z).2.2⟩

/-- What TypeGet answers. -/
def GivesType (w : World) (s : ByteArray) (e : Ending) (w' : World) : Prop :=
  ∃ (k d c : Int) (ok : Bool), e = .returned (.tuple #[.agg #[.int .i64 k, .int .i64 d, .int .i64 c], .bool ok]) ∧ Below w.heap.size w w' ∧ ((ok = true ∧ TypT s k d c) ∨ (ok = false ∧ k = 0 ∧ d = 0 ∧ c = 0 ∧ ∀ a b e, ¬ TypT s a b e))

theorem gives_noneT {w w' : World} {s : ByteArray} (hb : Below w.heap.size w w') (h : ∀ a b e, ¬ TypT s a b e) : GivesType w s (.returned (.tuple #[.agg #[.int .i64 0, .int .i64 0, .int .i64 0], .bool false])) w' := ⟨0, 0, 0, false, rfl, hb, .inr ⟨rfl, rfl, rfl, rfl, h⟩⟩

theorem gives_someT {w w' : World} {s : ByteArray} {k d c : Int} (hb : Below w.heap.size w w') (h : TypT s k d c) : GivesType w s (.returned (.tuple #[.agg #[.int .i64 k, .int .i64 d, .int .i64 c], .bool true])) w' := ⟨k, d, c, true, rfl, hb, .inl ⟨rfl, h⟩⟩

theorem lit_ne {s : ByteArray} {a : Array UInt8} (h : s ≠ ⟨a⟩) : (s.toList == a.toList) = false := by
  rw [beq_eq_false_iff_ne, ByteArray.toList_eq]
  intro k
  exact h (ByteArray.ext (Array.toList_inj.1 k))

theorem lit_eq {s : ByteArray} {a : Array UInt8} (h : s = ⟨a⟩) : (s.toList == a.toList) = true := by
  rw [h, ByteArray.toList_eq, beq_iff_eq]


set_option maxHeartbeats 2000000 in
theorem l4TypeGet_1 (w : World) (s : ByteArray) (hs : s = ⟨#[98, 111, 111, 108]⟩) : Calls Tryd.prog 62 #[.string s] w (GivesType w s) := by
  have HE := hide (show TypT s 1 0 0 from ⟨by decide, hs.symm⟩)
  obtain ⟨kb, kc0, kc1, kc2, kf0, kf1, kf2, kl⟩ := TyB.start w
  have HZ := hide (set3_alloc kc0 kc1 kc2)
  have t1 : (s.toList == [98, 111, 111, 108]) = true := lit_eq hs
  clear hs
  go_enter Tryd.func62, Tryd.ntmps62
  go_wp2
  refine bodyPost_ret (v := .tuple #[.agg #[.int .i64 1, .int .i64 0, .int .i64 0], .bool true]) (by simp [results, Tryd.results62, go_sem, kc0, kc1, kc2, unhide HZ]) rfl ?_
  refine gives_someT ?_ (unhide HE)
  first | exact kb | exact ((kb.setCell (Nat.le_refl _) _).setCell (Nat.le_refl _) _).setCell (Nat.le_refl _) _ | repeat (first | exact kb | exact Below.refl _ _ | refine Below.setCell ?_ (by exact Nat.le_refl _) _ | refine below_drewN ?_ _ | refine Below.drew ?_ | refine Below.alloc ?_ (by first | exact Nat.le_refl _ | (simp only [World.size_alloc, World.size_setCell]; omega) | (simp; omega)) _)

set_option maxHeartbeats 2000000 in
theorem l4TypeGet_3 (w : World) (s : ByteArray) (hs : s = ⟨#[100, 97, 121]⟩) : Calls Tryd.prog 62 #[.string s] w (GivesType w s) := by
  have HE := hide (show TypT s 3 0 0 from ⟨by decide, hs.symm⟩)
  obtain ⟨kb, kc0, kc1, kc2, kf0, kf1, kf2, kl⟩ := TyB.start w
  have HZ := hide (set3_alloc kc0 kc1 kc2)
  have t1 : (s.toList == [98, 111, 111, 108]) = false := lit_ne (by rw [hs]; decide)
  have t3 : (s.toList == [100, 97, 121]) = true := lit_eq hs
  clear hs
  go_enter Tryd.func62, Tryd.ntmps62
  go_wp2
  refine bodyPost_ret (v := .tuple #[.agg #[.int .i64 3, .int .i64 0, .int .i64 0], .bool true]) (by simp [results, Tryd.results62, go_sem, kc0, kc1, kc2, unhide HZ]) rfl ?_
  refine gives_someT ?_ (unhide HE)
  first | exact kb | exact ((kb.setCell (Nat.le_refl _) _).setCell (Nat.le_refl _) _).setCell (Nat.le_refl _) _ | repeat (first | exact kb | exact Below.refl _ _ | refine Below.setCell ?_ (by exact Nat.le_refl _) _ | refine below_drewN ?_ _ | refine Below.drew ?_ | refine Below.alloc ?_ (by first | exact Nat.le_refl _ | (simp only [World.size_alloc, World.size_setCell]; omega) | (simp; omega)) _)

set_option maxHeartbeats 2000000 in
theorem l4TypeGet_4 (w : World) (s : ByteArray) (hs : s = ⟨#[115, 112, 97, 110]⟩) : Calls Tryd.prog 62 #[.string s] w (GivesType w s) := by
  have HE := hide (show TypT s 4 0 0 from ⟨by decide, hs.symm⟩)
  obtain ⟨kb, kc0, kc1, kc2, kf0, kf1, kf2, kl⟩ := TyB.start w
  have HZ := hide (set3_alloc kc0 kc1 kc2)
  have t1 : (s.toList == [98, 111, 111, 108]) = false := lit_ne (by rw [hs]; decide)
  have t3 : (s.toList == [100, 97, 121]) = false := lit_ne (by rw [hs]; decide)
  have t4 : (s.toList == [115, 112, 97, 110]) = true := lit_eq hs
  clear hs
  go_enter Tryd.func62, Tryd.ntmps62
  go_wp2
  refine bodyPost_ret (v := .tuple #[.agg #[.int .i64 4, .int .i64 0, .int .i64 0], .bool true]) (by simp [results, Tryd.results62, go_sem, kc0, kc1, kc2, unhide HZ]) rfl ?_
  refine gives_someT ?_ (unhide HE)
  first | exact kb | exact ((kb.setCell (Nat.le_refl _) _).setCell (Nat.le_refl _) _).setCell (Nat.le_refl _) _ | repeat (first | exact kb | exact Below.refl _ _ | refine Below.setCell ?_ (by exact Nat.le_refl _) _ | refine below_drewN ?_ _ | refine Below.drew ?_ | refine Below.alloc ?_ (by first | exact Nat.le_refl _ | (simp only [World.size_alloc, World.size_setCell]; omega) | (simp; omega)) _)

set_option maxHeartbeats 2000000 in
theorem l4TypeGet_5 (w : World) (s : ByteArray) (hs : s = ⟨#[116, 101, 120, 116]⟩) : Calls Tryd.prog 62 #[.string s] w (GivesType w s) := by
  have HE := hide (show TypT s 5 0 0 from ⟨by decide, hs.symm⟩)
  obtain ⟨kb, kc0, kc1, kc2, kf0, kf1, kf2, kl⟩ := TyB.start w
  have HZ := hide (set3_alloc kc0 kc1 kc2)
  have t1 : (s.toList == [98, 111, 111, 108]) = false := lit_ne (by rw [hs]; decide)
  have t3 : (s.toList == [100, 97, 121]) = false := lit_ne (by rw [hs]; decide)
  have t4 : (s.toList == [115, 112, 97, 110]) = false := lit_ne (by rw [hs]; decide)
  have t5 : (s.toList == [116, 101, 120, 116]) = true := lit_eq hs
  clear hs
  go_enter Tryd.func62, Tryd.ntmps62
  go_wp2
  refine bodyPost_ret (v := .tuple #[.agg #[.int .i64 5, .int .i64 0, .int .i64 0], .bool true]) (by simp [results, Tryd.results62, go_sem, kc0, kc1, kc2, unhide HZ]) rfl ?_
  refine gives_someT ?_ (unhide HE)
  first | exact kb | exact ((kb.setCell (Nat.le_refl _) _).setCell (Nat.le_refl _) _).setCell (Nat.le_refl _) _ | repeat (first | exact kb | exact Below.refl _ _ | refine Below.setCell ?_ (by exact Nat.le_refl _) _ | refine below_drewN ?_ _ | refine Below.drew ?_ | refine Below.alloc ?_ (by first | exact Nat.le_refl _ | (simp only [World.size_alloc, World.size_setCell]; omega) | (simp; omega)) _)

set_option maxHeartbeats 4000000 in
theorem l4TypeGet_any (w : World) (s : ByteArray) (hs : s.size ≤ maxLen) : Calls Tryd.prog 62 #[.string s] w (GivesType w s) := by
  by_cases h1 : s = ⟨#[98, 111, 111, 108]⟩
  · exact l4TypeGet_1 w s h1
  by_cases h3 : s = ⟨#[100, 97, 121]⟩
  · exact l4TypeGet_3 w s h3
  by_cases h4 : s = ⟨#[115, 112, 97, 110]⟩
  · exact l4TypeGet_4 w s h4
  by_cases h5 : s = ⟨#[116, 101, 120, 116]⟩
  · exact l4TypeGet_5 w s h5
  have t1 : (s.toList == [98, 111, 111, 108]) = false := lit_ne h1
  have t3 : (s.toList == [100, 97, 121]) = false := lit_ne h3
  have t4 : (s.toList == [115, 112, 97, 110]) = false := lit_ne h4
  have t5 : (s.toList == [116, 101, 120, 116]) = false := lit_ne h5
  have HM := hide (fun (k d c : Int) (h : TypT s k d c) => typT_num h1 h3 h4 h5 h)
  clear h1 h3 h4 h5
  unfold maxLen at hs
  have K0 := TyB.start w
  have CB := hide (fun W => l1Starts_any W s ⟨#[110, 117, 109, 40]⟩)
  by_cases hb : startB s ⟨#[110, 117, 109, 40]⟩ = true
  case neg =>
    have hb' : startB s ⟨#[110, 117, 109, 40]⟩ = false := by simpa using hb
    rw [hb'] at CB
    have HN := hide (show ∀ a b e, ¬ TypT s a b e from fun a b e h => by
      obtain ⟨-, -, hx⟩ := unhide HM a b e h
      have hl := numT_list b e
      rw [hx] at hl
      exact hb (start_num.2 ⟨Lib.itoa b ++ 44 :: (Lib.itoa e ++ [41]), by rw [hl]; simp⟩))
    clear HM hb hb'
    obtain ⟨kb, kc0, kc1, kc2, kf0, kf1, kf2, kl⟩ := id K0
    have HZ := hide (set3_alloc kc0 kc1 kc2)
    go_enter Tryd.func62, Tryd.ntmps62
    go_wp2_with fail
    refine (unhide CB _).mono ?_
    rintro e w1 ⟨rfl, hw⟩
    subst hw
    go_wp2
    refine bodyPost_ret (v := .tuple #[.agg #[.int .i64 0, .int .i64 0, .int .i64 0], .bool false]) (by simp [results, Tryd.results62, go_sem, kc0, kc1, kc2, unhide HZ]) rfl ?_
    refine gives_noneT ?_ (unhide HN)
    first | exact kb | exact ((kb.setCell (Nat.le_refl _) _).setCell (Nat.le_refl _) _).setCell (Nat.le_refl _) _ | repeat (first | exact kb | exact Below.refl _ _ | refine Below.setCell ?_ (by exact Nat.le_refl _) _ | refine below_drewN ?_ _ | refine Below.drew ?_ | refine Below.alloc ?_ (by first | exact Nat.le_refl _ | (simp only [World.size_alloc, World.size_setCell]; omega) | (simp; omega)) _)
  rw [hb] at CB
  have hsz : 4 ≤ s.size := by
    obtain ⟨R, hR⟩ := start_num.1 hb
    have hl := list_size s
    rw [hR] at hl
    simp at hl
    omega
  obtain ⟨n, hn⟩ : ∃ n, s.size = n + 1 := ⟨s.size - 1, by omega⟩
  have hn' : n < s.size := by omega
  have hw : IntKind.i64.wrap ((s.size : Int) - 1) = (n : Int) := by rw [IntKind.wrap_i64]; omega
  have hw2 : (s.size : Int) - 1 = (n : Int) := by omega
  have hle : (n : Int) ≤ (s.size : Int) := by omega
  have hge : (0 : Int) ≤ (n : Int) := by omega
  obtain ⟨c, hc⟩ : ∃ c, s[n].toNat = c := ⟨_, rfl⟩
  have HC := hide hc
  by_cases h41 : c = 41
  case neg =>
    have k1 : ((c : Int) != 41) = true := by simp; omega
    have HN := hide (show ∀ a b e, ¬ TypT s a b e from fun a b e h => by
      obtain ⟨-, -, hx⟩ := unhide HM a b e h
      exact h41 (by rw [← unhide HC]; exact (spec_num hn hx).2.1 hn'))
    clear HM hb h41 hn hsz
    obtain ⟨kb, kc0, kc1, kc2, kf0, kf1, kf2, kl⟩ := id K0
    have HZ := hide (set3_alloc kc0 kc1 kc2)
    go_enter Tryd.func62, Tryd.ntmps62
    go_wp2_with fail
    refine (unhide CB _).mono ?_
    rintro e w1 ⟨rfl, hw⟩
    subst hw
    go_wp2
    refine bodyPost_ret (v := .tuple #[.agg #[.int .i64 0, .int .i64 0, .int .i64 0], .bool false]) (by simp [results, Tryd.results62, go_sem, kc0, kc1, kc2, unhide HZ]) rfl ?_
    refine gives_noneT ?_ (unhide HN)
    first | exact kb | exact ((kb.setCell (Nat.le_refl _) _).setCell (Nat.le_refl _) _).setCell (Nat.le_refl _) _ | repeat (first | exact kb | exact Below.refl _ _ | refine Below.setCell ?_ (by exact Nat.le_refl _) _ | refine below_drewN ?_ _ | refine Below.drew ?_ | refine Below.alloc ?_ (by first | exact Nat.le_refl _ | (simp only [World.size_alloc, World.size_setCell]; omega) | (simp; omega)) _)
  have k1 : ((c : Int) != 41) = false := by simp [h41]
  have he : s[n].toNat = 41 := by rw [hc, h41]
  have hn4 := numT_four hn hn' hb he
  have hn4' : (4 : Int) ≤ (n : Int) := by omega
  obtain ⟨k, hk⟩ := cat_is 44 (s.extract 4 n)
  have ht : (s.extract 4 n).size ≤ maxLen := by rw [ByteArray.size_extract]; unfold maxLen; omega
  have HS := hide (fun (a b e : Int) (h : TypT s a b e) => (⟨(unhide HM a b e h).1, (unhide HM a b e h).2.1, (spec_num hn (unhide HM a b e h).2.2).2.2.2⟩ : a = 2 ∧ TypeIs 2 b e ∧ (s.extract 4 n).data.toList = Lib.itoa b ++ 44 :: Lib.itoa e))
  have HQ := hide (fun (a b e : Int) (h : TypT s a b e) => cat_same (unhide HS a b e h).2.2 (itoa_low (by decide)) hk)
  by_cases hks : k < (s.extract 4 n).size
  case neg =>
    have HN := hide (show ∀ a b e, ¬ TypT s a b e from fun a b e h => hks (unhide HQ a b e h).1)
    have C : Hid (∀ W, Calls Tryd.prog 86 #[.string (s.extract 4 n), .int .u8 44, .int .i64 1] W (GivesT W [s.extract 4 n])) := hide (fun W => l1Cut_no W (s.extract 4 n) 44 k hk (by have := hk.1; omega) ht)
    clear HM HS HQ hb h41 hn hsz hk hks he
    go_enter Tryd.func62, Tryd.ntmps62
    go_wp2_with fail
    refine (unhide CB _).mono ?_
    rintro e w1 ⟨rfl, hw⟩
    subst hw
    go_wp2_with fail
    refine (unhide C _).mono ?_
    rintro e w1 ⟨g, cap, rfl, o1, b1⟩
    obtain ⟨kb, kc0, kc1, kc2, kf0, kf1, kf2, kl⟩ := K0.later b1
    have HZ := hide (set3_alloc kc0 kc1 kc2)
    clear o1 b1
    go_wp2
    refine bodyPost_ret (v := .tuple #[.agg #[.int .i64 0, .int .i64 0, .int .i64 0], .bool false]) (by simp [results, Tryd.results62, go_sem, kc0, kc1, kc2, unhide HZ]) rfl ?_
    refine gives_noneT ?_ (unhide HN)
    first | exact kb | exact ((kb.setCell (Nat.le_refl _) _).setCell (Nat.le_refl _) _).setCell (Nat.le_refl _) _ | repeat (first | exact kb | exact Below.refl _ _ | refine Below.setCell ?_ (by exact Nat.le_refl _) _ | refine below_drewN ?_ _ | refine Below.drew ?_ | refine Below.alloc ?_ (by first | exact Nat.le_refl _ | (simp only [World.size_alloc, World.size_setCell]; omega) | (simp; omega)) _)
  have C : Hid (∀ W, Calls Tryd.prog 86 #[.string (s.extract 4 n), .int .u8 44, .int .i64 1] W (GivesT W [(s.extract 4 n).extract 0 k, (s.extract 4 n).extract (k + 1) (s.extract 4 n).size])) := hide (fun W => l1Cut_yes W (s.extract 4 n) 44 k hk hks ht)
  have za : ((s.extract 4 n).extract 0 k).size ≤ maxLen := by rw [ByteArray.size_extract]; omega
  have zb : ((s.extract 4 n).extract (k + 1) (s.extract 4 n).size).size ≤ maxLen := by rw [ByteArray.size_extract]; omega
  have HB := hide (fun (d e : Nat) (x : NumT ((s.extract 4 n).extract 0 k) d) (y : NumT ((s.extract 4 n).extract (k + 1) (s.extract 4 n).size) e) => spec_num_back hn hn' hb he hn4 hk hks x y)
  have HA := hide (fun (a b e : Int) (h : TypT s a b e) => (⟨(unhide HS a b e h).1, (unhide HS a b e h).2.1, (unhide HQ a b e h).2.1, (unhide HQ a b e h).2.2⟩ : a = 2 ∧ TypeIs 2 b e ∧ ((s.extract 4 n).extract 0 k).data.toList = Lib.itoa b ∧ ((s.extract 4 n).extract (k + 1) (s.extract 4 n).size).data.toList = Lib.itoa e))
  clear HM HS HQ hb h41 hn hsz hk hks he
  generalize (s.extract 4 n).extract 0 k = A at *
  generalize (s.extract 4 n).extract (k + 1) (s.extract 4 n).size = B at *
  obtain ⟨x, hx⟩ := numOr_is A
  obtain ⟨y, hy⟩ := numOr_is B
  have CX := hide (fun W => l1NumOr_any W A x za hx)
  have CY := hide (fun W => l1NumOr_any W B y zb hy)
  have CO := hide (fun W => specL4TypeOk_any W 2 x y)
  have HH := hide (type_num_iff (unhide HA) (unhide HB) hx hy)
  clear HA HB hx hy
  go_enter Tryd.func62, Tryd.ntmps62
  go_wp2_with fail
  refine (unhide CB _).mono ?_
  rintro e w1 ⟨rfl, hw⟩
  subst hw
  go_wp2_with fail
  refine (unhide C _).mono ?_
  rintro e w1 ⟨g, cap, rfl, o1, b1⟩
  have K1 := K0.later b1
  have q0 := o1.cellAt (i := 0) (by simp)
  have q1 := o1.cellAt (i := 1) (by simp)
  simp only [List.getElem_cons_zero, List.getElem_cons_succ] at q0 q1
  clear o1 b1 C K0
  go_wp2_with fail
  obtain ⟨kb, kc0, kc1, kc2, kf0, kf1, kf2, kl⟩ := id K1
  have HZ := hide (set3_alloc kc0 kc1 kc2)
  have Stab := hide (fun (w' : World) (h : Below w1.heap.size w1 w') => (⟨⟨cell_later h q0, cell_later h q1⟩, h⟩ : (w'.cell? ⟨g, 0, none⟩ = some (.string A) ∧ w'.cell? ⟨g, 1, none⟩ = some (.string B)) ∧ Below w1.heap.size w1 w'))
  go_cut [5] (fun sp wk => ∃ nB : Nat, sp = .pointer (some ⟨nB, 0, none⟩) ∧ TyB w wk ∧ wk.cell? ⟨nB, 0, none⟩ = some (.int .i64 2) ∧ wk.cell? ⟨nB, 1, none⟩ = some (.int .i64 x) ∧ wk.cell? ⟨nB, 2, none⟩ = some (.int .i64 y) ∧ w.heap.size < nB ∧ nB < wk.heap.size)
  case first =>
    go_region_held (fun w' => (w'.cell? ⟨g, 0, none⟩ = some (.string A) ∧ w'.cell? ⟨g, 1, none⟩ = some (.string B)) ∧ Below w1.heap.size w1 w')
      (first | exact unhide Stab _ (Below.refl _ _).drew | exact unhide Stab _ ((Below.refl _ _).alloc (Nat.le_refl _) _).drew | (with_reducible assumption) | (refine unhide Stab _ ?_; assumption))
      (first | (go_at_call_of 89 (Value.string A); refine (unhide CX _).mono ?_; rintro e w2 ⟨rfl, rfl⟩) | (go_at_call_of 89 (Value.string B); refine (unhide CY _).mono ?_; rintro e w3 ⟨rfl, rfl⟩))
    all_goals
      go_wp2
      go_meet
      case rel => exact ⟨w1.heap.size, rfl, K1.later ((Below.refl _ _).alloc (Nat.le_refl _) _).drew, by go_simp, by go_simp, by go_simp, kl, by simp⟩
  case rest =>
  obtain ⟨nB, rfl, K5, m0, m1, m2, hb1, hb2⟩ := hcut
  clear kb kc0 kc1 kc2 kf0 kf1 kf2 kl HZ K1 q0 q1 Stab CX CY
  obtain ⟨kb, kc0, kc1, kc2, kf0, kf1, kf2, kl⟩ := id K5
  have HZ := hide (set3_alloc kc0 kc1 kc2)
  by_cases hi : TypeIs 2 x y
  · rw [decide_eq_true hi] at CO
    have HE := hide ((unhide HH).1 hi)
    clear hi HH
    go_wp2_with fail
    refine (unhide CO _).mono ?_
    rintro e w4 ⟨rfl, hw4⟩
    subst hw4
    clear CO
    go_wp2
    refine bodyPost_ret (v := .tuple #[.agg #[.int .i64 2, .int .i64 x, .int .i64 y], .bool true]) (by simp [results, Tryd.results62, go_sem, kc0, kc1, kc2, unhide HZ]) rfl ?_
    refine gives_someT ?_ (unhide HE)
    first | exact kb | exact ((kb.setCell (Nat.le_refl _) _).setCell (Nat.le_refl _) _).setCell (Nat.le_refl _) _ | repeat (first | exact kb | exact Below.refl _ _ | refine Below.setCell ?_ (by exact Nat.le_refl _) _ | refine below_drewN ?_ _ | refine Below.drew ?_ | refine Below.alloc ?_ (by first | exact Nat.le_refl _ | (simp only [World.size_alloc, World.size_setCell]; omega) | (simp; omega)) _)
  · rw [decide_eq_false hi] at CO
    have HN := hide ((unhide HH).2 hi)
    clear hi HH
    go_wp2_with fail
    refine (unhide CO _).mono ?_
    rintro e w4 ⟨rfl, hw4⟩
    subst hw4
    clear CO
    go_wp2
    refine bodyPost_ret (v := .tuple #[.agg #[.int .i64 0, .int .i64 0, .int .i64 0], .bool false]) (by simp [results, Tryd.results62, go_sem, kc0, kc1, kc2, unhide HZ]) rfl ?_
    refine gives_noneT ?_ (unhide HN)
    first | exact kb | exact ((kb.setCell (Nat.le_refl _) _).setCell (Nat.le_refl _) _).setCell (Nat.le_refl _) _ | repeat (first | exact kb | exact Below.refl _ _ | refine Below.setCell ?_ (by exact Nat.le_refl _) _ | refine below_drewN ?_ _ | refine Below.drew ?_ | refine Below.alloc ?_ (by first | exact Nat.le_refl _ | (simp only [World.size_alloc, World.size_setCell]; omega) | (simp; omega)) _)

end Go.Proofs.YtnfalniijmccjaaDoor
