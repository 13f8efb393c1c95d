/- Texts of figures: l1FromFigures by a contract. A text many times: l1Many by a contract. Drawn numbers: l14Figs, l14Big by contracts. Drawn decimals: l14Dec by a contract. -/
import Derived.Test.YtdklikicngmkbaaGreatDoorG19
import Derived.Test.YtdklikicngmkbaaGreatDoorH01
import Derived.Test.YtdklikicngmkbaaGreatDoorG01
import Derived.Test.YtdklikicngmkbaaGreatDoorG00
import Derived.WalkLawsBesides
import Derived.Deep.QuietTactic
import Derived.BigQuiet
import Derived.WalkSmall
import Derived.Test.YtdklikicngmkbaaGreatDoorH00
import Derived.Test.YtdklikicngmkbaaGreatDoorG20
import Derived.Laws.IdiomStrings
namespace Go.Proofs.YtdklikicngmkbaaGreatDoor
open Go.RowKit

end Go.Proofs.YtdklikicngmkbaaGreatDoor

namespace Go.Proofs.YtdklikicngmkbaaGreatDoor
open Go.RowKit



theorem l1Many_any (w : World) (s : ByteArray) (n : Nat) (hn : n ≤ 1000) (hs : s.size = 1) :
    Calls Tryz.prog 151 #[.string s, .int .i64 n] w fun e w' => ∃ t : ByteArray, e = .returned (.string t) ∧ t.data.toList = (List.replicate n s.data.toList).flatten ∧ w' = w := by
  go_enter Tryz.func151, Tryz.ntmps151
  go_wp2
  go_loopw [1, 5] (fun nn ss wr => ∃ (k : Nat) (t : ByteArray), k ≤ n ∧ nn = .int .i64 ((n - k : Nat) : Int) ∧ ss = .string t ∧ t.data.toList = (List.replicate k s.data.toList).flatten ∧ t.size = k ∧ wr = w) (fun nn _ _ => (intOf nn).toNat)
  case atStart => exact ⟨0, _, by omega, rfl, rfl, rfl, rfl, rfl⟩
  case round =>
    obtain ⟨k, t, hk, rfl, rfl, ht, hts, rfl⟩ := hrel
    have HT := hide ht
    have HS := hide hts
    have HSZ := hide hs
    have hs1 : t.size ≤ 1000 := by omega
    have hs2 : s.size ≤ 1 := by omega
    clear ht hts hs
    by_cases h : k < n
    · go_wp2
      go_roundw
      case rel =>
        refine ⟨k + 1, _, by omega, by congr 1; omega, rfl, ?_, ?_, trivial⟩
        · rw [ByteArray.data_append, Array.toList_append, unhide HT, List.replicate_succ', List.flatten_append]
          simp
        · rw [ByteArray.size_append, unhide HS, unhide HSZ]
      case measure => simp only [intOf]; omega
    · have e : k = n := by omega
      have HE := hide e
      clear e
      go_wp2
      go_ret
      exact ⟨t, rfl, by rw [unhide HT, unhide HE], rfl⟩

end Go.Proofs.YtdklikicngmkbaaGreatDoor

namespace Go.Proofs.YtdklikicngmkbaaGreatDoor
open Go.RowKit
set_option maxRecDepth 100000


theorem conv_byte (w : World) (v : Nat) (hv : v < 256) (z : Int) (hz : z = v) : Sem.run Tryz.prog (convert 22 9 (.slice (some ⟨w.heap.size, 0, none⟩) 1 1)) (w.alloc (.cells #[.int .u8 z] 5)) = .ok (.string ⟨#[UInt8.ofNat v]⟩) (w.alloc (.cells #[.int .u8 z] 5)) := by
  subst hz
  refine run_convert_bytes_back _ 22 9 5 ⟨w.heap.size, 0, none⟩ 1 [UInt8.ofNat v] Tryz.underlying22 Tryz.underlying5 Tryz.underlying9 (fun j hj => ?_)
  have : j = 0 := by simpa using hj
  subst this
  simp [go_sem, Addr.add]
  omega

theorem conv_fig (w : World) (d : Nat) (hd : d < 10) (z : Int) (hz : z = 48 + d) : ∃ t : ByteArray, Fig t [d] ∧ t.size = 1 ∧
    Sem.run Tryz.prog (convert 22 9 (.slice (some ⟨w.heap.size, 0, none⟩) 1 1)) (w.alloc (.cells #[.int .u8 z] 5)) = .ok (.string t) (w.alloc (.cells #[.int .u8 z] 5)) :=
  ⟨⟨#[UInt8.ofNat (48 + d)]⟩, ⟨rfl, by simpa using hd⟩, rfl, conv_byte w (48 + d) (by omega) z (by simpa using hz)⟩

theorem Fig.app {s t : ByteArray} {l m : List Nat} (h : Fig s l) (k : Fig t m) : Fig (s ++ t) (l ++ m) := by
  refine ⟨?_, fun d hd => (List.mem_append.1 hd).elim (h.2 d) (k.2 d)⟩
  rw [ByteArray.data_append, Array.toList_append, h.1, k.1, List.map_append]

theorem l14Figs_any (w : World) (R p n : Nat) (hr : RD w R p) (hp : p ≤ 100000) (hn : n ≤ 1000) :
    Calls Tryz.prog 150 #[.pointer (some ⟨R, 0, none⟩), .int .i64 n] w fun e w' => ∃ (t : ByteArray) (ds : List Nat) (q : Nat), e = .returned (.string t) ∧ Fig t ds ∧ ds.length ≤ n + 1 ∧ RD w' R q ∧ q ≤ p + 2 * n + 1 ∧ w.grownBy w' (some R) := by
  by_cases h1 : 1 ≤ n
  · have C := hide (pick_any w R p 9 hr (by omega) (by omega) (by omega))
    go_enter Tryz.func150, Tryz.ntmps150
    go_wp2_with fail
    refine (unhide C).mono ?_
    rintro e w1 ⟨x, rfl, hx, r1, g1⟩
    go_wp2
    obtain ⟨t0, ht0, hs0, ec⟩ := conv_fig w1 (x + 1) (by omega) (49 + (x : Int)) (by omega)
    rw [ec]
    clear C ec
    go_wp2
    go_loopw [5] (fun ss wr => ∃ (t : ByteArray) (ds : List Nat) (q : Nat), ss = .string t ∧ Fig t ds ∧ t.size = ds.length ∧ 1 ≤ ds.length ∧ ds.length ≤ n ∧ RD wr R q ∧ q + 1 ≤ p + 2 * ds.length ∧ w.grownBy wr (some R)) (fun ss _ => match ss with | .string s => 2000 - s.size | _ => 0)
    case atStart => exact ⟨t0, [x + 1], p + 1, rfl, ht0, hs0, by simp, by simp; omega, r1.alloc _, by simp, grown_trans g1 (grown_alloc _ _ _)⟩
    case round =>
      obtain ⟨t, ds, q, rfl, hF, hts, hd1, hd2, hr2, hq, hg⟩ := hrel
      have HF := hide hF
      have HT := hide hts
      have ht1 : t.size ≤ ds.length := by omega
      have ht2 : ds.length ≤ t.size := by omega
      have hR := hr2.lt
      clear hF hts r1 g1 hr
      by_cases h : ds.length < n
      · have C := hide (pick_any wr R q 10 hr2 (by omega) (by omega) (by omega))
        go_wp2_with fail
        refine (unhide C).mono ?_
        rintro e w2 ⟨y, rfl, hy, r2, g2⟩
        clear C
        have hR2 := r2.lt
        have hl := reads_lit w2 [0, 0, 9, 9, 5, 1, (y : Int)] _ rfl (by simp)
        have C2 := hide (one_any _ R (q + 1) _ _ (r2.alloc _) (by omega) hl (by simp) (by simp) (fun b hb => by
          obtain ⟨o, n', c, e⟩ := hb
          simp at e
          omega))
        clear hl
        go_wp2_with fail
        refine (unhide C2).mono ?_
        rintro e w3 ⟨z, rfl, hz, r3, g3⟩
        clear C2
        obtain ⟨d, hd, hd9⟩ : ∃ d : Nat, z = d ∧ d < 10 := by
          refine ⟨z.toNat, ?_⟩
          simp only [List.mem_cons, List.not_mem_nil, or_false] at hz
          omega
        subst hd
        clear hz
        go_wp2
        obtain ⟨t1, hf1, hs1, ec⟩ := conv_fig w3 d hd9 (48 + (d : Int)) rfl
        rw [ec]
        clear ec
        have hs1' : t1.size ≤ 1 := by omega
        have HS1 := hide hs1
        clear hs1
        go_wp2
        go_roundw
        case rel =>
          exact ⟨t ++ t1, ds ++ [d], q + 2, rfl, (unhide HF).app hf1, by rw [ByteArray.size_append, unhide HT, unhide HS1, List.length_append]; rfl, by simp, by simp; omega, r3.alloc _, by simp; omega,
            grown_trans (grown_trans (grown_trans (grown_trans hg g2) (grown_alloc _ _ _)) g3) (grown_alloc _ _ _)⟩
        case measure =>
          show 2000 - (t ++ t1).size < 2000 - t.size
          rw [ByteArray.size_append, unhide HS1]
          omega
      · go_wp2
        go_ret
        exact ⟨t, ds, q, rfl, unhide HF, by omega, hr2, by omega, hg⟩
  · go_enter Tryz.func150, Tryz.ntmps150
    go_wp2
    go_ret
    exact ⟨_, [0], p, rfl, ⟨rfl, by simp⟩, by simp, hr, by omega, World.grownBy.refl _ _⟩

theorem l1Many_int (w : World) (s : ByteArray) (n : Int) (d : Nat) (hn : n ≤ 1000) (hd : d < 10) (hs : s = ⟨#[UInt8.ofNat (48 + d)]⟩) :
    Calls Tryz.prog 151 #[.string s, .int .i64 n] w fun e w' => ∃ t : ByteArray, e = .returned (.string t) ∧ Fig t (List.replicate n.toNat d) ∧ w' = w := by
  by_cases h0 : 0 ≤ n
  · obtain ⟨k, rfl⟩ := Int.eq_ofNat_of_zero_le h0
    refine (l1Many_any w s k (by omega) (by rw [hs]; rfl)).mono ?_
    rintro e w' ⟨t, rfl, ht, rfl⟩
    refine ⟨t, rfl, ⟨?_, ?_⟩, rfl⟩
    · rw [ht, hs]
      simp
    · intro x hx
      rw [List.mem_replicate] at hx
      omega
  · have e0 : n.toNat = 0 := by omega
    rw [e0]
    go_enter Tryz.func151, Tryz.ntmps151
    go_wp2
    go_loopw [1, 5] (fun nn ss wr => nn = .int .i64 n ∧ ss = .string ⟨#[]⟩ ∧ wr = w) (fun _ _ _ => 0)
    case atStart => exact ⟨rfl, rfl, rfl⟩
    case round =>
      obtain ⟨rfl, rfl, rfl⟩ := hrel
      go_wp2
      go_ret
      exact ⟨_, rfl, ⟨rfl, by simp⟩, rfl⟩

/-- The cell of a result that is a Big, while a reader goes on. -/
structure EBR (w0 w : World) (R : Nat) : Prop where
  grown : w0.grownBy w (some R)
  c0 : w.cell? ⟨w0.heap.size, 0, none⟩ = some (.bool false)
  c1 : w.cell? ⟨w0.heap.size, 1, none⟩ = some (.slice none 0 0)
  f0 : w.frozen? ⟨w0.heap.size, 0, none⟩ = false
  f1 : w.frozen? ⟨w0.heap.size, 1, none⟩ = false
  lt : w0.heap.size < w.heap.size
  hR : R < w0.heap.size

theorem EBR.start {w : World} {R : Nat} (h : R < w.heap.size) : EBR w (w.alloc (.cells #[.bool false, .slice none 0 0] 25)) R :=
  ⟨grown_alloc _ _ _, by go_simp, by go_simp, by go_simp, by go_simp, by simp, h⟩

theorem EBR.later {w0 w w' : World} {R : Nat} (h : EBR w0 w R) (g : w.grownBy w' (some R)) : EBR w0 w' R := by
  have hb := g.block w0.heap.size h.lt (by intro e; have := h.hR; simp at e; omega)
  exact ⟨grown_trans h.grown g, (World.cell?_of_block (w := w) (a := ⟨w0.heap.size, 0, none⟩) hb).trans h.c0, (World.cell?_of_block (w := w) (a := ⟨w0.heap.size, 1, none⟩) hb).trans h.c1,
    (World.frozen?_of_block (w := w) (a := ⟨w0.heap.size, 0, none⟩) hb).trans h.f0, (World.frozen?_of_block (w := w) (a := ⟨w0.heap.size, 1, none⟩) hb).trans h.f1, Nat.lt_of_lt_of_le h.lt g.size, h.hR⟩

/-- What a drawing call answers that hands out a number that is ok. -/
def Draws (w : World) (R p k : Nat) (e : Ending) (w' : World) : Prop :=
  ∃ (z : Int) (ao : Option Addr) (cap q : Nat), e = .returned (.agg #[.bool (sg z), .slice ao (L z.natAbs).length cap]) ∧ (L z.natAbs).length ≤ 16 ∧ Own w.heap.size w' (.slice ao (L z.natAbs).length cap) (L z.natAbs) ∧ RD w' R q ∧ q ≤ p + k ∧ w.grownBy w' (some R)

theorem out_ok (z : Int) : ∃ Z : Int, (outR true z).1 = sg Z ∧ (outR true z).2.1 = L Z.natAbs ∧ (L Z.natAbs).length ≤ 16 := by
  unfold outR
  by_cases h : (L z.natAbs).length ≤ 16
  · exact ⟨z, by simp [h], by simp [h], h⟩
  · exact ⟨0, by simp [h, sg], by simp [h, L_zero], by simp [L_zero]⟩

theorem zof_abs (neg : Bool) (n : Nat) : (zof neg n).natAbs = n := by unfold zof; split <;> omega

theorem zof_sg (neg : Bool) (n : Nat) (h : zof neg n ≠ 0) : neg = sg (zof neg n) := by
  unfold zof sg at *
  cases neg <;> simp at * <;> omega

theorem l1Big_fig (W : World) (neg : Bool) (v : Value) (D : List Nat) (hF : ∀ d ∈ D, d < 10) (hl : D.length ≤ 100) (hr : Reads W v (L (num D))) :
    Calls Tryz.prog 152 #[.bool neg, v] W fun e w' => ∃ (z : Int) (ao : Option Addr) (cap : Nat) (ok : Bool), e = .returned (.tuple #[.agg #[.bool (sg z), .slice ao (L z.natAbs).length cap], .bool ok]) ∧ (L z.natAbs).length ≤ 16 ∧ Own W.heap.size w' (.slice ao (L z.natAbs).length cap) (L z.natAbs) ∧ Below W.heap.size W w' := by
  have hb : num D < 10000 ^ 200 := by
    exact Nat.lt_of_lt_of_le (num_lt hF) (Nat.le_trans (Nat.pow_le_pow_left (by decide) _) (Nat.pow_le_pow_right (by decide) (by omega)))
  refine (l1Big_any W neg v (zof neg (num D)) (fun h => zof_sg _ _ h) (by rw [zof_abs]; exact hr) (by rw [zof_abs]; exact hb)).mono ?_
  obtain ⟨Z, h1, h2, h3⟩ := out_ok (zof neg (num D))
  generalize outR true (zof neg (num D)) = O at *
  obtain ⟨og, ol, ok⟩ := O
  simp only at h1 h2
  subst h1 h2
  rintro e w' ⟨ao, cap, rfl, o, b⟩
  exact ⟨Z, ao, cap, ok, rfl, h3, o, b⟩

set_option maxHeartbeats 1000000 in
theorem l14Big_any (w : World) (R p most : Nat) (hr : RD w R p) (hp : p ≤ 90000) (hm1 : 1 ≤ most) (hm2 : most ≤ 64) :
    Calls Tryz.prog 100 #[.pointer (some ⟨R, 0, none⟩), .int .i64 most] w (Draws w R p 200) := by
  have hR := hr.lt
  have K0 : EBR w _ R := EBR.start hR
  have r0 := hr.alloc (.cells #[.bool false, .slice none 0 0] 25)
  have C := hide (pick_any _ R p 64 r0 (by omega) (by omega) (by omega))
  clear r0 hr
  go_enter Tryz.func100, Tryz.ntmps100
  go_wp2_with fail
  refine (unhide C).mono ?_
  rintro e w1 ⟨y, rfl, hy, r1, g1⟩
  have K1 := K0.later g1
  clear C g1 K0
  have hR1 := r1.lt
  have hl := reads_lit w1 [0, 1, 1, 2, 3, 4, 5, 8, 9, 12, 17, 29, 30, 31, 33, 63, 64, 1 + (y : Int)] _ rfl (by simp)
  have C2 := hide (one_any _ R (p + 1) _ _ (r1.alloc _) (by omega) hl (by simp) (by simp) (fun b hb => by
    obtain ⟨o, n', c, e⟩ := hb
    simp at e
    omega))
  have K1' := K1.later (grown_alloc _ (.cells (ints [0, 1, 1, 2, 3, 4, 5, 8, 9, 12, 17, 29, 30, 31, 33, 63, 64, 1 + (y : Int)]).toArray 3) _)
  clear hl r1 K1
  go_wp2_with fail
  refine (unhide C2).mono ?_
  rintro e w2 ⟨z, rfl, hz, r2, g2⟩
  have K2 := K1'.later g2
  clear C2 g2 K1'
  obtain ⟨n, hn, hn64⟩ : ∃ n : Nat, z = n ∧ n ≤ 64 := by
    refine ⟨z.toNat, ?_⟩
    simp only [List.mem_cons, List.not_mem_nil, or_false] at hz
    omega
  subst hn
  clear hz
  by_cases hbig : most < n
  all_goals go_wp2_with fail
  all_goals
    first
      | refine (pick_any _ R (p + 1 + 1) most r2 (by omega) hm1 (by omega)).mono ?_
        rintro e w3 ⟨x, rfl, hx, r3, g3⟩
        have K3 := K2.later g3
        clear r2 K2 g3
        obtain ⟨N, hN, hNb⟩ : ∃ N : Nat, 1 + (x : Int) = N ∧ N ≤ 64 := ⟨1 + x, by omega, by omega⟩
        go_wp2_with fail
      | skip
  all_goals
    refine (l14Figs_any _ R _ _ (by assumption) (by omega) (by omega)).mono ?_
    rintro e w4 ⟨t, ds, q, rfl, hF, hds, r4, hq, g4⟩
    have K4 := EBR.later (by assumption) g4
    have hT : ∃ D, Fig t D ∧ D.length ≤ 100 := ⟨ds, hF, by omega⟩
    have hq' : q ≤ p + 140 := by omega
    clear g4 hds hq
    go_wp2_with fail
    refine (pick_any _ R _ 6 r4 (by omega) (by omega) (by omega)).mono ?_
    rintro e w5 ⟨x5, rfl, hx5, r5, g5⟩
    have K5 := K4.later g5
    clear g5 r4 K4
    by_cases h5 : x5 = 0
    all_goals
      first
        | have h5b : ((x5 : Int) == 0) = true := by simp [h5]
        | have h5b : ((x5 : Int) == 0) = false := by simp [h5]
      clear h5
      go_wp2_with fail
      first
        | refine (l1Many_int _ _ _ 0 (by omega) (by omega) rfl).mono ?_
          rintro e w6 ⟨t6, rfl, hF6, rfl⟩
          have hF1 := Fig.app (s := ⟨#[49]⟩) (l := [1]) ⟨rfl, by simp⟩ hF6
          have hsz6 : t6.size ≤ 100 := by rw [hF6.size, List.length_replicate]; omega
          have hlen1 := hF1.size
          rw [List.length_append, List.length_replicate, List.length_singleton] at hlen1
          clear hT
          have hT : ∃ D, Fig (⟨#[49]⟩ ++ t6) D ∧ D.length ≤ 100 := ⟨_, hF1, by rw [← hF1.size]; omega⟩
          clear hF1 hlen1
          go_wp2_with fail
        | skip
      refine (pick_any _ R _ 6 r5 (by omega) (by omega) (by omega)).mono ?_
      rintro e w7 ⟨x7, rfl, hx7, r7, g7⟩
      have K7 := K5.later g7
      clear g7 r5 K5
      by_cases h7 : x7 = 0
      all_goals
        first
          | have h7b : ((x7 : Int) == 0) = true := by simp [h7]
          | have h7b : ((x7 : Int) == 0) = false := by simp [h7]
        clear h7
        go_wp2_with fail
        first
          | refine (l1Many_int _ _ _ 9 (by omega) (by omega) rfl).mono ?_
            rintro e w8 ⟨t8, rfl, hF8, rfl⟩
            clear hT
            have hT : ∃ D, Fig t8 D ∧ D.length ≤ 100 := ⟨_, hF8, by rw [List.length_replicate]; omega⟩
            go_wp2_with fail
          | skip
        refine (pick_any _ R _ 3 r7 (by omega) (by omega) (by omega)).mono ?_
        rintro e w9 ⟨x9, rfl, hx9, r9, g9⟩
        have K9 := K7.later g9
        clear g9 r7 K7
        generalize hb9 : ((x9 : Int) == 0) = b9
        go_wp2_with fail
        obtain ⟨D, hD, hDl⟩ := hT
        refine (l1FromFigures_any _ _ D hD (by omega)).mono ?_
        rintro e w10 ⟨a10, c10, rfl, o10, b10⟩
        have r10 := r9.later b10
        have K10 := K9.later (grown_below b10)
        clear r9 K9 b10
        go_wp2_with fail
        refine (l1Big_fig _ b9 _ D hD.2 hDl o10.reads).mono ?_
        rintro e w11 ⟨z, a11, c11, ok11, rfl, hz11, o11, b11⟩
        have r11 := r10.later b11
        have K11 := K10.later (grown_below b11)
        have hsz := K10.lt
        clear r10 K10 b11 o10
        obtain ⟨kg, kr0, kr1, kf0, kf1, kl, _⟩ := id K11
        go_wp2
        refine bodyPost_ret (v := .agg #[.bool (sg z), .slice a11 (L z.natAbs).length c11]) (by simp [results, Tryz.results100, go_sem, kr0, kr1, kl]) rfl ?_
        refine ⟨z, a11, c11, q + 1 + 1 + 1, rfl, hz11, ?_, ?_, by omega, ?_⟩
        · exact ((((o11.setBelow (by exact hsz) _).setBelow (by exact hsz) _)).later ((Below.refl _ _).alloc (Nat.le_refl _) _)).mono (by omega)
        · exact ((r11.set (by exact hR) _).set (by exact hR) _).alloc _
        · exact grown_trans (grown_set (grown_set kg (by exact Nat.le_refl _) _) (by exact Nat.le_refl _) _) (grown_alloc _ _ _)

end Go.Proofs.YtdklikicngmkbaaGreatDoor

namespace Go.Proofs.YtdklikicngmkbaaGreatDoor
open Go.RowKit
set_option maxRecDepth 100000

/-- The place for a decimal, made first, while the reader goes on. -/
structure EDR (w W : World) (R : Nat) : Prop where
  grown : w.grownBy W (some R)
  c0 : W.cell? ⟨w.heap.size, 0, none⟩ = some (.bool false)
  c1 : W.cell? ⟨w.heap.size, 1, none⟩ = some (.slice none 0 0)
  c2 : W.cell? ⟨w.heap.size, 2, none⟩ = some (.int .i64 0)
  f0 : W.frozen? ⟨w.heap.size, 0, none⟩ = false
  f1 : W.frozen? ⟨w.heap.size, 1, none⟩ = false
  f2 : W.frozen? ⟨w.heap.size, 2, none⟩ = false
  lt : w.heap.size < W.heap.size
  hR : R < w.heap.size

theorem EDR.start {w : World} {R : Nat} (h : R < w.heap.size) : EDR w (w.alloc (.cells #[.bool false, .slice none 0 0, .int .i64 0] 27)) R :=
  ⟨grown_alloc _ _ _, by go_simp, by go_simp, by go_simp, by go_simp, by go_simp, by go_simp, by simp, h⟩

theorem EDR.later {w0 w w' : World} {R : Nat} (h : EDR w0 w R) (g : w.grownBy w' (some R)) : EDR w0 w' R := by
  have hR := h.hR
  have hb := g.block w0.heap.size h.lt (by simp; omega)
  exact ⟨grown_trans h.grown g, (World.cell?_of_block (w := w) (a := ⟨w0.heap.size, 0, none⟩) hb).trans h.c0, (World.cell?_of_block (w := w) (a := ⟨w0.heap.size, 1, none⟩) hb).trans h.c1, (World.cell?_of_block (w := w) (a := ⟨w0.heap.size, 2, none⟩) hb).trans h.c2,
    (World.frozen?_of_block (w := w) (a := ⟨w0.heap.size, 0, none⟩) hb).trans h.f0, (World.frozen?_of_block (w := w) (a := ⟨w0.heap.size, 1, none⟩) hb).trans h.f1, (World.frozen?_of_block (w := w) (a := ⟨w0.heap.size, 2, none⟩) hb).trans h.f2, Nat.lt_of_lt_of_le h.lt g.size, hR⟩

/-- What a drawing call answers that hands out a decimal that is ok but for its figures. -/
def DrawsDec (w : World) (R p k : Nat) (e : Ending) (w' : World) : Prop :=
  ∃ (z : Int) (sc : Nat) (ao : Option Addr) (cap q : Nat), e = .returned (.agg #[.bool (sg z), .slice ao (L z.natAbs).length cap, .int .i64 sc]) ∧ (L z.natAbs).length ≤ 16 ∧ sc ≤ 12 ∧ Own w.heap.size w' (.slice ao (L z.natAbs).length cap) (L z.natAbs) ∧ RD w' R q ∧ q ≤ p + k ∧ w.grownBy w' (some R)

theorem EDR.gives {w W : World} {R p q k : Nat} {z : Int} {sc : Nat} {ao : Option Addr} {cap : Nat} (h : EDR w W R) (hz : (L z.natAbs).length ≤ 16) (hs : sc ≤ 12) (o : Own (w.heap.size + 1) W (.slice ao (L z.natAbs).length cap) (L z.natAbs)) (r : RD W R q) (hq : q ≤ p + k) :
    DrawsDec w R p k (.returned (.agg #[.bool (sg z), .slice ao (L z.natAbs).length cap, .int .i64 sc])) (((W.setCell ⟨w.heap.size, 0, none⟩ (.bool (sg z))).setCell ⟨w.heap.size, 1, none⟩ (.slice ao (L z.natAbs).length cap)).setCell ⟨w.heap.size, 2, none⟩ (.int .i64 sc)) := by
  have hR := h.hR
  exact ⟨z, sc, ao, cap, q, rfl, hz, hs, (((o.setBelow (by simp) _).setBelow (by simp) _).setBelow (by simp) _).mono (by omega), ((r.set (by exact hR) _).set (by exact hR) _).set (by exact hR) _, hq, grown_set (grown_set (grown_set h.grown (by exact Nat.le_refl _) _) (by exact Nat.le_refl _) _) (by exact Nat.le_refl _) _⟩

theorem of_small {n : Int} (h : -10000 ≤ n ∧ n ≤ 10000) : (L n.natAbs).length ≤ 16 := L_len_le (Nat.lt_of_lt_of_le (show n.natAbs < 10000 ^ 2 by omega) (Nat.pow_le_pow_right (by decide) (by decide)))

set_option maxHeartbeats 2000000 in
theorem l14Dec_any (w : World) (R p : Nat) (hr : RD w R p) (hp : p ≤ 80000) :
    Calls Tryz.prog 99 #[.pointer (some ⟨R, 0, none⟩)] w (DrawsDec w R p 210) := by
  have hR := hr.lt
  have K0 : EDR w _ R := EDR.start hR
  have r0 := hr.alloc (.cells #[.bool false, .slice none 0 0, .int .i64 0] 27)
  have C1 := hide (pick_any _ R p 13 r0 (by omega) (by omega) (by omega))
  clear r0 hr
  go_enter Tryz.func99, Tryz.ntmps99
  go_wp2_with fail
  refine (unhide C1).mono ?_
  rintro e w1 ⟨x, rfl, hx, r1, g1⟩
  have K1 := K0.later g1
  have C2 := hide (one_lit w1 R (p + 1) [0, 0, 1, 2, 2, 3, 6, 12, (x : Int)] _ rfl r1 (by omega) (by simp) (by simp))
  clear C1 K0 r1 g1
  go_wp2_with fail
  refine (unhide C2).mono ?_
  rintro e w2 ⟨sc0, rfl, hsc, r2, g2⟩
  have K2 := K1.later g2
  obtain ⟨sc, rfl, hs12⟩ : ∃ sc : Nat, sc0 = sc ∧ sc ≤ 12 := by
    simp only [List.mem_cons, List.not_mem_nil, or_false] at hsc
    exact ⟨sc0.toNat, by omega, by omega⟩
  have C3 := hide (pick_any _ R (p + 1 + 1) 5 r2 (by omega) (by omega) (by omega))
  clear C2 K1 r2 g2 hsc
  go_wp2_with fail
  refine (unhide C3).mono ?_
  rintro e w3 ⟨y, rfl, hy, r3, g3⟩
  have K3 := K2.later g3
  obtain ⟨-, kc0, kc1, kc2, kf0, kf1, kf2, kl, -⟩ := id K3
  clear C3 K2 g3
  by_cases y0 : y = 0
  · subst y0
    have C4 := hide (pick_any _ R (p + 1 + 1 + 1) 200 r3 (by omega) (by omega) (by omega))
    go_wp2_with fail
    refine (unhide C4).mono ?_
    rintro e w4 ⟨u, rfl, hu, r4, g4⟩
    have K4 := K3.later g4
    have C5 := hide (fun (n : Int) (hn : n = (u : Int) - 100) => (by subst hn; exact specBigOf_any w4 ((u : Int) - 100) (by omega) (by omega) : Calls Tryz.prog 149 #[.int .i64 n] w4 (GivesBig w4 (ofR ((u : Int) - 100)).1 (ofR ((u : Int) - 100)).2)))
    have HZ := hide (show IntKind.i64.wrap ((u : Int) - 100) = (u : Int) - 100 by rw [IntKind.wrap_i64]; omega)
    clear kc0 kc1 kc2 kf0 kf1 kf2 kl
    go_wp2_with fail
    refine (unhide C5 _ (by first | with_reducible rfl | with_reducible exact unhide HZ)).mono ?_
    rintro e w5 ⟨ao, cap, rfl, o5, b5⟩
    have K5 := K4.later (grown_below b5)
    have r5 := r4.later b5
    have hk4 := K4.lt
    obtain ⟨-, kc0, kc1, kc2, kf0, kf1, kf2, kl, -⟩ := id K5
    have o5' : Own (w.heap.size + 1) w5 (.slice ao (L ((u : Int) - 100).natAbs).length cap) (L ((u : Int) - 100).natAbs) := o5.mono (by omega)
    have hz := of_small (n := (u : Int) - 100) (by omega)
    have E := hide (show (ofR ((u : Int) - 100)) = (sg ((u : Int) - 100), L ((u : Int) - 100).natAbs) from rfl)
    clear C4 C5 K3 K4 g4 r4 b5 o5
    simp only [ofR]
    generalize (u : Int) - 100 = z at *
    go_wp2
    refine bodyPost_ret (v := .agg #[.bool (sg z), .slice ao (L z.natAbs).length cap, .int .i64 sc]) (by simp [results, Tryz.results99, go_sem, kc0, kc1, kc2]) rfl ?_
    exact K5.gives hz hs12 o5' r5 (by omega)
  by_cases y1 : y = 1
  · subst y1
    have C4 := hide (one_lit w3 R (p + 1 + 1 + 1) [5, 15, 25, 35, 45, -5, -15, -25, 50, 150, 250, 499, 500, 501, -500, 1500, 2500, -2500, 1000, 20] _ rfl r3 (by omega) (by simp) (by simp))
    go_wp2_with fail
    refine (unhide C4).mono ?_
    rintro e w4 ⟨z, rfl, hzm, r4, g4⟩
    have hzb : -10000 ≤ z ∧ z ≤ 10000 := by
      simp only [List.mem_cons, List.not_mem_nil, or_false] at hzm
      omega
    have K4 := K3.later g4
    have C5 := hide (specBigOf_any w4 z (by omega) (by omega))
    clear kc0 kc1 kc2 kf0 kf1 kf2 kl hzm
    go_wp2_with fail
    refine (unhide C5).mono ?_
    rintro e w5 ⟨ao, cap, rfl, o5, b5⟩
    have K5 := K4.later (grown_below b5)
    have r5 := r4.later b5
    have hk4 := K4.lt
    obtain ⟨-, kc0, kc1, kc2, kf0, kf1, kf2, kl, -⟩ := id K5
    have o5' : Own (w.heap.size + 1) w5 (.slice ao (L z.natAbs).length cap) (L z.natAbs) := o5.mono (by omega)
    have hz := of_small hzb
    clear C4 C5 K3 K4 g4 r4 b5 o5
    simp only [ofR]
    go_wp2
    refine bodyPost_ret (v := .agg #[.bool (sg z), .slice ao (L z.natAbs).length cap, .int .i64 sc]) (by simp [results, Tryz.results99, go_sem, kc0, kc1, kc2]) rfl ?_
    exact K5.gives hz hs12 o5' r5 (by omega)
  have big : ∀ most : Nat, 1 ≤ most → most ≤ 64 → Calls Tryz.prog 100 #[.pointer (some ⟨R, 0, none⟩), .int .i64 most] w3 (Draws w3 R (p + 1 + 1 + 1) 200) := fun most h1 h2 => l14Big_any w3 R _ most r3 (by omega) h1 h2
  have HB := hide big
  have hk3 := K3.lt
  clear big
  by_cases y2 : y = 2
  · subst y2
    clear y0 y1
    go_wp2_with fail
    refine (unhide HB 8 (by omega) (by omega)).mono ?_
    rintro e w5 ⟨z, ao, cap, q, rfl, hz, o5, r5, hq, g5⟩
    have K5 := K3.later g5
    have o5' : Own (w.heap.size + 1) w5 _ (L z.natAbs) := o5.mono (by omega)
    clear kc0 kc1 kc2 kf0 kf1 kf2 kl HB K3 r3 g5 o5
    obtain ⟨-, kc0, kc1, kc2, kf0, kf1, kf2, kl, -⟩ := id K5
    go_wp2
    refine bodyPost_ret (v := .agg #[.bool (sg z), .slice ao (L z.natAbs).length cap, .int .i64 sc]) (by simp [results, Tryz.results99, go_sem, kc0, kc1, kc2]) rfl ?_
    exact K5.gives hz hs12 o5' r5 (by omega)
  · have y0' : ((y : Int) == 0) = false := by rw [beq_eq_false_iff_ne]; omega
    have y1' : ((y : Int) == 1) = false := by rw [beq_eq_false_iff_ne]; omega
    have y2' : ((y : Int) == 2) = false := by rw [beq_eq_false_iff_ne]; omega
    go_wp2_with fail
    refine (unhide HB 30 (by omega) (by omega)).mono ?_
    rintro e w5 ⟨z, ao, cap, q, rfl, hz, o5, r5, hq, g5⟩
    have K5 := K3.later g5
    have o5' : Own (w.heap.size + 1) w5 _ (L z.natAbs) := o5.mono (by omega)
    clear kc0 kc1 kc2 kf0 kf1 kf2 kl HB K3 r3 g5 o5
    obtain ⟨-, kc0, kc1, kc2, kf0, kf1, kf2, kl, -⟩ := id K5
    go_wp2
    refine bodyPost_ret (v := .agg #[.bool (sg z), .slice ao (L z.natAbs).length cap, .int .i64 sc]) (by simp [results, Tryz.results99, go_sem, kc0, kc1, kc2]) rfl ?_
    exact K5.gives hz hs12 o5' r5 (by omega)

end Go.Proofs.YtdklikicngmkbaaGreatDoor
