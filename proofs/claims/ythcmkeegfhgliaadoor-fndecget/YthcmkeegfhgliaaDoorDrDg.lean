/- A drawn text that may be a decimal: DrawDecGet by a contract. -/
import Derived.Test.YthcmkeegfhgliaaDoorDrDc
import Derived.Test.YthcmkeegfhgliaaDoorGr
import Derived.Test.YthcmkeegfhgliaaDoorDcP
namespace Go.Proofs.YthcmkeegfhgliaaDoor
open Go.RowKit
set_option maxRecDepth 100000

theorem many_sizeD {t s : ByteArray} {n : Nat} (h : t.data.toList = (List.replicate n s.data.toList).flatten) (hs : s.size = 1) : t.size = n := by
  have e : s.data.toList.length = 1 := by rw [← hs]; simp
  have := congrArg List.length h
  rw [List.length_flatten] at this
  simp [e] at this
  exact this

theorem decT_size {p : Bool} {l : List Int} {s : Nat} (h : (txtL l).length ≤ 80) (hs : s ≤ 12) : (decT p l s).size ≤ 500 := by
  have h1 := figT_size2 h hs
  unfold decT
  rw [ByteArray.size_append, bytes_size]
  have h2 : (sgT p).length ≤ 1 := by unfold sgT; split <;> simp
  have h3 : (dotT (figT l s) s).size ≤ 200 := by
    unfold dotT
    split
    · omega
    · rw [ByteArray.size_append, ByteArray.size_append, ByteArray.size_extract, ByteArray.size_extract]
      have : (⟨#[46]⟩ : ByteArray).size = 1 := rfl
      omega
  omega

theorem drawDecGet_any (w : World) (v : Value) (h : Byt w v) :
    Calls Tryd.prog 10 #[v] w fun e w' => ∃ t : ByteArray, e = .returned (.string t) ∧ t.size ≤ 2000 ∧ Below w.heap.size w w' := by
  have C0 := hide (l1Open_any w v h)
  go_enter Tryd.func10, Tryd.ntmps10
  go_wp2_with fail
  refine (unhide C0).mono ?_
  rintro e w1 ⟨rfl, r1, b1, z1⟩
  clear C0
  go_wp2_with fail
  refine (pick_any w1 _ 0 12 r1 (by omega) (by omega) (by omega)).mono ?_
  rintro e w2 ⟨x, rfl, hx, r2, g2⟩
  clear r1
  by_cases hx0 : x = 0
  · subst hx0
    go_wp2_with fail
    refine (l1Many_any w2 ⟨#[57]⟩ 31 (by omega) rfl).mono ?_
    rintro e w3 ⟨t1, rfl, ht1, rfl⟩
    have z1 := many_sizeD ht1 rfl
    clear ht1
    go_wp2_with fail
    refine (l1Many_any _ ⟨#[48]⟩ 13 (by omega) rfl).mono ?_
    rintro e w4 ⟨t2, rfl, ht2, rfl⟩
    have z2 := many_sizeD ht2 rfl
    clear ht2
    have Z1 := hide z1
    have Z2 := hide z2
    have z3 : ¬ (9223372036854775807 < 2 + t2.size) := by omega
    clear z1
    go_wp2_with fail
    refine (of_lit _ _ _ [⟨#[]⟩, ⟨#[45]⟩, ⟨#[46]⟩, ⟨#[49, 46]⟩, ⟨#[46, 53]⟩, ⟨#[45, 48, 46, 48, 48]⟩, ⟨#[48, 46, 48, 48]⟩, ⟨#[48, 48, 46, 49]⟩, t1, ⟨#[49, 46]⟩ ++ t2] _ rfl r2 (by omega) (by simp) (by simp)).mono ?_
    rintro e w5 ⟨y, rfl, hy, r5, g5⟩
    have ky : y.size ≤ 65 := by
      have a1 := unhide Z1
      have a2 := unhide Z2
      simp only [List.mem_cons, List.not_mem_nil, or_false] at hy
      rcases hy with rfl | rfl | rfl | rfl | rfl | rfl | rfl | rfl | rfl | rfl
      · decide
      · decide
      · decide
      · decide
      · decide
      · decide
      · decide
      · decide
      · omega
      · rw [ByteArray.size_append]
        have : (⟨#[49, 46]⟩ : ByteArray).size = 2 := rfl
        omega
    clear hy
    go_wp2
    go_ret
    exact ⟨y, rfl, by omega, grown_below_trans b1 (Nat.le_refl _) (grown_trans g2 g5)⟩
  · have hx1 : ((x : Int) == 0) = false := by rw [beq_eq_false_iff_ne]; omega
    go_wp2_with fail
    refine (l14Dec_any w2 _ 1 r2 (by omega)).mono ?_
    rintro e w3 ⟨z, sc, a3, c3, q, rfl, hz, hsc, o3, r3, hq, g3⟩
    have ht80 : (txtL (L z.natAbs)).length ≤ 80 := by have := txtL_long (L_lim z.natAbs); omega
    have HT := hide (decT_size (p := sg z) (l := L z.natAbs) (s := sc) ht80 hsc)
    have C3 := hide (l2Put_any w3 (sg z) _ (L z.natAbs) sc o3.reads (L_lim _) hz ht80 hsc)
    generalize decT (sg z) (L z.natAbs) sc = T at *
    clear r2
    go_wp2_with fail
    refine (unhide C3).mono ?_
    rintro e w4 ⟨rfl, b4⟩
    have r4 := r3.later b4
    have g4 := grown_trans (grown_trans g2 g3) (grown_below (r := some w.heap.size) b4)
    clear C3 b4 r3 o3 g2 g3
    go_wp2_with fail
    refine (l14Bent_any w4 _ q T r4 (by omega) (unhide HT)).mono ?_
    rintro e w5 ⟨t, rfl, ht, g5⟩
    go_wp2
    go_ret
    exact ⟨t, rfl, ht, grown_below_trans b1 (Nat.le_refl _) (grown_trans g4 g5)⟩

end Go.Proofs.YthcmkeegfhgliaaDoor
