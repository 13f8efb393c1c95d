/- The program's above and goes, by contracts. -/
import Derived.Test.YthnkmjkgcnhlfaaGreatDoorH14
import Derived.Test.YthnkmjkgcnhlfaaGreatDoorH10
import Derived.Test.YthnkmjkgcnhlfaaGreatDoorDivS0
namespace Go.Proofs.YthnkmjkgcnhlfaaGreatDoor
open Go.RowKit


theorem val_drop_one {l : List Int} {k : Nat} (h : k < l.length) : val (l.drop k) = l[k] + 10000 * val (l.drop (k + 1)) := by
  rw [← List.getElem_cons_drop h]
  rfl

/-- The few limbs from a place on, as one number. -/
theorem above_any (w : World) (u : Value) (l : List Int) (f : Nat) (hu : Reads w u l) (hlim : Lim l) (hf : l.length ≤ f + 4) :
    Calls Tryz.prog 131 #[u, .int .i64 f] w fun e w' => e = .returned (.int .i64 (val (l.drop f))) ∧ w' = w := by
  obtain ⟨ao, b, off, cap, rfl, hu⟩ := hu
  have h1 := hu.le
  have h2 := hu.big
  unfold maxLen at h2
  by_cases hfl : l.length ≤ f
  · have e0 : val (l.drop f) = 0 := by rw [List.drop_of_length_le hfl]; rfl
    rw [e0]
    go_enter Tryz.func131, Tryz.ntmps131
    go_wp2
    refine wp_loop_rounds 1 ?_
    rw [rounds_succ]
    go_wp2
    go_ret
    exact ⟨rfl, rfl⟩
  · go_enter Tryz.func131, Tryz.ntmps131
    go_wp2
    go_loopw [5, 6] (fun nn ii wr => ∃ (k : Nat) (n : Int), ii = .int .i64 ((k : Int) - 1) ∧ nn = .int .i64 n ∧ f ≤ k ∧ k ≤ l.length ∧ n = val (l.drop k) ∧ wr = w) (fun _ ii _ => (intOf ii + 1).toNat)
    case atStart => exact ⟨l.length, 0, rfl, rfl, by omega, Nat.le_refl _, by rw [List.drop_length]; rfl, rfl⟩
    case round =>
      obtain ⟨k, n, rfl, rfl, hk1, hk2, hn, rfl⟩ := hrel
      have HN := hide hn
      by_cases h : f < k
      · obtain ⟨k', rfl⟩ : ∃ k', k = k' + 1 := ⟨k - 1, by omega⟩
        have hki : ((k' + 1 : Nat) : Int) - 1 = k' := by omega
        rw [hki]
        have hkl : k' < l.length := by omega
        have hc := hu.cell k' hkl
        have hx := hlim.at hkl
        have hat := hu.at_ (by omega)
        subst hat
        have hn0 : 0 ≤ n := by rw [hn]; exact val_nonneg (hlim.drop _)
        have hn1 : n < 10000 ^ 3 := by
          rw [hn]
          refine Int.lt_of_lt_of_le (val_lt (hlim.drop _)) ?_
          have := Int.ofNat_le.2 (Nat.pow_le_pow_right (show 0 < 10000 by decide) (show (l.drop (k' + 1)).length ≤ 3 by rw [List.length_drop]; omega))
          rwa [Int.natCast_pow, Int.natCast_pow] at this
        have hn2 : n < 1000000000000 := hn1
        have HX := hide (val_drop_one hkl)
        clear hn hki hn1
        generalize l[k'] = x at *
        go_wp2
        go_roundw
        case rel => exact ⟨k', n * 10000 + x, rfl, rfl, by omega, by omega, by rw [unhide HX, ← unhide HN]; omega, trivial⟩
        case measure => simp only [intOf]; omega
      · have ek : k = f := by omega
        have HK := hide ek
        clear hn ek
        go_wp2
        go_ret
        exact ⟨by rw [← unhide HK, ← unhide HN]; rfl, rfl⟩

theorem val_drop_L (r f : Nat) : val ((L r).drop f) = ((r / 10000 ^ f : Nat) : Int) := by
  by_cases h : f ≤ (L r).length
  · have e := val_split (L r) f h
    rw [val_L] at e
    have h0 := val_nonneg (Lim.take (L_lim r) f)
    have h1 := val_lt (Lim.take (L_lim r) f)
    have h2 := val_nonneg (Lim.drop (L_lim r) f)
    rw [List.length_take, Nat.min_eq_left h] at h1
    obtain ⟨x, hx⟩ := Int.eq_ofNat_of_zero_le h0
    obtain ⟨y, hy⟩ := Int.eq_ofNat_of_zero_le h2
    rw [hx] at h1 e
    rw [hy] at e ⊢
    have h1' : x < 10000 ^ f := by
      have := h1
      rw [show (10000 : Int) ^ f = ((10000 ^ f : Nat) : Int) by rw [Int.natCast_pow]; rfl] at this
      exact Int.ofNat_lt.1 this
    have e' : r = x + 10000 ^ f * y := by
      rw [show (10000 : Int) ^ f = ((10000 ^ f : Nat) : Int) by rw [Int.natCast_pow]; rfl, ← Int.natCast_mul, ← Int.natCast_add] at e
      exact Int.ofNat_inj.1 e
    rw [e', Nat.add_mul_div_left _ _ (Nat.pow_pos (by decide)), Nat.div_eq_of_lt h1', Nat.zero_add]
  · rw [List.drop_of_length_le (by omega)]
    have : r < 10000 ^ f := Nat.lt_of_lt_of_le (lt_of_L_len (Nat.le_refl _)) (Nat.pow_le_pow_right (by decide) (by omega))
    rw [Nat.div_eq_of_lt this]
    rfl

/-- The guess never takes too much. -/
theorem guess_ok {r b P : Nat} (hP : 0 < P) (hb : b ≤ r) : max 1 (r / P / (b / P + 1)) * b ≤ r := by
  rcases Nat.le_total (r / P / (b / P + 1)) 1 with h | h
  · rw [Nat.max_eq_left h, Nat.one_mul]
    exact hb
  · rw [Nat.max_eq_right h]
    have h1 : b ≤ (b / P + 1) * P := by
      have := Nat.lt_div_mul_add hP (a := b)
      rw [Nat.add_mul, Nat.one_mul]
      omega
    calc r / P / (b / P + 1) * b ≤ r / P / (b / P + 1) * ((b / P + 1) * P) := Nat.mul_le_mul_left _ h1
      _ = r / P / (b / P + 1) * (b / P + 1) * P := by rw [Nat.mul_assoc]
      _ ≤ r / P * P := Nat.mul_le_mul_right _ (Nat.div_mul_le_self _ _)
      _ ≤ r := Nat.div_mul_le_self _ _

theorem goes_lt {a b t r : Nat} (hab : a < 10000 * b) (h : a = t * b + r) : t < 10000 := by
  have : t * b < 10000 * b := by omega
  exact Nat.lt_of_mul_lt_mul_right this

set_option maxHeartbeats 1000000 in
set_option maxRecDepth 100000 in
theorem goes_any (w : World) (B : Nat) (u v : Value) (a b : Nat) (hu : Own B w u (L a)) (hB : B ≤ w.heap.size) (hv : Reads w v (L b)) (hb0 : 0 < b) (hab : a < 10000 * b) (hb : b < 10000 ^ 99) :
    Calls Tryz.prog 106 #[u, v] w fun e w' => ∃ (ro : Option Addr) (rc : Nat), e = .returned (.tuple #[.int .i64 ((a / b : Nat) : Int), .slice ro (L (a % b)).length rc]) ∧ Own B w' (.slice ro (L (a % b)).length rc) (L (a % b)) ∧ Below w.heap.size w w' := by
  have U := hide hu
  have V := hide hv
  have HAB := hide hab
  have HB := hide hb
  have hlb := L_len_le hb
  obtain ⟨ao, cap, rfl⟩ := hu.shape
  obtain ⟨ao', b2, off', cap', rfl, hv⟩ := hv
  clear hv hu hab hb
  by_cases h2 : 2 < (L b).length
  · obtain ⟨f, hf⟩ : ∃ f : Nat, ((L b).length : Int) - 2 = f := ⟨(L b).length - 2, by omega⟩
    have hf2 : (L b).length = f + 2 := by omega
    have hf3 : (L b).length ≤ f + 2 := by omega
    clear hf2
    have hPf : 0 < 10000 ^ f := Nat.pow_pos (by decide)
    have hbP : b / 10000 ^ f < 100000000 := Nat.div_lt_of_lt_mul (by
      have h := lt_of_L_len (Nat.le_refl (L b).length)
      refine Nat.lt_of_lt_of_le h ?_
      rw [show (100000000 : Nat) = 10000 ^ 2 from rfl, ← Nat.pow_add]
      exact Nat.pow_le_pow_right (by decide) (by omega))
    obtain ⟨M, hM⟩ : ∃ M, b / 10000 ^ f = M := ⟨_, rfl⟩
    rw [hM] at hbP
    have HM := hide hM
    clear hM hPf
    go_enter Tryz.func106, Tryz.ntmps106
    go_wp2
    go_loopw [7, 8, 9] (fun tt rr _ wr => ∃ (t r : Nat) (ro : Option Addr) (rc : Nat), tt = .int .i64 t ∧ rr = .slice ro (L r).length rc ∧ a = t * b + r ∧ Own B wr (.slice ro (L r).length rc) (L r) ∧ Below w.heap.size w wr) (fun tt _ _ _ => 10000 - (intOf tt).toNat)
    case atStart => exact ⟨0, a, ao, cap, rfl, rfl, by omega, unhide U, Below.refl _ _⟩
    case round =>
      obtain ⟨t, r, ro, rc, rfl, rfl, hI, hown, hbel⟩ := hrel
      have ht : t < 10000 := goes_lt (unhide HAB) hI
      have hrb : r < 10000 * b := by have := unhide HAB; omega
      have HI := hide hI
      clear hI
      have C := hide (against_any wr _ _ r b hown.reads ((unhide V).later hbel))
      go_wp2_with fail
      refine (unhide C).mono ?_
      rintro e w1 ⟨rfl, b1'⟩
      have B1 := hbel.trans (b1'.mono hbel.size)
      have own1 := hown.later b1'
      have V1 := hide ((unhide V).later B1)
      clear C b1' hown hbel
      by_cases hc : b ≤ r
      · have hcz : decide (0 ≤ cmpZ (r : Int) (b : Int)) = true := by
          rw [decide_eq_true_eq]
          rcases Nat.lt_or_eq_of_le hc with h | h
          · rw [cmpZ_gt (Int.ofNat_lt.2 h)]; decide
          · rw [cmpZ_eq (by rw [h])]; decide
        generalize cmpZ (r : Int) (b : Int) = cz at *
        have hlenr : (L r).length ≤ (L b).length + 1 := L_len_le (by
          have h := lt_of_L_len (Nat.le_refl (L b).length)
          rw [Nat.pow_succ]
          omega)
        have CA := hide (above_any w1 _ (L r) f own1.reads (L_lim r) (by omega))
        rw [val_drop_L] at CA
        have CM := hide (above_any w1 _ (L b) f (unhide V1) (L_lim b) (by omega))
        rw [val_drop_L, unhide HM] at CM
        have hRP : r / 10000 ^ f < 1000000000000 := Nat.div_lt_of_lt_mul (by
          have h := lt_of_L_len (Nat.le_refl (L r).length)
          refine Nat.lt_of_lt_of_le h ?_
          rw [show (1000000000000 : Nat) = 10000 ^ 3 from rfl, ← Nat.pow_add]
          exact Nat.pow_le_pow_right (by decide) (by omega))
        have hG := guess_ok (Nat.pow_pos (n := f) (show 0 < 10000 by decide)) hc
        rw [unhide HM] at hG
        generalize r / 10000 ^ f = Q at *
        obtain ⟨G, hGe⟩ : ∃ G, Q / (M + 1) = G := ⟨_, rfl⟩
        rw [hGe] at hG
        have hGi : (Q : Int) / ((M : Int) + 1) = G := by rw [← hGe]; simp
        have hGb : G < 1000000000000 := by rw [← hGe]; exact Nat.lt_of_le_of_lt (Nat.div_le_self _ _) hRP
        have HG := hide hG
        clear hGe hG
        go_wp2_with fail
        refine (unhide CA).mono ?_
        rintro e w2 ⟨rfl, rfl⟩
        go_wp2_with fail
        refine (unhide CM).mono ?_
        rintro e w3 ⟨rfl, rfl⟩
        clear CA CM hcz
        by_cases hg : 1 < G
        · have hgm : max 1 G = G := Nat.max_eq_right (by omega)
          rw [hgm] at HG
          have hGr := unhide HG
          have hgv : G < 10000 := Nat.lt_of_mul_lt_mul_right (Nat.lt_of_le_of_lt hGr hrb)
          have HGr := hide hGr
          clear hgm HG hGr
          have hlit : Reads (w3.alloc (.cells #[.int .i64 ((G : Nat) : Int)] 3)) (.slice (some ⟨w3.heap.size, 0, none⟩) 1 1) (L G) := by
            rw [L_small (by omega) hgv]
            exact (own_one w3 _ (B := 0) (Nat.zero_le _)).reads
          have bA : Below w3.heap.size w3 (w3.alloc (.cells #[.int .i64 ((G : Nat) : Int)] 3)) := (Below.refl _ _).alloc (Nat.le_refl _) _
          have hb100 : b < 10000 ^ 100 := Nat.lt_of_lt_of_le (unhide HB) (Nat.pow_le_pow_right (by decide) (by decide))
          have hg100 : G < 10000 ^ 100 := Nat.lt_of_lt_of_le (show G < 10000 ^ 1 by omega) (Nat.pow_le_pow_right (by decide) (by decide))
          have hr200 : r < 10000 ^ 200 := by
            have h1 : 10000 * b < 10000 ^ 100 := by rw [show (100 : Nat) = 99 + 1 from rfl, Nat.pow_succ, Nat.mul_comm]; exact Nat.mul_lt_mul_of_pos_right (unhide HB) (by decide)
            exact Nat.lt_trans hrb (Nat.lt_of_lt_of_le h1 (Nat.pow_le_pow_right (by decide) (by decide)))
          have C5 := hide (times_any _ _ _ b G ((unhide V1).later bA) hlit hb100 hg100)
          have HR2 := hide hr200
          clear hlit hb100 hg100 hr200
          go_wp2_with fail
          refine (unhide C5).mono ?_
          rintro e w4 ⟨ao4, c4, rfl, o4, b4'⟩
          have bw4 := bA.trans (b4'.mono bA.size)
          have hle4 : b * G ≤ r := by rw [Nat.mul_comm]; exact unhide HGr
          have C6 := hide (minus_any w4 _ _ r (b * G) (own1.later bw4).reads o4.reads (unhide HR2) hle4)
          have HL4 := hide hle4
          clear C5 b4' bA o4 hle4
          go_wp2_with fail
          refine (unhide C6).mono ?_
          rintro e w5 ⟨ao5, c5, rfl, o5, b5'⟩
          have bw5 := bw4.trans (b5'.mono bw4.size)
          have hB4 : B ≤ w4.heap.size := by have := bw4.size; have := B1.size; omega
          clear C6 b5' bw4
          go_wp2
          go_roundw
          case rel =>
            refine ⟨t + G, r - b * G, ao5, c5, by simp, rfl, ?_, o5.mono hB4, B1.trans (bw5.mono B1.size)⟩
            have h1 := unhide HI
            have h2 := unhide HL4
            rw [Nat.add_mul, Nat.mul_comm G b]
            omega
          case measure => simp only [intOf]; omega
        · have hgm : max 1 G = 1 := Nat.max_eq_left (by omega)
          rw [hgm] at HG
          have hGr := unhide HG
          have hgv : 1 < 10000 := Nat.lt_of_mul_lt_mul_right (Nat.lt_of_le_of_lt hGr hrb)
          have HGr := hide hGr
          clear hgm HG hGr
          have hlit : Reads (w3.alloc (.cells #[.int .i64 ((1 : Nat) : Int)] 3)) (.slice (some ⟨w3.heap.size, 0, none⟩) 1 1) (L 1) := by
            rw [L_small (by omega) hgv]
            exact (own_one w3 _ (B := 0) (Nat.zero_le _)).reads
          have bA : Below w3.heap.size w3 (w3.alloc (.cells #[.int .i64 ((1 : Nat) : Int)] 3)) := (Below.refl _ _).alloc (Nat.le_refl _) _
          have hb100 : b < 10000 ^ 100 := Nat.lt_of_lt_of_le (unhide HB) (Nat.pow_le_pow_right (by decide) (by decide))
          have hg100 : 1 < 10000 ^ 100 := Nat.lt_of_lt_of_le (show 1 < 10000 ^ 1 by omega) (Nat.pow_le_pow_right (by decide) (by decide))
          have hr200 : r < 10000 ^ 200 := by
            have h1 : 10000 * b < 10000 ^ 100 := by rw [show (100 : Nat) = 99 + 1 from rfl, Nat.pow_succ, Nat.mul_comm]; exact Nat.mul_lt_mul_of_pos_right (unhide HB) (by decide)
            exact Nat.lt_trans hrb (Nat.lt_of_lt_of_le h1 (Nat.pow_le_pow_right (by decide) (by decide)))
          have C5 := hide (times_any _ _ _ b 1 ((unhide V1).later bA) hlit hb100 hg100)
          rw [Nat.mul_one] at C5
          have HR2 := hide hr200
          clear hlit hb100 hg100 hr200
          go_wp2_with fail
          refine (unhide C5).mono ?_
          rintro e w4 ⟨ao4, c4, rfl, o4, b4'⟩
          have bw4 := bA.trans (b4'.mono bA.size)
          have hle4 : b ≤ r := hc
          have C6 := hide (minus_any w4 _ _ r b (own1.later bw4).reads o4.reads (unhide HR2) hle4)
          have HL4 := hide hle4
          clear C5 b4' bA o4 hle4
          go_wp2_with fail
          refine (unhide C6).mono ?_
          rintro e w5 ⟨ao5, c5, rfl, o5, b5'⟩
          have bw5 := bw4.trans (b5'.mono bw4.size)
          have hB4 : B ≤ w4.heap.size := by have := bw4.size; have := B1.size; omega
          clear C6 b5' bw4
          go_wp2
          go_roundw
          case rel =>
            refine ⟨t + 1, r - b, ao5, c5, by simp, rfl, ?_, o5.mono hB4, B1.trans (bw5.mono B1.size)⟩
            have h1 := unhide HI
            have h2 := unhide HL4
            rw [Nat.add_mul, Nat.one_mul]
            omega
          case measure => simp only [intOf]; omega
      · have hcz : decide (0 ≤ cmpZ (r : Int) (b : Int)) = false := by
          rw [decide_eq_false_iff_not, cmpZ_lt (Int.ofNat_lt.2 (Nat.lt_of_not_le hc))]
          decide
        generalize cmpZ (r : Int) (b : Int) = cz at *
        have e1 : t = a / b := by
          have h := unhide HI
          rw [h, Nat.mul_comm, Nat.mul_add_div hb0, Nat.div_eq_of_lt (Nat.lt_of_not_le hc)]
          rfl
        have e2 : r = a % b := by
          have h := unhide HI
          rw [h, Nat.mul_comm, Nat.mul_add_mod, Nat.mod_eq_of_lt (Nat.lt_of_not_le hc)]
        have E1 := hide e1
        have E2 := hide e2
        clear e1 e2 hc
        go_wp2
        refine bodyPost_ret (v := .tuple #[.int .i64 (t : Int), .slice ro (L r).length rc]) (by simp [results, Tryz.results106, go_sem]) rfl ?_
        rw [← unhide E1, ← unhide E2]
        exact ⟨ro, rc, rfl, own1, B1⟩
  · have hf3 : (L b).length ≤ 0 + 2 := by omega
    have hf4 : ((L b).length : Int) - 2 ≤ 0 := by omega
    have hPf : 0 < 10000 ^ 0 := Nat.pow_pos (by decide)
    have hbP : b / 10000 ^ 0 < 100000000 := Nat.div_lt_of_lt_mul (by
      have h := lt_of_L_len (Nat.le_refl (L b).length)
      refine Nat.lt_of_lt_of_le h ?_
      rw [show (100000000 : Nat) = 10000 ^ 2 from rfl, ← Nat.pow_add]
      exact Nat.pow_le_pow_right (by decide) (by omega))
    obtain ⟨M, hM⟩ : ∃ M, b / 10000 ^ 0 = M := ⟨_, rfl⟩
    rw [hM] at hbP
    have HM := hide hM
    clear hM hPf
    go_enter Tryz.func106, Tryz.ntmps106
    go_wp2
    go_loopw [7, 8, 9] (fun tt rr _ wr => ∃ (t r : Nat) (ro : Option Addr) (rc : Nat), tt = .int .i64 t ∧ rr = .slice ro (L r).length rc ∧ a = t * b + r ∧ Own B wr (.slice ro (L r).length rc) (L r) ∧ Below w.heap.size w wr) (fun tt _ _ _ => 10000 - (intOf tt).toNat)
    case atStart => exact ⟨0, a, ao, cap, rfl, rfl, by omega, unhide U, Below.refl _ _⟩
    case round =>
      obtain ⟨t, r, ro, rc, rfl, rfl, hI, hown, hbel⟩ := hrel
      have ht : t < 10000 := goes_lt (unhide HAB) hI
      have hrb : r < 10000 * b := by have := unhide HAB; omega
      have HI := hide hI
      clear hI
      have C := hide (against_any wr _ _ r b hown.reads ((unhide V).later hbel))
      go_wp2_with fail
      refine (unhide C).mono ?_
      rintro e w1 ⟨rfl, b1'⟩
      have B1 := hbel.trans (b1'.mono hbel.size)
      have own1 := hown.later b1'
      have V1 := hide ((unhide V).later B1)
      clear C b1' hown hbel
      by_cases hc : b ≤ r
      · have hcz : decide (0 ≤ cmpZ (r : Int) (b : Int)) = true := by
          rw [decide_eq_true_eq]
          rcases Nat.lt_or_eq_of_le hc with h | h
          · rw [cmpZ_gt (Int.ofNat_lt.2 h)]; decide
          · rw [cmpZ_eq (by rw [h])]; decide
        generalize cmpZ (r : Int) (b : Int) = cz at *
        have hlenr : (L r).length ≤ (L b).length + 1 := L_len_le (by
          have h := lt_of_L_len (Nat.le_refl (L b).length)
          rw [Nat.pow_succ]
          omega)
        have CA := hide (above_any w1 _ (L r) 0 own1.reads (L_lim r) (by omega))
        rw [val_drop_L] at CA
        have CM := hide (above_any w1 _ (L b) 0 (unhide V1) (L_lim b) (by omega))
        rw [val_drop_L, unhide HM] at CM
        have hRP : r / 10000 ^ 0 < 1000000000000 := Nat.div_lt_of_lt_mul (by
          have h := lt_of_L_len (Nat.le_refl (L r).length)
          refine Nat.lt_of_lt_of_le h ?_
          rw [show (1000000000000 : Nat) = 10000 ^ 3 from rfl, ← Nat.pow_add]
          exact Nat.pow_le_pow_right (by decide) (by omega))
        have hG := guess_ok (Nat.pow_pos (n := 0) (show 0 < 10000 by decide)) hc
        rw [unhide HM] at hG
        generalize r / 10000 ^ 0 = Q at *
        obtain ⟨G, hGe⟩ : ∃ G, Q / (M + 1) = G := ⟨_, rfl⟩
        rw [hGe] at hG
        have hGi : (Q : Int) / ((M : Int) + 1) = G := by rw [← hGe]; simp
        have hGb : G < 1000000000000 := by rw [← hGe]; exact Nat.lt_of_le_of_lt (Nat.div_le_self _ _) hRP
        have HG := hide hG
        clear hGe hG
        go_wp2_with fail
        refine (unhide CA).mono ?_
        rintro e w2 ⟨rfl, rfl⟩
        go_wp2_with fail
        refine (unhide CM).mono ?_
        rintro e w3 ⟨rfl, rfl⟩
        clear CA CM hcz
        by_cases hg : 1 < G
        · have hgm : max 1 G = G := Nat.max_eq_right (by omega)
          rw [hgm] at HG
          have hGr := unhide HG
          have hgv : G < 10000 := Nat.lt_of_mul_lt_mul_right (Nat.lt_of_le_of_lt hGr hrb)
          have HGr := hide hGr
          clear hgm HG hGr
          have hlit : Reads (w3.alloc (.cells #[.int .i64 ((G : Nat) : Int)] 3)) (.slice (some ⟨w3.heap.size, 0, none⟩) 1 1) (L G) := by
            rw [L_small (by omega) hgv]
            exact (own_one w3 _ (B := 0) (Nat.zero_le _)).reads
          have bA : Below w3.heap.size w3 (w3.alloc (.cells #[.int .i64 ((G : Nat) : Int)] 3)) := (Below.refl _ _).alloc (Nat.le_refl _) _
          have hb100 : b < 10000 ^ 100 := Nat.lt_of_lt_of_le (unhide HB) (Nat.pow_le_pow_right (by decide) (by decide))
          have hg100 : G < 10000 ^ 100 := Nat.lt_of_lt_of_le (show G < 10000 ^ 1 by omega) (Nat.pow_le_pow_right (by decide) (by decide))
          have hr200 : r < 10000 ^ 200 := by
            have h1 : 10000 * b < 10000 ^ 100 := by rw [show (100 : Nat) = 99 + 1 from rfl, Nat.pow_succ, Nat.mul_comm]; exact Nat.mul_lt_mul_of_pos_right (unhide HB) (by decide)
            exact Nat.lt_trans hrb (Nat.lt_of_lt_of_le h1 (Nat.pow_le_pow_right (by decide) (by decide)))
          have C5 := hide (times_any _ _ _ b G ((unhide V1).later bA) hlit hb100 hg100)
          have HR2 := hide hr200
          clear hlit hb100 hg100 hr200
          go_wp2_with fail
          refine (unhide C5).mono ?_
          rintro e w4 ⟨ao4, c4, rfl, o4, b4'⟩
          have bw4 := bA.trans (b4'.mono bA.size)
          have hle4 : b * G ≤ r := by rw [Nat.mul_comm]; exact unhide HGr
          have C6 := hide (minus_any w4 _ _ r (b * G) (own1.later bw4).reads o4.reads (unhide HR2) hle4)
          have HL4 := hide hle4
          clear C5 b4' bA o4 hle4
          go_wp2_with fail
          refine (unhide C6).mono ?_
          rintro e w5 ⟨ao5, c5, rfl, o5, b5'⟩
          have bw5 := bw4.trans (b5'.mono bw4.size)
          have hB4 : B ≤ w4.heap.size := by have := bw4.size; have := B1.size; omega
          clear C6 b5' bw4
          go_wp2
          go_roundw
          case rel =>
            refine ⟨t + G, r - b * G, ao5, c5, by simp, rfl, ?_, o5.mono hB4, B1.trans (bw5.mono B1.size)⟩
            have h1 := unhide HI
            have h2 := unhide HL4
            rw [Nat.add_mul, Nat.mul_comm G b]
            omega
          case measure => simp only [intOf]; omega
        · have hgm : max 1 G = 1 := Nat.max_eq_left (by omega)
          rw [hgm] at HG
          have hGr := unhide HG
          have hgv : 1 < 10000 := Nat.lt_of_mul_lt_mul_right (Nat.lt_of_le_of_lt hGr hrb)
          have HGr := hide hGr
          clear hgm HG hGr
          have hlit : Reads (w3.alloc (.cells #[.int .i64 ((1 : Nat) : Int)] 3)) (.slice (some ⟨w3.heap.size, 0, none⟩) 1 1) (L 1) := by
            rw [L_small (by omega) hgv]
            exact (own_one w3 _ (B := 0) (Nat.zero_le _)).reads
          have bA : Below w3.heap.size w3 (w3.alloc (.cells #[.int .i64 ((1 : Nat) : Int)] 3)) := (Below.refl _ _).alloc (Nat.le_refl _) _
          have hb100 : b < 10000 ^ 100 := Nat.lt_of_lt_of_le (unhide HB) (Nat.pow_le_pow_right (by decide) (by decide))
          have hg100 : 1 < 10000 ^ 100 := Nat.lt_of_lt_of_le (show 1 < 10000 ^ 1 by omega) (Nat.pow_le_pow_right (by decide) (by decide))
          have hr200 : r < 10000 ^ 200 := by
            have h1 : 10000 * b < 10000 ^ 100 := by rw [show (100 : Nat) = 99 + 1 from rfl, Nat.pow_succ, Nat.mul_comm]; exact Nat.mul_lt_mul_of_pos_right (unhide HB) (by decide)
            exact Nat.lt_trans hrb (Nat.lt_of_lt_of_le h1 (Nat.pow_le_pow_right (by decide) (by decide)))
          have C5 := hide (times_any _ _ _ b 1 ((unhide V1).later bA) hlit hb100 hg100)
          rw [Nat.mul_one] at C5
          have HR2 := hide hr200
          clear hlit hb100 hg100 hr200
          go_wp2_with fail
          refine (unhide C5).mono ?_
          rintro e w4 ⟨ao4, c4, rfl, o4, b4'⟩
          have bw4 := bA.trans (b4'.mono bA.size)
          have hle4 : b ≤ r := hc
          have C6 := hide (minus_any w4 _ _ r b (own1.later bw4).reads o4.reads (unhide HR2) hle4)
          have HL4 := hide hle4
          clear C5 b4' bA o4 hle4
          go_wp2_with fail
          refine (unhide C6).mono ?_
          rintro e w5 ⟨ao5, c5, rfl, o5, b5'⟩
          have bw5 := bw4.trans (b5'.mono bw4.size)
          have hB4 : B ≤ w4.heap.size := by have := bw4.size; have := B1.size; omega
          clear C6 b5' bw4
          go_wp2
          go_roundw
          case rel =>
            refine ⟨t + 1, r - b, ao5, c5, by simp, rfl, ?_, o5.mono hB4, B1.trans (bw5.mono B1.size)⟩
            have h1 := unhide HI
            have h2 := unhide HL4
            rw [Nat.add_mul, Nat.one_mul]
            omega
          case measure => simp only [intOf]; omega
      · have hcz : decide (0 ≤ cmpZ (r : Int) (b : Int)) = false := by
          rw [decide_eq_false_iff_not, cmpZ_lt (Int.ofNat_lt.2 (Nat.lt_of_not_le hc))]
          decide
        generalize cmpZ (r : Int) (b : Int) = cz at *
        have e1 : t = a / b := by
          have h := unhide HI
          rw [h, Nat.mul_comm, Nat.mul_add_div hb0, Nat.div_eq_of_lt (Nat.lt_of_not_le hc)]
          rfl
        have e2 : r = a % b := by
          have h := unhide HI
          rw [h, Nat.mul_comm, Nat.mul_add_mod, Nat.mod_eq_of_lt (Nat.lt_of_not_le hc)]
        have E1 := hide e1
        have E2 := hide e2
        clear e1 e2 hc
        go_wp2
        refine bodyPost_ret (v := .tuple #[.int .i64 (t : Int), .slice ro (L r).length rc]) (by simp [results, Tryz.results106, go_sem]) rfl ?_
        rw [← unhide E1, ← unhide E2]
        exact ⟨ro, rc, rfl, own1, B1⟩

end Go.Proofs.YthnkmjkgcnhlfaaGreatDoor
