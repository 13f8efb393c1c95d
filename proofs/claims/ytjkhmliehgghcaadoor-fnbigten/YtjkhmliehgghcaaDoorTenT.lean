/- Powers of ten: their products, and how many figures they have. -/
import Derived.Test.YtjkhmliehgghcaaDoorTen
import Derived.Test.YtjkhmliehgghcaaDoorNumO
import Derived.Test.YtjkhmliehgghcaaDoorBigE0
import Derived.Test.YtjkhmliehgghcaaDoorBgP
namespace Go.Proofs.YtjkhmliehgghcaaDoor
open Go.RowKit
set_option maxRecDepth 100000

theorem ten_fit {n : Nat} : (L (10 ^ n)).length ≤ 16 ↔ n ≤ 63 := by
  rw [L_len_iff, show (10000 : Nat) ^ 16 = 10 ^ 64 by decide]
  constructor
  · intro h
    have := (Nat.pow_lt_pow_iff_right (by decide : 1 < 10)).1 h
    omega
  · intro h
    exact Nat.pow_lt_pow_right (by decide) (by omega)

theorem ten_ok {n : Nat} (h : n ≤ 63) : okB false (L (10 ^ n)) = true := by
  have := okB_z (a := ((10 ^ n : Nat) : Int)) (by rw [Int.natAbs_natCast]; exact ten_fit.2 h)
  rwa [Int.natAbs_natCast, sg_nat] at this
theorem ten_zv (n : Nat) : zv false (L (10 ^ n)) = ((10 ^ n : Nat) : Int) := by
  have := zv_z ((10 ^ n : Nat) : Int)
  rwa [Int.natAbs_natCast, sg_nat] at this

theorem tenMul_any (W : World) (u v : Value) (n k : Nat) (hn : n ≤ 63) (hk : k ≤ 63) (hu : Reads W u (L (10 ^ n))) (hv : Reads W v (L (10 ^ k))) :
    Calls Tryd.prog 13 #[.agg #[.bool false, u], .agg #[.bool false, v]] W (GivesBig2 W (tenR ((n + k : Nat) : Int))) := by
  have C := implBigMul_any W false false u v _ _ hu hv
  rw [ten_ok hn, ten_ok hk, ten_zv, ten_zv, ← Int.natCast_mul, ← Nat.pow_add, Bool.true_and] at C
  have e : tenR ((n + k : Nat) : Int) = outR true ((10 ^ (n + k) : Nat) : Int) := by
    unfold tenR
    by_cases h : n + k ≤ 63
    · rw [if_pos ⟨by omega, by omega⟩, ten_outR h, Int.toNat_natCast]
    · rw [if_neg (by omega)]
      unfold outR
      rw [if_neg (by rw [Int.natAbs_natCast]; exact fun e => h (ten_fit.1 e.2))]
  rw [e]
  exact C

theorem dd_ten {r : Nat} (h : r < 4) : (Lib.decDigits (10 ^ r)).length = r + 1 := by
  have : r = 0 ∨ r = 1 ∨ r = 2 ∨ r = 3 := by omega
  rcases this with rfl | rfl | rfl | rfl
  · rw [dd1 (by decide)]; rfl
  · rw [dd2 (by decide) (by decide)]; rfl
  · rw [dd3 (by decide) (by decide)]; rfl
  · rw [dd4' (by decide) (by decide)]; rfl

theorem txt_ten (n : Nat) : (txtL (L (10 ^ n))).length = n + 1 := by
  have e : L (10 ^ n) = List.replicate (n / 4) 0 ++ [((10 ^ (n % 4) : Nat) : Int)] := by
    have := L_ten (n / 4) (n % 4) (by omega)
    rwa [show 4 * (n / 4) + n % 4 = n by omega] at this
  rw [e]
  unfold txtL
  rw [if_neg (by simp)]
  unfold txtAt
  have h1 : (List.replicate (n / 4) (0 : Int) ++ [((10 ^ (n % 4) : Nat) : Int)]).getD ((List.replicate (n / 4) (0 : Int) ++ [((10 ^ (n % 4) : Nat) : Int)]).length - 1) 0 = ((10 ^ (n % 4) : Nat) : Int) := by
    simp [List.getD_eq_getElem?_getD]
  rw [h1, Int.toNat_natCast, List.length_append, dd_ten (by omega), List.drop_zero, List.reverse_append, List.reverse_singleton, List.singleton_append, List.tail_cons, List.reverse_replicate, flat_len _ (fun x hx => by rw [List.mem_replicate] at hx; omega), List.length_replicate]
  omega

theorem tenPut_any (W : World) (u : Value) (n : Nat) (hn : n ≤ 63) (hu : Reads W u (L (10 ^ n))) (ht : Tab W) :
    Calls Tryd.prog 14 #[.agg #[.bool false, u]] W fun e w' => (∃ t : ByteArray, e = .returned (.string t) ∧ t.size = n + 1) ∧ Below W.heap.size W w' := by
  refine (implBigPut_any W false u _ hu ht).mono ?_
  rintro e w' ⟨rfl, b⟩
  refine ⟨⟨_, rfl, ?_⟩, b⟩
  unfold putR
  rw [if_pos (ten_ok hn)]
  unfold bigT
  rw [bytes_size, List.length_append, txt_ten]
  simp [sgT]

end Go.Proofs.YtjkhmliehgghcaaDoor
