/- Texts of days are in the order of the days. Plain mathematics. -/
import Derived.Test.YtnfalniijmccjaaDoorDyW
import Derived.Test.YtnfalniijmccjaaDoorLexM
namespace Go.Proofs.YtnfalniijmccjaaDoor
open Go.RowKit

theorem fb_lt {a b : Nat} (ha : a < 10) (hb : b < 10) : decide (fb a < fb b) = decide (a < b) := by
  rw [decide_eq_decide, UInt8.lt_iff_toNat_lt, fb_nat ha, fb_nat hb]
  omega

theorem fb_eq {a b : Nat} (ha : a < 10) (hb : b < 10) : (fb a == fb b) = decide (a = b) := by
  rw [Bool.eq_iff_iff, beq_iff_eq, decide_eq_true_iff]
  constructor
  · intro h
    have := congrArg UInt8.toNat h
    rw [fb_nat ha, fb_nat hb] at this
    omega
  · intro h
    rw [h]

theorem less2 {m k : Nat} (hm : m < 100) (hk : k < 100) (x y : List UInt8) : Op.bytesLess (fb (m / 10) :: fb (m % 10) :: x) (fb (k / 10) :: fb (k % 10) :: y) = (decide (m < k) || (decide (m = k) && Op.bytesLess x y)) := by
  rw [less_cons, less_cons, fb_lt (by omega) (by omega), fb_eq (by omega) (by omega), fb_lt (by omega) (by omega), fb_eq (by omega) (by omega)]
  generalize Op.bytesLess x y = B
  rw [Bool.eq_iff_iff]
  cases B <;> simp <;> omega

theorem less4 {m k : Nat} (hm : m < 10000) (hk : k < 10000) (x y : List UInt8) :
    Op.bytesLess (fb (m / 1000) :: fb (m / 100 % 10) :: fb (m / 10 % 10) :: fb (m % 10) :: x) (fb (k / 1000) :: fb (k / 100 % 10) :: fb (k / 10 % 10) :: fb (k % 10) :: y) = (decide (m < k) || (decide (m = k) && Op.bytesLess x y)) := by
  rw [less_cons, less_cons, less_cons, less_cons, fb_lt (by omega) (by omega), fb_eq (by omega) (by omega), fb_lt (by omega) (by omega), fb_eq (by omega) (by omega), fb_lt (by omega) (by omega), fb_eq (by omega) (by omega), fb_lt (by omega) (by omega), fb_eq (by omega) (by omega)]
  generalize Op.bytesLess x y = B
  rw [Bool.eq_iff_iff]
  cases B <;> simp <;> omega

theorem less_same (c : UInt8) (x y : List UInt8) : Op.bytesLess (c :: x) (c :: y) = Op.bytesLess x y := by
  rw [less_cons]
  have : ¬ c < c := by rw [UInt8.lt_iff_toNat_lt]; omega
  simp [this]

theorem day_order {n k : Int} (hn : IsDay n) (hk : IsDay k) : n < k ↔ moN n < moN k ∨ (moN n = moN k ∧ dyN n < dyN k) := by
  have a1 := moN_ahead hn.1 hn.2
  have a2 := moN_next hn.1 hn.2
  have b1 := moN_ahead hk.1 hk.2
  have b2 := moN_next hk.1 hk.2
  unfold dyN
  rcases Nat.lt_trichotomy (moN n) (moN k) with h | h | h
  · have := ahead_le (show moN n + 1 ≤ moN k by omega)
    constructor
    · intro _; exact .inl h
    · intro _; omega
  · rw [h] at *
    constructor
    · intro c; exact .inr ⟨rfl, by omega⟩
    · rintro (c | ⟨-, c⟩) <;> omega
  · have := ahead_le (show moN k + 1 ≤ moN n by omega)
    constructor
    · intro c; omega
    · rintro (c | ⟨c, -⟩) <;> omega

theorem day_less {n k : Int} (hn : IsDay n) (hk : IsDay k) : Op.bytesLess (dayT n).toList (dayT k).toList = decide (n < k) := by
  have hY := moN_lt hn.1 hn.2
  have hD := dyN_bounds hn.1 hn.2
  have hL := lastM_bounds (moN n)
  have kY := moN_lt hk.1 hk.2
  have kD := dyN_bounds hk.1 hk.2
  have kL := lastM_bounds (moN k)
  rw [ByteArray.toList_eq, ByteArray.toList_eq, dayT_list hn, dayT_list hk]
  simp only
  rw [less4 (by omega) (by omega), less_same, less2 (by omega) (by omega), less_same, less2 (by omega) (by omega), less_nil, Bool.and_false, Bool.or_false, Bool.eq_iff_iff, decide_eq_true_iff, day_order hn hk]
  simp only [Bool.or_eq_true, Bool.and_eq_true, decide_eq_true_eq]
  omega

end Go.Proofs.YtnfalniijmccjaaDoor
