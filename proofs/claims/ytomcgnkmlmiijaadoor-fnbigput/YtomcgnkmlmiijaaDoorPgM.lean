/- Numbers written and read back: plain mathematics. -/
import Derived.Test.YtomcgnkmlmiijaaDoorPgD
import Derived.Test.YtomcgnkmlmiijaaDoorGtB
import Derived.Test.YtomcgnkmlmiijaaDoorBgP
namespace Go.Proofs.YtomcgnkmlmiijaaDoor

theorem getZ_abs (s : ByteArray) : (getZ s).natAbs = num (dg (restB s)) := by
  unfold getZ zof
  split
  · exact (Int.natAbs_neg _).trans (Int.natAbs_natCast _)
  · exact Int.natAbs_natCast _

/-- What is read as a number is written just so. -/
theorem put_get {s : ByteArray} (h : getOk s = true) : bigT (sg (getZ s)) (L (getZ s).natAbs) = s := by
  have h2 := h
  unfold getOk at h
  simp only [Bool.and_eq_true, decide_eq_true_eq, Bool.not_eq_true'] at h
  obtain ⟨⟨hpl, h64⟩, hz⟩ := h
  have e1 : txtL (L (getZ s).natAbs) = (restB s).data.toList := by rw [getZ_abs, txt_dec, plain_dec hpl]
  apply WideShapes.bytes_inj
  unfold bigT
  rw [e1]
  cases hn : negB s with
  | false =>
    have e2 : sg (getZ s) = false := by unfold getZ zof sg; rw [hn, if_neg (by simp), decide_eq_false_iff_not]; omega
    rw [e2]
    have e3 : restB s = s := by unfold restB; rw [hn, if_neg (by simp)]
    rw [e3]
    simp [sgT]
  | true =>
    have hpos : 0 < num (dg (restB s)) := by
      rcases Nat.eq_zero_or_pos (num (dg (restB s))) with k | k
      · have hd := plain_dec hpl
        rw [k, dd1 (by omega)] at hd
        rw [hn, Bool.true_and, ByteArray.toList_eq, ← hd] at hz
        simp at hz
      · exact k
    have e2 : sg (getZ s) = true := by unfold getZ zof sg; rw [hn, if_pos rfl, decide_eq_true_iff]; omega
    rw [e2, rest_cons hn]
    simp [sgT]

end Go.Proofs.YtomcgnkmlmiijaaDoor
