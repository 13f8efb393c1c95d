/- A text many times: l1Many by a contract. -/
import Derived.Test.YtomcgnkmlmiijaaDoorGa
import Derived.WalkLawsBesides
import Derived.Deep.QuietTactic
import Derived.BigQuiet
import Derived.WalkSmall
namespace Go.Proofs.YtomcgnkmlmiijaaDoor
open Go.RowKit



theorem l1Many_any (w : World) (s : ByteArray) (n : Nat) (hn : n ≤ 1000) (hs : s.size = 1) :
    Calls Tryd.prog 31 #[.string s, .int .i64 n] w fun e w' => ∃ t : ByteArray, e = .returned (.string t) ∧ t.data.toList = (List.replicate n s.data.toList).flatten ∧ w' = w := by
  go_enter Tryd.func31, Tryd.ntmps31
  go_wp2
  go_loopw [1, 5] (fun nn ss wr => ∃ (k : Nat) (t : ByteArray), k ≤ n ∧ nn = .int .i64 ((n - k : Nat) : Int) ∧ ss = .string t ∧ t.data.toList = (List.replicate k s.data.toList).flatten ∧ t.size = k ∧ wr = w) (fun nn _ _ => (intOf nn).toNat)
  case atStart => exact ⟨0, _, by omega, rfl, rfl, rfl, rfl, rfl⟩
  case round =>
    obtain ⟨k, t, hk, rfl, rfl, ht, hts, rfl⟩ := hrel
    have HT := hide ht
    have HS := hide hts
    have HSZ := hide hs
    have hs1 : t.size ≤ 1000 := by omega
    have hs2 : s.size ≤ 1 := by omega
    clear ht hts hs
    by_cases h : k < n
    · go_wp2
      go_roundw
      case rel =>
        refine ⟨k + 1, _, by omega, by congr 1; omega, rfl, ?_, ?_, trivial⟩
        · rw [ByteArray.data_append, Array.toList_append, unhide HT, List.replicate_succ', List.flatten_append]
          simp
        · rw [ByteArray.size_append, unhide HS, unhide HSZ]
      case measure => simp only [intOf]; omega
    · have e : k = n := by omega
      have HE := hide e
      clear e
      go_wp2
      go_ret
      exact ⟨t, rfl, by rw [unhide HT, unhide HE], rfl⟩

end Go.Proofs.YtomcgnkmlmiijaaDoor
