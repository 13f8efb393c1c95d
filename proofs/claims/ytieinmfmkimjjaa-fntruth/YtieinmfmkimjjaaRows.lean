/-
  No cell of these rows narrows 'for every input' (looked for: loops, veiled, ifaces, maps, wideKeys, modest, calm, conditions, laid).
  DERIVED. THE GIVEN ROWS OF THIS SEAT. 8 by the template 'for every input the law returns true; each argument reads behind the call as it read before'; 0 by the template 'total and deterministic' (their statements: YtieinmfmkimjjaaTotals.lean).
  GIVEN WITH THE SEED: the statements are not yours to turn. If you find one false, say at which input.
  Laid BY PROGRAM, IN A SANDBOX (cutbox-rows.mjs): the forced cells as the released guide's own fill.sh prints them over the translation e6a5efe58268f6c1… (all of the seat's roots in one cut). By AI agents, Wed Nov 11 2026. No macro, syntax, notation, axiom, sorry.
-/
import Derived.Test.YtieinmfmkimjjaaChecked
import GoSem.Claim
import GoSem.ClaimJoined
import GoSem.ClaimMapViews
import Derived.JoinedTies
import Derived.KernelRfl
namespace Go.Proofs.Ytieinmfmkimjjaa
/- THE CELL 'sum', in the pinned program and in every row, IS THE sha256 OF THE DUMP (.gsa) THAT YtieinmfmkimjjaaProg.lean LOADS. Nothing in Lean hashes anything: it is a label: what it is worth is what the hold of that sum in a sandbox is worth. -/
noncomputable def Try.pinned : Pinned := { name := "ytieinmfmkimjjaa", sum := "e6a5efe58268f6c1cbbbaa8cf90d063a19bb573ec0196545d1edac405ee40b14", checked := Try.checked }
namespace Rows
def none {H : Type} : Left H := { results := [], args := [] }

/-- 'laws.FnDayParts': WHATEVER THE INPUT: true; the input reads as it did. -/
def fnDayPartsSpec : ChangeSpec := { name := "fnDayParts", fn := fun _ => fun
  | [d1, d2] => { results := [.lit (.bool true)], args := [d1, d2] }
  | _ => none }
def fnDayPartsRow : OpenClaim := { program := "ytieinmfmkimjjaa", sum := "e6a5efe58268f6c1cbbbaa8cf90d063a19bb573ec0196545d1edac405ee40b14", func := "loop.example/jetton/laws.FnDayParts", spec := "fnDayParts", apart := false }
def FnDayPartsSaid : Prop := fnDayPartsRow.holds Try.pinned (OpenSpec.ofChange fnDayPartsSpec)

/-- ITS FALSE NEIGHBOUR: 'it returns false'. Refute it at one input. -/
def fnDayPartsWrong : ChangeSpec := { name := "fnDayParts", fn := fun _ => fun
  | [d1, d2] => { results := [.lit (.bool false)], args := [d1, d2] }
  | _ => none }
def FnDayPartsWrongFalsely : Prop := fnDayPartsRow.holds Try.pinned (OpenSpec.ofChange fnDayPartsWrong)

/-- 'laws.FnDayNext': WHATEVER THE INPUT: true; the input reads as it did. -/
def fnDayNextSpec : ChangeSpec := { name := "fnDayNext", fn := fun _ => fun
  | [d] => { results := [.lit (.bool true)], args := [d] }
  | _ => none }
def fnDayNextRow : OpenClaim := { program := "ytieinmfmkimjjaa", sum := "e6a5efe58268f6c1cbbbaa8cf90d063a19bb573ec0196545d1edac405ee40b14", func := "loop.example/jetton/laws.FnDayNext", spec := "fnDayNext", apart := false }
def FnDayNextSaid : Prop := fnDayNextRow.holds Try.pinned (OpenSpec.ofChange fnDayNextSpec)

/-- ITS FALSE NEIGHBOUR: 'it returns false'. Refute it at one input. -/
def fnDayNextWrong : ChangeSpec := { name := "fnDayNext", fn := fun _ => fun
  | [d] => { results := [.lit (.bool false)], args := [d] }
  | _ => none }
def FnDayNextWrongFalsely : Prop := fnDayNextRow.holds Try.pinned (OpenSpec.ofChange fnDayNextWrong)

/-- 'laws.FnDayYear': WHATEVER THE INPUT: true; the input reads as it did. -/
def fnDayYearSpec : ChangeSpec := { name := "fnDayYear", fn := fun _ => fun
  | [d] => { results := [.lit (.bool true)], args := [d] }
  | _ => none }
def fnDayYearRow : OpenClaim := { program := "ytieinmfmkimjjaa", sum := "e6a5efe58268f6c1cbbbaa8cf90d063a19bb573ec0196545d1edac405ee40b14", func := "loop.example/jetton/laws.FnDayYear", spec := "fnDayYear", apart := false }
def FnDayYearSaid : Prop := fnDayYearRow.holds Try.pinned (OpenSpec.ofChange fnDayYearSpec)

/-- ITS FALSE NEIGHBOUR: 'it returns false'. Refute it at one input. -/
def fnDayYearWrong : ChangeSpec := { name := "fnDayYear", fn := fun _ => fun
  | [d] => { results := [.lit (.bool false)], args := [d] }
  | _ => none }
def FnDayYearWrongFalsely : Prop := fnDayYearRow.holds Try.pinned (OpenSpec.ofChange fnDayYearWrong)

/-- 'laws.FnDayAdd': WHATEVER THE INPUT: true; the input reads as it did. -/
def fnDayAddSpec : ChangeSpec := { name := "fnDayAdd", fn := fun _ => fun
  | [d] => { results := [.lit (.bool true)], args := [d] }
  | _ => none }
def fnDayAddRow : OpenClaim := { program := "ytieinmfmkimjjaa", sum := "e6a5efe58268f6c1cbbbaa8cf90d063a19bb573ec0196545d1edac405ee40b14", func := "loop.example/jetton/laws.FnDayAdd", spec := "fnDayAdd", apart := false }
def FnDayAddSaid : Prop := fnDayAddRow.holds Try.pinned (OpenSpec.ofChange fnDayAddSpec)

/-- ITS FALSE NEIGHBOUR: 'it returns false'. Refute it at one input. -/
def fnDayAddWrong : ChangeSpec := { name := "fnDayAdd", fn := fun _ => fun
  | [d] => { results := [.lit (.bool false)], args := [d] }
  | _ => none }
def FnDayAddWrongFalsely : Prop := fnDayAddRow.holds Try.pinned (OpenSpec.ofChange fnDayAddWrong)

/-- 'laws.FnDayBack': WHATEVER THE INPUT: true; the input reads as it did. -/
def fnDayBackSpec : ChangeSpec := { name := "fnDayBack", fn := fun _ => fun
  | [d] => { results := [.lit (.bool true)], args := [d] }
  | _ => none }
def fnDayBackRow : OpenClaim := { program := "ytieinmfmkimjjaa", sum := "e6a5efe58268f6c1cbbbaa8cf90d063a19bb573ec0196545d1edac405ee40b14", func := "loop.example/jetton/laws.FnDayBack", spec := "fnDayBack", apart := false }
def FnDayBackSaid : Prop := fnDayBackRow.holds Try.pinned (OpenSpec.ofChange fnDayBackSpec)

/-- ITS FALSE NEIGHBOUR: 'it returns false'. Refute it at one input. -/
def fnDayBackWrong : ChangeSpec := { name := "fnDayBack", fn := fun _ => fun
  | [d] => { results := [.lit (.bool false)], args := [d] }
  | _ => none }
def FnDayBackWrongFalsely : Prop := fnDayBackRow.holds Try.pinned (OpenSpec.ofChange fnDayBackWrong)

/-- 'laws.FnDayUntil': WHATEVER THE INPUT: true; the input reads as it did. -/
def fnDayUntilSpec : ChangeSpec := { name := "fnDayUntil", fn := fun _ => fun
  | [d] => { results := [.lit (.bool true)], args := [d] }
  | _ => none }
def fnDayUntilRow : OpenClaim := { program := "ytieinmfmkimjjaa", sum := "e6a5efe58268f6c1cbbbaa8cf90d063a19bb573ec0196545d1edac405ee40b14", func := "loop.example/jetton/laws.FnDayUntil", spec := "fnDayUntil", apart := false }
def FnDayUntilSaid : Prop := fnDayUntilRow.holds Try.pinned (OpenSpec.ofChange fnDayUntilSpec)

/-- ITS FALSE NEIGHBOUR: 'it returns false'. Refute it at one input. -/
def fnDayUntilWrong : ChangeSpec := { name := "fnDayUntil", fn := fun _ => fun
  | [d] => { results := [.lit (.bool false)], args := [d] }
  | _ => none }
def FnDayUntilWrongFalsely : Prop := fnDayUntilRow.holds Try.pinned (OpenSpec.ofChange fnDayUntilWrong)

/-- 'laws.FnTruth': WHATEVER THE INPUT: true; the input reads as it did. -/
def fnTruthSpec : ChangeSpec := { name := "fnTruth", fn := fun _ => fun
  | [d] => { results := [.lit (.bool true)], args := [d] }
  | _ => none }
def fnTruthRow : OpenClaim := { program := "ytieinmfmkimjjaa", sum := "e6a5efe58268f6c1cbbbaa8cf90d063a19bb573ec0196545d1edac405ee40b14", func := "loop.example/jetton/laws.FnTruth", spec := "fnTruth", apart := false }
def FnTruthSaid : Prop := fnTruthRow.holds Try.pinned (OpenSpec.ofChange fnTruthSpec)

/-- ITS FALSE NEIGHBOUR: 'it returns false'. Refute it at one input. -/
def fnTruthWrong : ChangeSpec := { name := "fnTruth", fn := fun _ => fun
  | [d] => { results := [.lit (.bool false)], args := [d] }
  | _ => none }
def FnTruthWrongFalsely : Prop := fnTruthRow.holds Try.pinned (OpenSpec.ofChange fnTruthWrong)

/-- 'laws.FnTruthThree': WHATEVER THE INPUT: true; the input reads as it did. -/
def fnTruthThreeSpec : ChangeSpec := { name := "fnTruthThree", fn := fun _ => fun
  | [d1, d2] => { results := [.lit (.bool true)], args := [d1, d2] }
  | _ => none }
def fnTruthThreeRow : OpenClaim := { program := "ytieinmfmkimjjaa", sum := "e6a5efe58268f6c1cbbbaa8cf90d063a19bb573ec0196545d1edac405ee40b14", func := "loop.example/jetton/laws.FnTruthThree", spec := "fnTruthThree", apart := false }
def FnTruthThreeSaid : Prop := fnTruthThreeRow.holds Try.pinned (OpenSpec.ofChange fnTruthThreeSpec)

/-- ITS FALSE NEIGHBOUR: 'it returns false'. Refute it at one input. -/
def fnTruthThreeWrong : ChangeSpec := { name := "fnTruthThree", fn := fun _ => fun
  | [d1, d2] => { results := [.lit (.bool false)], args := [d1, d2] }
  | _ => none }
def FnTruthThreeWrongFalsely : Prop := fnTruthThreeRow.holds Try.pinned (OpenSpec.ofChange fnTruthThreeWrong)

/- THE SECOND FORM. 'bulk': how many values and letters a reading holds, each counted each time it is reached (what is shared counts as often as it is met; a slice's spare places count too). A statement '..UptoSaid' is the law's where the arguments, and the package variables that the reading takes, are together of bulk at most 1048576: NARROWER than '..Said'. Prove '..Said' where nothing that the law and all that it calls make is longer than what came in: it says more and counts as full. Else prove '..UptoSaid'. A law counts once. -/
mutual
def uptoBulk {H : Type} : DataW H → Nat
  | .lit (.string bytes) => bytes.length + 1
  | .lit _ => 1
  | .nil => 1
  | .ptr d => uptoBulk d + 1
  | .slice elems spare => uptoBulkAll elems + uptoBulkAll spare + 1
  | .agg parts => uptoBulkAll parts + 1
  | .iface _ d => uptoBulk d + 1
  | .map entries => uptoBulkEntries entries + 1
  | .held _ => 1
def uptoBulkAll {H : Type} : List (DataW H) → Nat
  | [] => 0
  | d :: r => uptoBulk d + uptoBulkAll r
def uptoBulkEntries {H : Type} : List (Lit × DataW H) → Nat
  | [] => 0
  | x :: r => uptoBulkEntry x + uptoBulkEntries r
def uptoBulkEntry {H : Type} : Lit × DataW H → Nat
  | (.string bytes, d) => bytes.length + uptoBulk d + 1
  | (_, d) => uptoBulk d + 1
 end
def uptoSmall : (H : Type) → List (DataW H) → Bool := fun _ ds => decide (uptoBulkAll ds ≤ 1048576)
def OpenSpec.upto (s : _root_.Go.ChangeSpec) : _root_.Go.OpenSpec := { _root_.Go.OpenSpec.ofChange s with cond := some uptoSmall }

/-- 'laws.FnDayParts', WHERE WHAT IT READS IS OF BULK AT MOST 1048576: true; the input reads as it did. -/
def fnDayPartsUptoRow : OpenClaim := { program := "ytieinmfmkimjjaa", sum := "e6a5efe58268f6c1cbbbaa8cf90d063a19bb573ec0196545d1edac405ee40b14", func := "loop.example/jetton/laws.FnDayParts", spec := "fnDayParts", apart := false, narrowed := true }
def FnDayPartsUptoSaid : Prop := fnDayPartsUptoRow.holds Try.pinned (OpenSpec.upto fnDayPartsSpec)

/-- 'laws.FnDayNext', WHERE WHAT IT READS IS OF BULK AT MOST 1048576: true; the input reads as it did. -/
def fnDayNextUptoRow : OpenClaim := { program := "ytieinmfmkimjjaa", sum := "e6a5efe58268f6c1cbbbaa8cf90d063a19bb573ec0196545d1edac405ee40b14", func := "loop.example/jetton/laws.FnDayNext", spec := "fnDayNext", apart := false, narrowed := true }
def FnDayNextUptoSaid : Prop := fnDayNextUptoRow.holds Try.pinned (OpenSpec.upto fnDayNextSpec)

/-- 'laws.FnDayYear', WHERE WHAT IT READS IS OF BULK AT MOST 1048576: true; the input reads as it did. -/
def fnDayYearUptoRow : OpenClaim := { program := "ytieinmfmkimjjaa", sum := "e6a5efe58268f6c1cbbbaa8cf90d063a19bb573ec0196545d1edac405ee40b14", func := "loop.example/jetton/laws.FnDayYear", spec := "fnDayYear", apart := false, narrowed := true }
def FnDayYearUptoSaid : Prop := fnDayYearUptoRow.holds Try.pinned (OpenSpec.upto fnDayYearSpec)

/-- 'laws.FnDayAdd', WHERE WHAT IT READS IS OF BULK AT MOST 1048576: true; the input reads as it did. -/
def fnDayAddUptoRow : OpenClaim := { program := "ytieinmfmkimjjaa", sum := "e6a5efe58268f6c1cbbbaa8cf90d063a19bb573ec0196545d1edac405ee40b14", func := "loop.example/jetton/laws.FnDayAdd", spec := "fnDayAdd", apart := false, narrowed := true }
def FnDayAddUptoSaid : Prop := fnDayAddUptoRow.holds Try.pinned (OpenSpec.upto fnDayAddSpec)

/-- 'laws.FnDayBack', WHERE WHAT IT READS IS OF BULK AT MOST 1048576: true; the input reads as it did. -/
def fnDayBackUptoRow : OpenClaim := { program := "ytieinmfmkimjjaa", sum := "e6a5efe58268f6c1cbbbaa8cf90d063a19bb573ec0196545d1edac405ee40b14", func := "loop.example/jetton/laws.FnDayBack", spec := "fnDayBack", apart := false, narrowed := true }
def FnDayBackUptoSaid : Prop := fnDayBackUptoRow.holds Try.pinned (OpenSpec.upto fnDayBackSpec)

/-- 'laws.FnDayUntil', WHERE WHAT IT READS IS OF BULK AT MOST 1048576: true; the input reads as it did. -/
def fnDayUntilUptoRow : OpenClaim := { program := "ytieinmfmkimjjaa", sum := "e6a5efe58268f6c1cbbbaa8cf90d063a19bb573ec0196545d1edac405ee40b14", func := "loop.example/jetton/laws.FnDayUntil", spec := "fnDayUntil", apart := false, narrowed := true }
def FnDayUntilUptoSaid : Prop := fnDayUntilUptoRow.holds Try.pinned (OpenSpec.upto fnDayUntilSpec)

/-- 'laws.FnTruth', WHERE WHAT IT READS IS OF BULK AT MOST 1048576: true; the input reads as it did. -/
def fnTruthUptoRow : OpenClaim := { program := "ytieinmfmkimjjaa", sum := "e6a5efe58268f6c1cbbbaa8cf90d063a19bb573ec0196545d1edac405ee40b14", func := "loop.example/jetton/laws.FnTruth", spec := "fnTruth", apart := false, narrowed := true }
def FnTruthUptoSaid : Prop := fnTruthUptoRow.holds Try.pinned (OpenSpec.upto fnTruthSpec)

/-- 'laws.FnTruthThree', WHERE WHAT IT READS IS OF BULK AT MOST 1048576: true; the input reads as it did. -/
def fnTruthThreeUptoRow : OpenClaim := { program := "ytieinmfmkimjjaa", sum := "e6a5efe58268f6c1cbbbaa8cf90d063a19bb573ec0196545d1edac405ee40b14", func := "loop.example/jetton/laws.FnTruthThree", spec := "fnTruthThree", apart := false, narrowed := true }
def FnTruthThreeUptoSaid : Prop := fnTruthThreeUptoRow.holds Try.pinned (OpenSpec.upto fnTruthThreeSpec)

end Rows
end Go.Proofs.Ytieinmfmkimjjaa
