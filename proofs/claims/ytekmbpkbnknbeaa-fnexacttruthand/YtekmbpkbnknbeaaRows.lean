/-
  No cell of these rows narrows 'for every input' (looked for: loops, veiled, ifaces, maps, wideKeys, modest, calm, conditions, laid).
  DERIVED. THE GIVEN ROWS OF THIS SEAT. 12 by the template 'for every input the law returns true; each argument reads behind the call as it read before'; 0 by the template 'total and deterministic' (their statements: YtekmbpkbnknbeaaTotals.lean).
  GIVEN WITH THE SEED: the statements are not yours to turn. If you find one false, say at which input.
  Laid BY PROGRAM, IN A SANDBOX (cutbox-rows.mjs): the forced cells as the released guide's own fill.sh prints them over the translation 1615ea0597c6e7d6… (all of the seat's roots in one cut). By AI agents, Wed Nov 11 2026. No macro, syntax, notation, axiom, sorry.
-/
import Derived.Test.YtekmbpkbnknbeaaChecked
import GoSem.Claim
import GoSem.ClaimJoined
import GoSem.ClaimMapViews
import Derived.JoinedTies
import Derived.KernelRfl
namespace Go.Proofs.Ytekmbpkbnknbeaa
/- THE CELL 'sum', in the pinned program and in every row, IS THE sha256 OF THE DUMP (.gsa) THAT YtekmbpkbnknbeaaProg.lean LOADS. Nothing in Lean hashes anything: it is a label: what it is worth is what the hold of that sum in a sandbox is worth. -/
noncomputable def Try.pinned : Pinned := { name := "ytekmbpkbnknbeaa", sum := "1615ea0597c6e7d640123a76b6691e3fd6fad2a9a3425fab8587d9a07d4738e7", checked := Try.checked }
namespace Rows
def none {H : Type} : Left H := { results := [], args := [] }

/-- 'laws.FnExactDayOf': WHATEVER THE INPUT: true; the input reads as it did. -/
def fnExactDayOfSpec : ChangeSpec := { name := "fnExactDayOf", fn := fun _ => fun
  | [d1, d2, d3] => { results := [.lit (.bool true)], args := [d1, d2, d3] }
  | _ => none }
def fnExactDayOfRow : OpenClaim := { program := "ytekmbpkbnknbeaa", sum := "1615ea0597c6e7d640123a76b6691e3fd6fad2a9a3425fab8587d9a07d4738e7", func := "loop.example/jetton/laws.FnExactDayOf", spec := "fnExactDayOf", apart := false }
def FnExactDayOfSaid : Prop := fnExactDayOfRow.holds Try.pinned (OpenSpec.ofChange fnExactDayOfSpec)

/-- ITS FALSE NEIGHBOUR: 'it returns false'. Refute it at one input. -/
def fnExactDayOfWrong : ChangeSpec := { name := "fnExactDayOf", fn := fun _ => fun
  | [d1, d2, d3] => { results := [.lit (.bool false)], args := [d1, d2, d3] }
  | _ => none }
def FnExactDayOfWrongFalsely : Prop := fnExactDayOfRow.holds Try.pinned (OpenSpec.ofChange fnExactDayOfWrong)

/-- 'laws.FnExactDayParts': WHATEVER THE INPUT: true; the input reads as it did. -/
def fnExactDayPartsSpec : ChangeSpec := { name := "fnExactDayParts", fn := fun _ => fun
  | [d] => { results := [.lit (.bool true)], args := [d] }
  | _ => none }
def fnExactDayPartsRow : OpenClaim := { program := "ytekmbpkbnknbeaa", sum := "1615ea0597c6e7d640123a76b6691e3fd6fad2a9a3425fab8587d9a07d4738e7", func := "loop.example/jetton/laws.FnExactDayParts", spec := "fnExactDayParts", apart := false }
def FnExactDayPartsSaid : Prop := fnExactDayPartsRow.holds Try.pinned (OpenSpec.ofChange fnExactDayPartsSpec)

/-- ITS FALSE NEIGHBOUR: 'it returns false'. Refute it at one input. -/
def fnExactDayPartsWrong : ChangeSpec := { name := "fnExactDayParts", fn := fun _ => fun
  | [d] => { results := [.lit (.bool false)], args := [d] }
  | _ => none }
def FnExactDayPartsWrongFalsely : Prop := fnExactDayPartsRow.holds Try.pinned (OpenSpec.ofChange fnExactDayPartsWrong)

/-- 'laws.FnExactDayLast': WHATEVER THE INPUT: true; the input reads as it did. -/
def fnExactDayLastSpec : ChangeSpec := { name := "fnExactDayLast", fn := fun _ => fun
  | [d1, d2] => { results := [.lit (.bool true)], args := [d1, d2] }
  | _ => none }
def fnExactDayLastRow : OpenClaim := { program := "ytekmbpkbnknbeaa", sum := "1615ea0597c6e7d640123a76b6691e3fd6fad2a9a3425fab8587d9a07d4738e7", func := "loop.example/jetton/laws.FnExactDayLast", spec := "fnExactDayLast", apart := false }
def FnExactDayLastSaid : Prop := fnExactDayLastRow.holds Try.pinned (OpenSpec.ofChange fnExactDayLastSpec)

/-- ITS FALSE NEIGHBOUR: 'it returns false'. Refute it at one input. -/
def fnExactDayLastWrong : ChangeSpec := { name := "fnExactDayLast", fn := fun _ => fun
  | [d1, d2] => { results := [.lit (.bool false)], args := [d1, d2] }
  | _ => none }
def FnExactDayLastWrongFalsely : Prop := fnExactDayLastRow.holds Try.pinned (OpenSpec.ofChange fnExactDayLastWrong)

/-- 'laws.FnExactDayWeek': WHATEVER THE INPUT: true; the input reads as it did. -/
def fnExactDayWeekSpec : ChangeSpec := { name := "fnExactDayWeek", fn := fun _ => fun
  | [d] => { results := [.lit (.bool true)], args := [d] }
  | _ => none }
def fnExactDayWeekRow : OpenClaim := { program := "ytekmbpkbnknbeaa", sum := "1615ea0597c6e7d640123a76b6691e3fd6fad2a9a3425fab8587d9a07d4738e7", func := "loop.example/jetton/laws.FnExactDayWeek", spec := "fnExactDayWeek", apart := false }
def FnExactDayWeekSaid : Prop := fnExactDayWeekRow.holds Try.pinned (OpenSpec.ofChange fnExactDayWeekSpec)

/-- ITS FALSE NEIGHBOUR: 'it returns false'. Refute it at one input. -/
def fnExactDayWeekWrong : ChangeSpec := { name := "fnExactDayWeek", fn := fun _ => fun
  | [d] => { results := [.lit (.bool false)], args := [d] }
  | _ => none }
def FnExactDayWeekWrongFalsely : Prop := fnExactDayWeekRow.holds Try.pinned (OpenSpec.ofChange fnExactDayWeekWrong)

/-- 'laws.FnExactSpanOk': WHATEVER THE INPUT: true; the input reads as it did. -/
def fnExactSpanOkSpec : ChangeSpec := { name := "fnExactSpanOk", fn := fun _ => fun
  | [d] => { results := [.lit (.bool true)], args := [d] }
  | _ => none }
def fnExactSpanOkRow : OpenClaim := { program := "ytekmbpkbnknbeaa", sum := "1615ea0597c6e7d640123a76b6691e3fd6fad2a9a3425fab8587d9a07d4738e7", func := "loop.example/jetton/laws.FnExactSpanOk", spec := "fnExactSpanOk", apart := false }
def FnExactSpanOkSaid : Prop := fnExactSpanOkRow.holds Try.pinned (OpenSpec.ofChange fnExactSpanOkSpec)

/-- ITS FALSE NEIGHBOUR: 'it returns false'. Refute it at one input. -/
def fnExactSpanOkWrong : ChangeSpec := { name := "fnExactSpanOk", fn := fun _ => fun
  | [d] => { results := [.lit (.bool false)], args := [d] }
  | _ => none }
def FnExactSpanOkWrongFalsely : Prop := fnExactSpanOkRow.holds Try.pinned (OpenSpec.ofChange fnExactSpanOkWrong)

/-- 'laws.FnExactDayAdd': WHATEVER THE INPUT: true; the input reads as it did. -/
def fnExactDayAddSpec : ChangeSpec := { name := "fnExactDayAdd", fn := fun _ => fun
  | [d1, d2] => { results := [.lit (.bool true)], args := [d1, d2] }
  | _ => none }
def fnExactDayAddRow : OpenClaim := { program := "ytekmbpkbnknbeaa", sum := "1615ea0597c6e7d640123a76b6691e3fd6fad2a9a3425fab8587d9a07d4738e7", func := "loop.example/jetton/laws.FnExactDayAdd", spec := "fnExactDayAdd", apart := false }
def FnExactDayAddSaid : Prop := fnExactDayAddRow.holds Try.pinned (OpenSpec.ofChange fnExactDayAddSpec)

/-- ITS FALSE NEIGHBOUR: 'it returns false'. Refute it at one input. -/
def fnExactDayAddWrong : ChangeSpec := { name := "fnExactDayAdd", fn := fun _ => fun
  | [d1, d2] => { results := [.lit (.bool false)], args := [d1, d2] }
  | _ => none }
def FnExactDayAddWrongFalsely : Prop := fnExactDayAddRow.holds Try.pinned (OpenSpec.ofChange fnExactDayAddWrong)

/-- 'laws.FnExactDayUntil': WHATEVER THE INPUT: true; the input reads as it did. -/
def fnExactDayUntilSpec : ChangeSpec := { name := "fnExactDayUntil", fn := fun _ => fun
  | [d1, d2] => { results := [.lit (.bool true)], args := [d1, d2] }
  | _ => none }
def fnExactDayUntilRow : OpenClaim := { program := "ytekmbpkbnknbeaa", sum := "1615ea0597c6e7d640123a76b6691e3fd6fad2a9a3425fab8587d9a07d4738e7", func := "loop.example/jetton/laws.FnExactDayUntil", spec := "fnExactDayUntil", apart := false }
def FnExactDayUntilSaid : Prop := fnExactDayUntilRow.holds Try.pinned (OpenSpec.ofChange fnExactDayUntilSpec)

/-- ITS FALSE NEIGHBOUR: 'it returns false'. Refute it at one input. -/
def fnExactDayUntilWrong : ChangeSpec := { name := "fnExactDayUntil", fn := fun _ => fun
  | [d1, d2] => { results := [.lit (.bool false)], args := [d1, d2] }
  | _ => none }
def FnExactDayUntilWrongFalsely : Prop := fnExactDayUntilRow.holds Try.pinned (OpenSpec.ofChange fnExactDayUntilWrong)

/-- 'laws.FnExactTypeOk': WHATEVER THE INPUT: true; the input reads as it did. -/
def fnExactTypeOkSpec : ChangeSpec := { name := "fnExactTypeOk", fn := fun _ => fun
  | [d] => { results := [.lit (.bool true)], args := [d] }
  | _ => none }
def fnExactTypeOkRow : OpenClaim := { program := "ytekmbpkbnknbeaa", sum := "1615ea0597c6e7d640123a76b6691e3fd6fad2a9a3425fab8587d9a07d4738e7", func := "loop.example/jetton/laws.FnExactTypeOk", spec := "fnExactTypeOk", apart := false }
def FnExactTypeOkSaid : Prop := fnExactTypeOkRow.holds Try.pinned (OpenSpec.ofChange fnExactTypeOkSpec)

/-- ITS FALSE NEIGHBOUR: 'it returns false'. Refute it at one input. -/
def fnExactTypeOkWrong : ChangeSpec := { name := "fnExactTypeOk", fn := fun _ => fun
  | [d] => { results := [.lit (.bool false)], args := [d] }
  | _ => none }
def FnExactTypeOkWrongFalsely : Prop := fnExactTypeOkRow.holds Try.pinned (OpenSpec.ofChange fnExactTypeOkWrong)

/-- 'laws.FnExactTruthAnd': WHATEVER THE INPUT: true; the input reads as it did. -/
def fnExactTruthAndSpec : ChangeSpec := { name := "fnExactTruthAnd", fn := fun _ => fun
  | [d1, d2] => { results := [.lit (.bool true)], args := [d1, d2] }
  | _ => none }
def fnExactTruthAndRow : OpenClaim := { program := "ytekmbpkbnknbeaa", sum := "1615ea0597c6e7d640123a76b6691e3fd6fad2a9a3425fab8587d9a07d4738e7", func := "loop.example/jetton/laws.FnExactTruthAnd", spec := "fnExactTruthAnd", apart := false }
def FnExactTruthAndSaid : Prop := fnExactTruthAndRow.holds Try.pinned (OpenSpec.ofChange fnExactTruthAndSpec)

/-- ITS FALSE NEIGHBOUR: 'it returns false'. Refute it at one input. -/
def fnExactTruthAndWrong : ChangeSpec := { name := "fnExactTruthAnd", fn := fun _ => fun
  | [d1, d2] => { results := [.lit (.bool false)], args := [d1, d2] }
  | _ => none }
def FnExactTruthAndWrongFalsely : Prop := fnExactTruthAndRow.holds Try.pinned (OpenSpec.ofChange fnExactTruthAndWrong)

/-- 'laws.FnExactTruthNot': WHATEVER THE INPUT: true; the input reads as it did. -/
def fnExactTruthNotSpec : ChangeSpec := { name := "fnExactTruthNot", fn := fun _ => fun
  | [d] => { results := [.lit (.bool true)], args := [d] }
  | _ => none }
def fnExactTruthNotRow : OpenClaim := { program := "ytekmbpkbnknbeaa", sum := "1615ea0597c6e7d640123a76b6691e3fd6fad2a9a3425fab8587d9a07d4738e7", func := "loop.example/jetton/laws.FnExactTruthNot", spec := "fnExactTruthNot", apart := false }
def FnExactTruthNotSaid : Prop := fnExactTruthNotRow.holds Try.pinned (OpenSpec.ofChange fnExactTruthNotSpec)

/-- ITS FALSE NEIGHBOUR: 'it returns false'. Refute it at one input. -/
def fnExactTruthNotWrong : ChangeSpec := { name := "fnExactTruthNot", fn := fun _ => fun
  | [d] => { results := [.lit (.bool false)], args := [d] }
  | _ => none }
def FnExactTruthNotWrongFalsely : Prop := fnExactTruthNotRow.holds Try.pinned (OpenSpec.ofChange fnExactTruthNotWrong)

/-- 'laws.FnExactTruthOr': WHATEVER THE INPUT: true; the input reads as it did. -/
def fnExactTruthOrSpec : ChangeSpec := { name := "fnExactTruthOr", fn := fun _ => fun
  | [d1, d2] => { results := [.lit (.bool true)], args := [d1, d2] }
  | _ => none }
def fnExactTruthOrRow : OpenClaim := { program := "ytekmbpkbnknbeaa", sum := "1615ea0597c6e7d640123a76b6691e3fd6fad2a9a3425fab8587d9a07d4738e7", func := "loop.example/jetton/laws.FnExactTruthOr", spec := "fnExactTruthOr", apart := false }
def FnExactTruthOrSaid : Prop := fnExactTruthOrRow.holds Try.pinned (OpenSpec.ofChange fnExactTruthOrSpec)

/-- ITS FALSE NEIGHBOUR: 'it returns false'. Refute it at one input. -/
def fnExactTruthOrWrong : ChangeSpec := { name := "fnExactTruthOr", fn := fun _ => fun
  | [d1, d2] => { results := [.lit (.bool false)], args := [d1, d2] }
  | _ => none }
def FnExactTruthOrWrongFalsely : Prop := fnExactTruthOrRow.holds Try.pinned (OpenSpec.ofChange fnExactTruthOrWrong)

/-- 'laws.FnExactKeyAbove': WHATEVER THE INPUT: true; the input reads as it did. -/
def fnExactKeyAboveSpec : ChangeSpec := { name := "fnExactKeyAbove", fn := fun _ => fun
  | [d] => { results := [.lit (.bool true)], args := [d] }
  | _ => none }
def fnExactKeyAboveRow : OpenClaim := { program := "ytekmbpkbnknbeaa", sum := "1615ea0597c6e7d640123a76b6691e3fd6fad2a9a3425fab8587d9a07d4738e7", func := "loop.example/jetton/laws.FnExactKeyAbove", spec := "fnExactKeyAbove", apart := false }
def FnExactKeyAboveSaid : Prop := fnExactKeyAboveRow.holds Try.pinned (OpenSpec.ofChange fnExactKeyAboveSpec)

/-- ITS FALSE NEIGHBOUR: 'it returns false'. Refute it at one input. -/
def fnExactKeyAboveWrong : ChangeSpec := { name := "fnExactKeyAbove", fn := fun _ => fun
  | [d] => { results := [.lit (.bool false)], args := [d] }
  | _ => none }
def FnExactKeyAboveWrongFalsely : Prop := fnExactKeyAboveRow.holds Try.pinned (OpenSpec.ofChange fnExactKeyAboveWrong)

/- THE SECOND FORM. 'bulk': how many values and letters a reading holds, each counted each time it is reached (what is shared counts as often as it is met; a slice's spare places count too). A statement '..UptoSaid' is the law's where the arguments, and the package variables that the reading takes, are together of bulk at most 1048576: NARROWER than '..Said'. Prove '..Said' where nothing that the law and all that it calls make is longer than what came in: it says more and counts as full. Else prove '..UptoSaid'. A law counts once. -/
mutual
def uptoBulk {H : Type} : DataW H → Nat
  | .lit (.string bytes) => bytes.length + 1
  | .lit _ => 1
  | .nil => 1
  | .ptr d => uptoBulk d + 1
  | .slice elems spare => uptoBulkAll elems + uptoBulkAll spare + 1
  | .agg parts => uptoBulkAll parts + 1
  | .iface _ d => uptoBulk d + 1
  | .map entries => uptoBulkEntries entries + 1
  | .held _ => 1
def uptoBulkAll {H : Type} : List (DataW H) → Nat
  | [] => 0
  | d :: r => uptoBulk d + uptoBulkAll r
def uptoBulkEntries {H : Type} : List (Lit × DataW H) → Nat
  | [] => 0
  | x :: r => uptoBulkEntry x + uptoBulkEntries r
def uptoBulkEntry {H : Type} : Lit × DataW H → Nat
  | (.string bytes, d) => bytes.length + uptoBulk d + 1
  | (_, d) => uptoBulk d + 1
 end
def uptoSmall : (H : Type) → List (DataW H) → Bool := fun _ ds => decide (uptoBulkAll ds ≤ 1048576)
def OpenSpec.upto (s : _root_.Go.ChangeSpec) : _root_.Go.OpenSpec := { _root_.Go.OpenSpec.ofChange s with cond := some uptoSmall }

/-- 'laws.FnExactDayOf', WHERE WHAT IT READS IS OF BULK AT MOST 1048576: true; the input reads as it did. -/
def fnExactDayOfUptoRow : OpenClaim := { program := "ytekmbpkbnknbeaa", sum := "1615ea0597c6e7d640123a76b6691e3fd6fad2a9a3425fab8587d9a07d4738e7", func := "loop.example/jetton/laws.FnExactDayOf", spec := "fnExactDayOf", apart := false, narrowed := true }
def FnExactDayOfUptoSaid : Prop := fnExactDayOfUptoRow.holds Try.pinned (OpenSpec.upto fnExactDayOfSpec)

/-- 'laws.FnExactDayParts', WHERE WHAT IT READS IS OF BULK AT MOST 1048576: true; the input reads as it did. -/
def fnExactDayPartsUptoRow : OpenClaim := { program := "ytekmbpkbnknbeaa", sum := "1615ea0597c6e7d640123a76b6691e3fd6fad2a9a3425fab8587d9a07d4738e7", func := "loop.example/jetton/laws.FnExactDayParts", spec := "fnExactDayParts", apart := false, narrowed := true }
def FnExactDayPartsUptoSaid : Prop := fnExactDayPartsUptoRow.holds Try.pinned (OpenSpec.upto fnExactDayPartsSpec)

/-- 'laws.FnExactDayLast', WHERE WHAT IT READS IS OF BULK AT MOST 1048576: true; the input reads as it did. -/
def fnExactDayLastUptoRow : OpenClaim := { program := "ytekmbpkbnknbeaa", sum := "1615ea0597c6e7d640123a76b6691e3fd6fad2a9a3425fab8587d9a07d4738e7", func := "loop.example/jetton/laws.FnExactDayLast", spec := "fnExactDayLast", apart := false, narrowed := true }
def FnExactDayLastUptoSaid : Prop := fnExactDayLastUptoRow.holds Try.pinned (OpenSpec.upto fnExactDayLastSpec)

/-- 'laws.FnExactDayWeek', WHERE WHAT IT READS IS OF BULK AT MOST 1048576: true; the input reads as it did. -/
def fnExactDayWeekUptoRow : OpenClaim := { program := "ytekmbpkbnknbeaa", sum := "1615ea0597c6e7d640123a76b6691e3fd6fad2a9a3425fab8587d9a07d4738e7", func := "loop.example/jetton/laws.FnExactDayWeek", spec := "fnExactDayWeek", apart := false, narrowed := true }
def FnExactDayWeekUptoSaid : Prop := fnExactDayWeekUptoRow.holds Try.pinned (OpenSpec.upto fnExactDayWeekSpec)

/-- 'laws.FnExactSpanOk', WHERE WHAT IT READS IS OF BULK AT MOST 1048576: true; the input reads as it did. -/
def fnExactSpanOkUptoRow : OpenClaim := { program := "ytekmbpkbnknbeaa", sum := "1615ea0597c6e7d640123a76b6691e3fd6fad2a9a3425fab8587d9a07d4738e7", func := "loop.example/jetton/laws.FnExactSpanOk", spec := "fnExactSpanOk", apart := false, narrowed := true }
def FnExactSpanOkUptoSaid : Prop := fnExactSpanOkUptoRow.holds Try.pinned (OpenSpec.upto fnExactSpanOkSpec)

/-- 'laws.FnExactDayAdd', WHERE WHAT IT READS IS OF BULK AT MOST 1048576: true; the input reads as it did. -/
def fnExactDayAddUptoRow : OpenClaim := { program := "ytekmbpkbnknbeaa", sum := "1615ea0597c6e7d640123a76b6691e3fd6fad2a9a3425fab8587d9a07d4738e7", func := "loop.example/jetton/laws.FnExactDayAdd", spec := "fnExactDayAdd", apart := false, narrowed := true }
def FnExactDayAddUptoSaid : Prop := fnExactDayAddUptoRow.holds Try.pinned (OpenSpec.upto fnExactDayAddSpec)

/-- 'laws.FnExactDayUntil', WHERE WHAT IT READS IS OF BULK AT MOST 1048576: true; the input reads as it did. -/
def fnExactDayUntilUptoRow : OpenClaim := { program := "ytekmbpkbnknbeaa", sum := "1615ea0597c6e7d640123a76b6691e3fd6fad2a9a3425fab8587d9a07d4738e7", func := "loop.example/jetton/laws.FnExactDayUntil", spec := "fnExactDayUntil", apart := false, narrowed := true }
def FnExactDayUntilUptoSaid : Prop := fnExactDayUntilUptoRow.holds Try.pinned (OpenSpec.upto fnExactDayUntilSpec)

/-- 'laws.FnExactTypeOk', WHERE WHAT IT READS IS OF BULK AT MOST 1048576: true; the input reads as it did. -/
def fnExactTypeOkUptoRow : OpenClaim := { program := "ytekmbpkbnknbeaa", sum := "1615ea0597c6e7d640123a76b6691e3fd6fad2a9a3425fab8587d9a07d4738e7", func := "loop.example/jetton/laws.FnExactTypeOk", spec := "fnExactTypeOk", apart := false, narrowed := true }
def FnExactTypeOkUptoSaid : Prop := fnExactTypeOkUptoRow.holds Try.pinned (OpenSpec.upto fnExactTypeOkSpec)

/-- 'laws.FnExactTruthAnd', WHERE WHAT IT READS IS OF BULK AT MOST 1048576: true; the input reads as it did. -/
def fnExactTruthAndUptoRow : OpenClaim := { program := "ytekmbpkbnknbeaa", sum := "1615ea0597c6e7d640123a76b6691e3fd6fad2a9a3425fab8587d9a07d4738e7", func := "loop.example/jetton/laws.FnExactTruthAnd", spec := "fnExactTruthAnd", apart := false, narrowed := true }
def FnExactTruthAndUptoSaid : Prop := fnExactTruthAndUptoRow.holds Try.pinned (OpenSpec.upto fnExactTruthAndSpec)

/-- 'laws.FnExactTruthNot', WHERE WHAT IT READS IS OF BULK AT MOST 1048576: true; the input reads as it did. -/
def fnExactTruthNotUptoRow : OpenClaim := { program := "ytekmbpkbnknbeaa", sum := "1615ea0597c6e7d640123a76b6691e3fd6fad2a9a3425fab8587d9a07d4738e7", func := "loop.example/jetton/laws.FnExactTruthNot", spec := "fnExactTruthNot", apart := false, narrowed := true }
def FnExactTruthNotUptoSaid : Prop := fnExactTruthNotUptoRow.holds Try.pinned (OpenSpec.upto fnExactTruthNotSpec)

/-- 'laws.FnExactTruthOr', WHERE WHAT IT READS IS OF BULK AT MOST 1048576: true; the input reads as it did. -/
def fnExactTruthOrUptoRow : OpenClaim := { program := "ytekmbpkbnknbeaa", sum := "1615ea0597c6e7d640123a76b6691e3fd6fad2a9a3425fab8587d9a07d4738e7", func := "loop.example/jetton/laws.FnExactTruthOr", spec := "fnExactTruthOr", apart := false, narrowed := true }
def FnExactTruthOrUptoSaid : Prop := fnExactTruthOrUptoRow.holds Try.pinned (OpenSpec.upto fnExactTruthOrSpec)

/-- 'laws.FnExactKeyAbove', WHERE WHAT IT READS IS OF BULK AT MOST 1048576: true; the input reads as it did. -/
def fnExactKeyAboveUptoRow : OpenClaim := { program := "ytekmbpkbnknbeaa", sum := "1615ea0597c6e7d640123a76b6691e3fd6fad2a9a3425fab8587d9a07d4738e7", func := "loop.example/jetton/laws.FnExactKeyAbove", spec := "fnExactKeyAbove", apart := false, narrowed := true }
def FnExactKeyAboveUptoSaid : Prop := fnExactKeyAboveUptoRow.holds Try.pinned (OpenSpec.upto fnExactKeyAboveSpec)

end Rows
end Go.Proofs.Ytekmbpkbnknbeaa
