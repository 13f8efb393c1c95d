/-
  No cell of these rows narrows 'for every input' (looked for: loops, veiled, ifaces, maps, wideKeys, modest, calm, conditions, laid).
  DERIVED. THE GIVEN ROWS OF THIS SEAT. 13 by the template 'for every input the law returns true; each argument reads behind the call as it read before'; 0 by the template 'total and deterministic' (their statements: YtlmbcicfpidhcaaTotals.lean).
  GIVEN WITH THE SEED: the statements are not yours to turn. If you find one false, say at which input.
  Laid BY PROGRAM, IN A SANDBOX (cutbox-rows.mjs): the forced cells as the released guide's own fill.sh prints them over the translation 5502b11db7faa7b0… (all of the seat's roots in one cut). By AI agents, Wed Nov 11 2026. No macro, syntax, notation, axiom, sorry.
-/
import Derived.Test.YtlmbcicfpidhcaaChecked
import GoSem.Claim
import GoSem.ClaimJoined
import GoSem.ClaimMapViews
import Derived.JoinedTies
import Derived.KernelRfl
namespace Go.Proofs.Ytlmbcicfpidhcaa
/- THE CELL 'sum', in the pinned program and in every row, IS THE sha256 OF THE DUMP (.gsa) THAT YtlmbcicfpidhcaaProg.lean LOADS. Nothing in Lean hashes anything: it is a label: what it is worth is what the hold of that sum in a sandbox is worth. -/
noncomputable def Try.pinned : Pinned := { name := "ytlmbcicfpidhcaa", sum := "5502b11db7faa7b0d9392f8891d9666eae0d11054246312d9364c4bebf720110", checked := Try.checked }
namespace Rows
def none {H : Type} : Left H := { results := [], args := [] }

/-- 'laws.FnBigMul': WHATEVER THE INPUT: true; the input reads as it did. -/
def fnBigMulSpec : ChangeSpec := { name := "fnBigMul", fn := fun _ => fun
  | [d] => { results := [.lit (.bool true)], args := [d] }
  | _ => none }
def fnBigMulRow : OpenClaim := { program := "ytlmbcicfpidhcaa", sum := "5502b11db7faa7b0d9392f8891d9666eae0d11054246312d9364c4bebf720110", func := "loop.example/jetton/laws.FnBigMul", spec := "fnBigMul", apart := false }
def FnBigMulSaid : Prop := fnBigMulRow.holds Try.pinned (OpenSpec.ofChange fnBigMulSpec)

/-- ITS FALSE NEIGHBOUR: 'it returns false'. Refute it at one input. -/
def fnBigMulWrong : ChangeSpec := { name := "fnBigMul", fn := fun _ => fun
  | [d] => { results := [.lit (.bool false)], args := [d] }
  | _ => none }
def FnBigMulWrongFalsely : Prop := fnBigMulRow.holds Try.pinned (OpenSpec.ofChange fnBigMulWrong)

/-- 'laws.FnBigParts': WHATEVER THE INPUT: true; the input reads as it did. -/
def fnBigPartsSpec : ChangeSpec := { name := "fnBigParts", fn := fun _ => fun
  | [d1, d2] => { results := [.lit (.bool true)], args := [d1, d2] }
  | _ => none }
def fnBigPartsRow : OpenClaim := { program := "ytlmbcicfpidhcaa", sum := "5502b11db7faa7b0d9392f8891d9666eae0d11054246312d9364c4bebf720110", func := "loop.example/jetton/laws.FnBigParts", spec := "fnBigParts", apart := false }
def FnBigPartsSaid : Prop := fnBigPartsRow.holds Try.pinned (OpenSpec.ofChange fnBigPartsSpec)

/-- ITS FALSE NEIGHBOUR: 'it returns false'. Refute it at one input. -/
def fnBigPartsWrong : ChangeSpec := { name := "fnBigParts", fn := fun _ => fun
  | [d1, d2] => { results := [.lit (.bool false)], args := [d1, d2] }
  | _ => none }
def FnBigPartsWrongFalsely : Prop := fnBigPartsRow.holds Try.pinned (OpenSpec.ofChange fnBigPartsWrong)

/-- 'laws.FnBigDiv': WHATEVER THE INPUT: true; the input reads as it did. -/
def fnBigDivSpec : ChangeSpec := { name := "fnBigDiv", fn := fun _ => fun
  | [d] => { results := [.lit (.bool true)], args := [d] }
  | _ => none }
def fnBigDivRow : OpenClaim := { program := "ytlmbcicfpidhcaa", sum := "5502b11db7faa7b0d9392f8891d9666eae0d11054246312d9364c4bebf720110", func := "loop.example/jetton/laws.FnBigDiv", spec := "fnBigDiv", apart := false }
def FnBigDivSaid : Prop := fnBigDivRow.holds Try.pinned (OpenSpec.ofChange fnBigDivSpec)

/-- ITS FALSE NEIGHBOUR: 'it returns false'. Refute it at one input. -/
def fnBigDivWrong : ChangeSpec := { name := "fnBigDiv", fn := fun _ => fun
  | [d] => { results := [.lit (.bool false)], args := [d] }
  | _ => none }
def FnBigDivWrongFalsely : Prop := fnBigDivRow.holds Try.pinned (OpenSpec.ofChange fnBigDivWrong)

/-- 'laws.FnBigCmpThree': WHATEVER THE INPUT: true; the input reads as it did. -/
def fnBigCmpThreeSpec : ChangeSpec := { name := "fnBigCmpThree", fn := fun _ => fun
  | [d1, d2] => { results := [.lit (.bool true)], args := [d1, d2] }
  | _ => none }
def fnBigCmpThreeRow : OpenClaim := { program := "ytlmbcicfpidhcaa", sum := "5502b11db7faa7b0d9392f8891d9666eae0d11054246312d9364c4bebf720110", func := "loop.example/jetton/laws.FnBigCmpThree", spec := "fnBigCmpThree", apart := false }
def FnBigCmpThreeSaid : Prop := fnBigCmpThreeRow.holds Try.pinned (OpenSpec.ofChange fnBigCmpThreeSpec)

/-- ITS FALSE NEIGHBOUR: 'it returns false'. Refute it at one input. -/
def fnBigCmpThreeWrong : ChangeSpec := { name := "fnBigCmpThree", fn := fun _ => fun
  | [d1, d2] => { results := [.lit (.bool false)], args := [d1, d2] }
  | _ => none }
def FnBigCmpThreeWrongFalsely : Prop := fnBigCmpThreeRow.holds Try.pinned (OpenSpec.ofChange fnBigCmpThreeWrong)

/-- 'laws.FnExactBigOk': WHATEVER THE INPUT: true; the input reads as it did. -/
def fnExactBigOkSpec : ChangeSpec := { name := "fnExactBigOk", fn := fun _ => fun
  | [d] => { results := [.lit (.bool true)], args := [d] }
  | _ => none }
def fnExactBigOkRow : OpenClaim := { program := "ytlmbcicfpidhcaa", sum := "5502b11db7faa7b0d9392f8891d9666eae0d11054246312d9364c4bebf720110", func := "loop.example/jetton/laws.FnExactBigOk", spec := "fnExactBigOk", apart := false }
def FnExactBigOkSaid : Prop := fnExactBigOkRow.holds Try.pinned (OpenSpec.ofChange fnExactBigOkSpec)

/-- ITS FALSE NEIGHBOUR: 'it returns false'. Refute it at one input. -/
def fnExactBigOkWrong : ChangeSpec := { name := "fnExactBigOk", fn := fun _ => fun
  | [d] => { results := [.lit (.bool false)], args := [d] }
  | _ => none }
def FnExactBigOkWrongFalsely : Prop := fnExactBigOkRow.holds Try.pinned (OpenSpec.ofChange fnExactBigOkWrong)

/-- 'laws.FnExactBigOf': WHATEVER THE INPUT: true; the input reads as it did. -/
def fnExactBigOfSpec : ChangeSpec := { name := "fnExactBigOf", fn := fun _ => fun
  | [d] => { results := [.lit (.bool true)], args := [d] }
  | _ => none }
def fnExactBigOfRow : OpenClaim := { program := "ytlmbcicfpidhcaa", sum := "5502b11db7faa7b0d9392f8891d9666eae0d11054246312d9364c4bebf720110", func := "loop.example/jetton/laws.FnExactBigOf", spec := "fnExactBigOf", apart := false }
def FnExactBigOfSaid : Prop := fnExactBigOfRow.holds Try.pinned (OpenSpec.ofChange fnExactBigOfSpec)

/-- ITS FALSE NEIGHBOUR: 'it returns false'. Refute it at one input. -/
def fnExactBigOfWrong : ChangeSpec := { name := "fnExactBigOf", fn := fun _ => fun
  | [d] => { results := [.lit (.bool false)], args := [d] }
  | _ => none }
def FnExactBigOfWrongFalsely : Prop := fnExactBigOfRow.holds Try.pinned (OpenSpec.ofChange fnExactBigOfWrong)

/-- 'laws.FnExactBigAdd': WHATEVER THE INPUT: true; the input reads as it did. -/
def fnExactBigAddSpec : ChangeSpec := { name := "fnExactBigAdd", fn := fun _ => fun
  | [d1, d2] => { results := [.lit (.bool true)], args := [d1, d2] }
  | _ => none }
def fnExactBigAddRow : OpenClaim := { program := "ytlmbcicfpidhcaa", sum := "5502b11db7faa7b0d9392f8891d9666eae0d11054246312d9364c4bebf720110", func := "loop.example/jetton/laws.FnExactBigAdd", spec := "fnExactBigAdd", apart := false }
def FnExactBigAddSaid : Prop := fnExactBigAddRow.holds Try.pinned (OpenSpec.ofChange fnExactBigAddSpec)

/-- ITS FALSE NEIGHBOUR: 'it returns false'. Refute it at one input. -/
def fnExactBigAddWrong : ChangeSpec := { name := "fnExactBigAdd", fn := fun _ => fun
  | [d1, d2] => { results := [.lit (.bool false)], args := [d1, d2] }
  | _ => none }
def FnExactBigAddWrongFalsely : Prop := fnExactBigAddRow.holds Try.pinned (OpenSpec.ofChange fnExactBigAddWrong)

/-- 'laws.FnExactBigSub': WHATEVER THE INPUT: true; the input reads as it did. -/
def fnExactBigSubSpec : ChangeSpec := { name := "fnExactBigSub", fn := fun _ => fun
  | [d1, d2] => { results := [.lit (.bool true)], args := [d1, d2] }
  | _ => none }
def fnExactBigSubRow : OpenClaim := { program := "ytlmbcicfpidhcaa", sum := "5502b11db7faa7b0d9392f8891d9666eae0d11054246312d9364c4bebf720110", func := "loop.example/jetton/laws.FnExactBigSub", spec := "fnExactBigSub", apart := false }
def FnExactBigSubSaid : Prop := fnExactBigSubRow.holds Try.pinned (OpenSpec.ofChange fnExactBigSubSpec)

/-- ITS FALSE NEIGHBOUR: 'it returns false'. Refute it at one input. -/
def fnExactBigSubWrong : ChangeSpec := { name := "fnExactBigSub", fn := fun _ => fun
  | [d1, d2] => { results := [.lit (.bool false)], args := [d1, d2] }
  | _ => none }
def FnExactBigSubWrongFalsely : Prop := fnExactBigSubRow.holds Try.pinned (OpenSpec.ofChange fnExactBigSubWrong)

/-- 'laws.FnExactBigMul': WHATEVER THE INPUT: true; the input reads as it did. -/
def fnExactBigMulSpec : ChangeSpec := { name := "fnExactBigMul", fn := fun _ => fun
  | [d1, d2] => { results := [.lit (.bool true)], args := [d1, d2] }
  | _ => none }
def fnExactBigMulRow : OpenClaim := { program := "ytlmbcicfpidhcaa", sum := "5502b11db7faa7b0d9392f8891d9666eae0d11054246312d9364c4bebf720110", func := "loop.example/jetton/laws.FnExactBigMul", spec := "fnExactBigMul", apart := false }
def FnExactBigMulSaid : Prop := fnExactBigMulRow.holds Try.pinned (OpenSpec.ofChange fnExactBigMulSpec)

/-- ITS FALSE NEIGHBOUR: 'it returns false'. Refute it at one input. -/
def fnExactBigMulWrong : ChangeSpec := { name := "fnExactBigMul", fn := fun _ => fun
  | [d1, d2] => { results := [.lit (.bool false)], args := [d1, d2] }
  | _ => none }
def FnExactBigMulWrongFalsely : Prop := fnExactBigMulRow.holds Try.pinned (OpenSpec.ofChange fnExactBigMulWrong)

/-- 'laws.FnExactBigDiv': WHATEVER THE INPUT: true; the input reads as it did. -/
def fnExactBigDivSpec : ChangeSpec := { name := "fnExactBigDiv", fn := fun _ => fun
  | [d1, d2] => { results := [.lit (.bool true)], args := [d1, d2] }
  | _ => none }
def fnExactBigDivRow : OpenClaim := { program := "ytlmbcicfpidhcaa", sum := "5502b11db7faa7b0d9392f8891d9666eae0d11054246312d9364c4bebf720110", func := "loop.example/jetton/laws.FnExactBigDiv", spec := "fnExactBigDiv", apart := false }
def FnExactBigDivSaid : Prop := fnExactBigDivRow.holds Try.pinned (OpenSpec.ofChange fnExactBigDivSpec)

/-- ITS FALSE NEIGHBOUR: 'it returns false'. Refute it at one input. -/
def fnExactBigDivWrong : ChangeSpec := { name := "fnExactBigDiv", fn := fun _ => fun
  | [d1, d2] => { results := [.lit (.bool false)], args := [d1, d2] }
  | _ => none }
def FnExactBigDivWrongFalsely : Prop := fnExactBigDivRow.holds Try.pinned (OpenSpec.ofChange fnExactBigDivWrong)

/-- 'laws.FnExactBigCmp': WHATEVER THE INPUT: true; the input reads as it did. -/
def fnExactBigCmpSpec : ChangeSpec := { name := "fnExactBigCmp", fn := fun _ => fun
  | [d1, d2] => { results := [.lit (.bool true)], args := [d1, d2] }
  | _ => none }
def fnExactBigCmpRow : OpenClaim := { program := "ytlmbcicfpidhcaa", sum := "5502b11db7faa7b0d9392f8891d9666eae0d11054246312d9364c4bebf720110", func := "loop.example/jetton/laws.FnExactBigCmp", spec := "fnExactBigCmp", apart := false }
def FnExactBigCmpSaid : Prop := fnExactBigCmpRow.holds Try.pinned (OpenSpec.ofChange fnExactBigCmpSpec)

/-- ITS FALSE NEIGHBOUR: 'it returns false'. Refute it at one input. -/
def fnExactBigCmpWrong : ChangeSpec := { name := "fnExactBigCmp", fn := fun _ => fun
  | [d1, d2] => { results := [.lit (.bool false)], args := [d1, d2] }
  | _ => none }
def FnExactBigCmpWrongFalsely : Prop := fnExactBigCmpRow.holds Try.pinned (OpenSpec.ofChange fnExactBigCmpWrong)

/-- 'laws.FnExactBigGet': WHATEVER THE INPUT: true; the input reads as it did. -/
def fnExactBigGetSpec : ChangeSpec := { name := "fnExactBigGet", fn := fun _ => fun
  | [d] => { results := [.lit (.bool true)], args := [d] }
  | _ => none }
def fnExactBigGetRow : OpenClaim := { program := "ytlmbcicfpidhcaa", sum := "5502b11db7faa7b0d9392f8891d9666eae0d11054246312d9364c4bebf720110", func := "loop.example/jetton/laws.FnExactBigGet", spec := "fnExactBigGet", apart := false }
def FnExactBigGetSaid : Prop := fnExactBigGetRow.holds Try.pinned (OpenSpec.ofChange fnExactBigGetSpec)

/-- ITS FALSE NEIGHBOUR: 'it returns false'. Refute it at one input. -/
def fnExactBigGetWrong : ChangeSpec := { name := "fnExactBigGet", fn := fun _ => fun
  | [d] => { results := [.lit (.bool false)], args := [d] }
  | _ => none }
def FnExactBigGetWrongFalsely : Prop := fnExactBigGetRow.holds Try.pinned (OpenSpec.ofChange fnExactBigGetWrong)

/-- 'laws.FnExactBigTen': WHATEVER THE INPUT: true; the input reads as it did. -/
def fnExactBigTenSpec : ChangeSpec := { name := "fnExactBigTen", fn := fun _ => fun
  | [d] => { results := [.lit (.bool true)], args := [d] }
  | _ => none }
def fnExactBigTenRow : OpenClaim := { program := "ytlmbcicfpidhcaa", sum := "5502b11db7faa7b0d9392f8891d9666eae0d11054246312d9364c4bebf720110", func := "loop.example/jetton/laws.FnExactBigTen", spec := "fnExactBigTen", apart := false }
def FnExactBigTenSaid : Prop := fnExactBigTenRow.holds Try.pinned (OpenSpec.ofChange fnExactBigTenSpec)

/-- ITS FALSE NEIGHBOUR: 'it returns false'. Refute it at one input. -/
def fnExactBigTenWrong : ChangeSpec := { name := "fnExactBigTen", fn := fun _ => fun
  | [d] => { results := [.lit (.bool false)], args := [d] }
  | _ => none }
def FnExactBigTenWrongFalsely : Prop := fnExactBigTenRow.holds Try.pinned (OpenSpec.ofChange fnExactBigTenWrong)

/- THE SECOND FORM. 'bulk': how many values and letters a reading holds, each counted each time it is reached (what is shared counts as often as it is met; a slice's spare places count too). A statement '..UptoSaid' is the law's where the arguments, and the package variables that the reading takes, are together of bulk at most 1048576: NARROWER than '..Said'. Prove '..Said' where nothing that the law and all that it calls make is longer than what came in: it says more and counts as full. Else prove '..UptoSaid'. A law counts once. -/
mutual
def uptoBulk {H : Type} : DataW H → Nat
  | .lit (.string bytes) => bytes.length + 1
  | .lit _ => 1
  | .nil => 1
  | .ptr d => uptoBulk d + 1
  | .slice elems spare => uptoBulkAll elems + uptoBulkAll spare + 1
  | .agg parts => uptoBulkAll parts + 1
  | .iface _ d => uptoBulk d + 1
  | .map entries => uptoBulkEntries entries + 1
  | .held _ => 1
def uptoBulkAll {H : Type} : List (DataW H) → Nat
  | [] => 0
  | d :: r => uptoBulk d + uptoBulkAll r
def uptoBulkEntries {H : Type} : List (Lit × DataW H) → Nat
  | [] => 0
  | x :: r => uptoBulkEntry x + uptoBulkEntries r
def uptoBulkEntry {H : Type} : Lit × DataW H → Nat
  | (.string bytes, d) => bytes.length + uptoBulk d + 1
  | (_, d) => uptoBulk d + 1
 end
def uptoSmall : (H : Type) → List (DataW H) → Bool := fun _ ds => decide (uptoBulkAll ds ≤ 1048576)
def OpenSpec.upto (s : _root_.Go.ChangeSpec) : _root_.Go.OpenSpec := { _root_.Go.OpenSpec.ofChange s with cond := some uptoSmall }

/-- 'laws.FnBigMul', WHERE WHAT IT READS IS OF BULK AT MOST 1048576: true; the input reads as it did. -/
def fnBigMulUptoRow : OpenClaim := { program := "ytlmbcicfpidhcaa", sum := "5502b11db7faa7b0d9392f8891d9666eae0d11054246312d9364c4bebf720110", func := "loop.example/jetton/laws.FnBigMul", spec := "fnBigMul", apart := false, narrowed := true }
def FnBigMulUptoSaid : Prop := fnBigMulUptoRow.holds Try.pinned (OpenSpec.upto fnBigMulSpec)

/-- 'laws.FnBigParts', WHERE WHAT IT READS IS OF BULK AT MOST 1048576: true; the input reads as it did. -/
def fnBigPartsUptoRow : OpenClaim := { program := "ytlmbcicfpidhcaa", sum := "5502b11db7faa7b0d9392f8891d9666eae0d11054246312d9364c4bebf720110", func := "loop.example/jetton/laws.FnBigParts", spec := "fnBigParts", apart := false, narrowed := true }
def FnBigPartsUptoSaid : Prop := fnBigPartsUptoRow.holds Try.pinned (OpenSpec.upto fnBigPartsSpec)

/-- 'laws.FnBigDiv', WHERE WHAT IT READS IS OF BULK AT MOST 1048576: true; the input reads as it did. -/
def fnBigDivUptoRow : OpenClaim := { program := "ytlmbcicfpidhcaa", sum := "5502b11db7faa7b0d9392f8891d9666eae0d11054246312d9364c4bebf720110", func := "loop.example/jetton/laws.FnBigDiv", spec := "fnBigDiv", apart := false, narrowed := true }
def FnBigDivUptoSaid : Prop := fnBigDivUptoRow.holds Try.pinned (OpenSpec.upto fnBigDivSpec)

/-- 'laws.FnBigCmpThree', WHERE WHAT IT READS IS OF BULK AT MOST 1048576: true; the input reads as it did. -/
def fnBigCmpThreeUptoRow : OpenClaim := { program := "ytlmbcicfpidhcaa", sum := "5502b11db7faa7b0d9392f8891d9666eae0d11054246312d9364c4bebf720110", func := "loop.example/jetton/laws.FnBigCmpThree", spec := "fnBigCmpThree", apart := false, narrowed := true }
def FnBigCmpThreeUptoSaid : Prop := fnBigCmpThreeUptoRow.holds Try.pinned (OpenSpec.upto fnBigCmpThreeSpec)

/-- 'laws.FnExactBigOk', WHERE WHAT IT READS IS OF BULK AT MOST 1048576: true; the input reads as it did. -/
def fnExactBigOkUptoRow : OpenClaim := { program := "ytlmbcicfpidhcaa", sum := "5502b11db7faa7b0d9392f8891d9666eae0d11054246312d9364c4bebf720110", func := "loop.example/jetton/laws.FnExactBigOk", spec := "fnExactBigOk", apart := false, narrowed := true }
def FnExactBigOkUptoSaid : Prop := fnExactBigOkUptoRow.holds Try.pinned (OpenSpec.upto fnExactBigOkSpec)

/-- 'laws.FnExactBigOf', WHERE WHAT IT READS IS OF BULK AT MOST 1048576: true; the input reads as it did. -/
def fnExactBigOfUptoRow : OpenClaim := { program := "ytlmbcicfpidhcaa", sum := "5502b11db7faa7b0d9392f8891d9666eae0d11054246312d9364c4bebf720110", func := "loop.example/jetton/laws.FnExactBigOf", spec := "fnExactBigOf", apart := false, narrowed := true }
def FnExactBigOfUptoSaid : Prop := fnExactBigOfUptoRow.holds Try.pinned (OpenSpec.upto fnExactBigOfSpec)

/-- 'laws.FnExactBigAdd', WHERE WHAT IT READS IS OF BULK AT MOST 1048576: true; the input reads as it did. -/
def fnExactBigAddUptoRow : OpenClaim := { program := "ytlmbcicfpidhcaa", sum := "5502b11db7faa7b0d9392f8891d9666eae0d11054246312d9364c4bebf720110", func := "loop.example/jetton/laws.FnExactBigAdd", spec := "fnExactBigAdd", apart := false, narrowed := true }
def FnExactBigAddUptoSaid : Prop := fnExactBigAddUptoRow.holds Try.pinned (OpenSpec.upto fnExactBigAddSpec)

/-- 'laws.FnExactBigSub', WHERE WHAT IT READS IS OF BULK AT MOST 1048576: true; the input reads as it did. -/
def fnExactBigSubUptoRow : OpenClaim := { program := "ytlmbcicfpidhcaa", sum := "5502b11db7faa7b0d9392f8891d9666eae0d11054246312d9364c4bebf720110", func := "loop.example/jetton/laws.FnExactBigSub", spec := "fnExactBigSub", apart := false, narrowed := true }
def FnExactBigSubUptoSaid : Prop := fnExactBigSubUptoRow.holds Try.pinned (OpenSpec.upto fnExactBigSubSpec)

/-- 'laws.FnExactBigMul', WHERE WHAT IT READS IS OF BULK AT MOST 1048576: true; the input reads as it did. -/
def fnExactBigMulUptoRow : OpenClaim := { program := "ytlmbcicfpidhcaa", sum := "5502b11db7faa7b0d9392f8891d9666eae0d11054246312d9364c4bebf720110", func := "loop.example/jetton/laws.FnExactBigMul", spec := "fnExactBigMul", apart := false, narrowed := true }
def FnExactBigMulUptoSaid : Prop := fnExactBigMulUptoRow.holds Try.pinned (OpenSpec.upto fnExactBigMulSpec)

/-- 'laws.FnExactBigDiv', WHERE WHAT IT READS IS OF BULK AT MOST 1048576: true; the input reads as it did. -/
def fnExactBigDivUptoRow : OpenClaim := { program := "ytlmbcicfpidhcaa", sum := "5502b11db7faa7b0d9392f8891d9666eae0d11054246312d9364c4bebf720110", func := "loop.example/jetton/laws.FnExactBigDiv", spec := "fnExactBigDiv", apart := false, narrowed := true }
def FnExactBigDivUptoSaid : Prop := fnExactBigDivUptoRow.holds Try.pinned (OpenSpec.upto fnExactBigDivSpec)

/-- 'laws.FnExactBigCmp', WHERE WHAT IT READS IS OF BULK AT MOST 1048576: true; the input reads as it did. -/
def fnExactBigCmpUptoRow : OpenClaim := { program := "ytlmbcicfpidhcaa", sum := "5502b11db7faa7b0d9392f8891d9666eae0d11054246312d9364c4bebf720110", func := "loop.example/jetton/laws.FnExactBigCmp", spec := "fnExactBigCmp", apart := false, narrowed := true }
def FnExactBigCmpUptoSaid : Prop := fnExactBigCmpUptoRow.holds Try.pinned (OpenSpec.upto fnExactBigCmpSpec)

/-- 'laws.FnExactBigGet', WHERE WHAT IT READS IS OF BULK AT MOST 1048576: true; the input reads as it did. -/
def fnExactBigGetUptoRow : OpenClaim := { program := "ytlmbcicfpidhcaa", sum := "5502b11db7faa7b0d9392f8891d9666eae0d11054246312d9364c4bebf720110", func := "loop.example/jetton/laws.FnExactBigGet", spec := "fnExactBigGet", apart := false, narrowed := true }
def FnExactBigGetUptoSaid : Prop := fnExactBigGetUptoRow.holds Try.pinned (OpenSpec.upto fnExactBigGetSpec)

/-- 'laws.FnExactBigTen', WHERE WHAT IT READS IS OF BULK AT MOST 1048576: true; the input reads as it did. -/
def fnExactBigTenUptoRow : OpenClaim := { program := "ytlmbcicfpidhcaa", sum := "5502b11db7faa7b0d9392f8891d9666eae0d11054246312d9364c4bebf720110", func := "loop.example/jetton/laws.FnExactBigTen", spec := "fnExactBigTen", apart := false, narrowed := true }
def FnExactBigTenUptoSaid : Prop := fnExactBigTenUptoRow.holds Try.pinned (OpenSpec.upto fnExactBigTenSpec)

end Rows
end Go.Proofs.Ytlmbcicfpidhcaa
