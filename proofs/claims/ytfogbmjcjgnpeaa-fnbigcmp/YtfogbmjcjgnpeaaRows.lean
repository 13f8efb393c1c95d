/-
  No cell of these rows narrows 'for every input' (looked for: loops, veiled, ifaces, maps, wideKeys, modest, calm, conditions, laid).
  DERIVED. THE GIVEN ROWS OF THIS SEAT. 4 by the template 'for every input the law returns true; each argument reads behind the call as it read before'; 0 by the template 'total and deterministic' (their statements: YtfogbmjcjgnpeaaTotals.lean).
  GIVEN WITH THE SEED: the statements are not yours to turn. If you find one false, say at which input.
  Laid BY PROGRAM, IN A SANDBOX (cutbox-rows.mjs): the forced cells as the released guide's own fill.sh prints them over the translation e110f933001333ab… (all of the seat's roots in one cut). By AI agents, Wed Nov 11 2026. No macro, syntax, notation, axiom, sorry.
-/
import Derived.Test.YtfogbmjcjgnpeaaChecked
import GoSem.Claim
import GoSem.ClaimJoined
import GoSem.ClaimMapViews
import Derived.JoinedTies
import Derived.KernelRfl
namespace Go.Proofs.Ytfogbmjcjgnpeaa
/- THE CELL 'sum', in the pinned program and in every row, IS THE sha256 OF THE DUMP (.gsa) THAT YtfogbmjcjgnpeaaProg.lean LOADS. Nothing in Lean hashes anything: it is a label: what it is worth is what the hold of that sum in a sandbox is worth. -/
noncomputable def Try.pinned : Pinned := { name := "ytfogbmjcjgnpeaa", sum := "e110f933001333ab21251be8c2132c4de68ee2c6f978866e798a0d7149e5588a", checked := Try.checked }
namespace Rows
def none {H : Type} : Left H := { results := [], args := [] }

/-- 'laws.FnBigAdd': WHATEVER THE INPUT: true; the input reads as it did. -/
def fnBigAddSpec : ChangeSpec := { name := "fnBigAdd", fn := fun _ => fun
  | [d] => { results := [.lit (.bool true)], args := [d] }
  | _ => none }
def fnBigAddRow : OpenClaim := { program := "ytfogbmjcjgnpeaa", sum := "e110f933001333ab21251be8c2132c4de68ee2c6f978866e798a0d7149e5588a", func := "loop.example/jetton/laws.FnBigAdd", spec := "fnBigAdd", apart := false }
def FnBigAddSaid : Prop := fnBigAddRow.holds Try.pinned (OpenSpec.ofChange fnBigAddSpec)

/-- ITS FALSE NEIGHBOUR: 'it returns false'. Refute it at one input. -/
def fnBigAddWrong : ChangeSpec := { name := "fnBigAdd", fn := fun _ => fun
  | [d] => { results := [.lit (.bool false)], args := [d] }
  | _ => none }
def FnBigAddWrongFalsely : Prop := fnBigAddRow.holds Try.pinned (OpenSpec.ofChange fnBigAddWrong)

/-- 'laws.FnBigSub': WHATEVER THE INPUT: true; the input reads as it did. -/
def fnBigSubSpec : ChangeSpec := { name := "fnBigSub", fn := fun _ => fun
  | [d] => { results := [.lit (.bool true)], args := [d] }
  | _ => none }
def fnBigSubRow : OpenClaim := { program := "ytfogbmjcjgnpeaa", sum := "e110f933001333ab21251be8c2132c4de68ee2c6f978866e798a0d7149e5588a", func := "loop.example/jetton/laws.FnBigSub", spec := "fnBigSub", apart := false }
def FnBigSubSaid : Prop := fnBigSubRow.holds Try.pinned (OpenSpec.ofChange fnBigSubSpec)

/-- ITS FALSE NEIGHBOUR: 'it returns false'. Refute it at one input. -/
def fnBigSubWrong : ChangeSpec := { name := "fnBigSub", fn := fun _ => fun
  | [d] => { results := [.lit (.bool false)], args := [d] }
  | _ => none }
def FnBigSubWrongFalsely : Prop := fnBigSubRow.holds Try.pinned (OpenSpec.ofChange fnBigSubWrong)

/-- 'laws.FnBigCmp': WHATEVER THE INPUT: true; the input reads as it did. -/
def fnBigCmpSpec : ChangeSpec := { name := "fnBigCmp", fn := fun _ => fun
  | [d] => { results := [.lit (.bool true)], args := [d] }
  | _ => none }
def fnBigCmpRow : OpenClaim := { program := "ytfogbmjcjgnpeaa", sum := "e110f933001333ab21251be8c2132c4de68ee2c6f978866e798a0d7149e5588a", func := "loop.example/jetton/laws.FnBigCmp", spec := "fnBigCmp", apart := false }
def FnBigCmpSaid : Prop := fnBigCmpRow.holds Try.pinned (OpenSpec.ofChange fnBigCmpSpec)

/-- ITS FALSE NEIGHBOUR: 'it returns false'. Refute it at one input. -/
def fnBigCmpWrong : ChangeSpec := { name := "fnBigCmp", fn := fun _ => fun
  | [d] => { results := [.lit (.bool false)], args := [d] }
  | _ => none }
def FnBigCmpWrongFalsely : Prop := fnBigCmpRow.holds Try.pinned (OpenSpec.ofChange fnBigCmpWrong)

/-- 'laws.FnBigOf': WHATEVER THE INPUT: true; the input reads as it did. -/
def fnBigOfSpec : ChangeSpec := { name := "fnBigOf", fn := fun _ => fun
  | [d1, d2] => { results := [.lit (.bool true)], args := [d1, d2] }
  | _ => none }
def fnBigOfRow : OpenClaim := { program := "ytfogbmjcjgnpeaa", sum := "e110f933001333ab21251be8c2132c4de68ee2c6f978866e798a0d7149e5588a", func := "loop.example/jetton/laws.FnBigOf", spec := "fnBigOf", apart := false }
def FnBigOfSaid : Prop := fnBigOfRow.holds Try.pinned (OpenSpec.ofChange fnBigOfSpec)

/-- ITS FALSE NEIGHBOUR: 'it returns false'. Refute it at one input. -/
def fnBigOfWrong : ChangeSpec := { name := "fnBigOf", fn := fun _ => fun
  | [d1, d2] => { results := [.lit (.bool false)], args := [d1, d2] }
  | _ => none }
def FnBigOfWrongFalsely : Prop := fnBigOfRow.holds Try.pinned (OpenSpec.ofChange fnBigOfWrong)

/- THE SECOND FORM. 'bulk': how many values and letters a reading holds, each counted each time it is reached (what is shared counts as often as it is met; a slice's spare places count too). A statement '..UptoSaid' is the law's where the arguments, and the package variables that the reading takes, are together of bulk at most 1048576: NARROWER than '..Said'. Prove '..Said' where nothing that the law and all that it calls make is longer than what came in: it says more and counts as full. Else prove '..UptoSaid'. A law counts once. -/
mutual
def uptoBulk {H : Type} : DataW H → Nat
  | .lit (.string bytes) => bytes.length + 1
  | .lit _ => 1
  | .nil => 1
  | .ptr d => uptoBulk d + 1
  | .slice elems spare => uptoBulkAll elems + uptoBulkAll spare + 1
  | .agg parts => uptoBulkAll parts + 1
  | .iface _ d => uptoBulk d + 1
  | .map entries => uptoBulkEntries entries + 1
  | .held _ => 1
def uptoBulkAll {H : Type} : List (DataW H) → Nat
  | [] => 0
  | d :: r => uptoBulk d + uptoBulkAll r
def uptoBulkEntries {H : Type} : List (Lit × DataW H) → Nat
  | [] => 0
  | x :: r => uptoBulkEntry x + uptoBulkEntries r
def uptoBulkEntry {H : Type} : Lit × DataW H → Nat
  | (.string bytes, d) => bytes.length + uptoBulk d + 1
  | (_, d) => uptoBulk d + 1
 end
def uptoSmall : (H : Type) → List (DataW H) → Bool := fun _ ds => decide (uptoBulkAll ds ≤ 1048576)
def OpenSpec.upto (s : _root_.Go.ChangeSpec) : _root_.Go.OpenSpec := { _root_.Go.OpenSpec.ofChange s with cond := some uptoSmall }

/-- 'laws.FnBigAdd', WHERE WHAT IT READS IS OF BULK AT MOST 1048576: true; the input reads as it did. -/
def fnBigAddUptoRow : OpenClaim := { program := "ytfogbmjcjgnpeaa", sum := "e110f933001333ab21251be8c2132c4de68ee2c6f978866e798a0d7149e5588a", func := "loop.example/jetton/laws.FnBigAdd", spec := "fnBigAdd", apart := false, narrowed := true }
def FnBigAddUptoSaid : Prop := fnBigAddUptoRow.holds Try.pinned (OpenSpec.upto fnBigAddSpec)

/-- 'laws.FnBigSub', WHERE WHAT IT READS IS OF BULK AT MOST 1048576: true; the input reads as it did. -/
def fnBigSubUptoRow : OpenClaim := { program := "ytfogbmjcjgnpeaa", sum := "e110f933001333ab21251be8c2132c4de68ee2c6f978866e798a0d7149e5588a", func := "loop.example/jetton/laws.FnBigSub", spec := "fnBigSub", apart := false, narrowed := true }
def FnBigSubUptoSaid : Prop := fnBigSubUptoRow.holds Try.pinned (OpenSpec.upto fnBigSubSpec)

/-- 'laws.FnBigCmp', WHERE WHAT IT READS IS OF BULK AT MOST 1048576: true; the input reads as it did. -/
def fnBigCmpUptoRow : OpenClaim := { program := "ytfogbmjcjgnpeaa", sum := "e110f933001333ab21251be8c2132c4de68ee2c6f978866e798a0d7149e5588a", func := "loop.example/jetton/laws.FnBigCmp", spec := "fnBigCmp", apart := false, narrowed := true }
def FnBigCmpUptoSaid : Prop := fnBigCmpUptoRow.holds Try.pinned (OpenSpec.upto fnBigCmpSpec)

/-- 'laws.FnBigOf', WHERE WHAT IT READS IS OF BULK AT MOST 1048576: true; the input reads as it did. -/
def fnBigOfUptoRow : OpenClaim := { program := "ytfogbmjcjgnpeaa", sum := "e110f933001333ab21251be8c2132c4de68ee2c6f978866e798a0d7149e5588a", func := "loop.example/jetton/laws.FnBigOf", spec := "fnBigOf", apart := false, narrowed := true }
def FnBigOfUptoSaid : Prop := fnBigOfUptoRow.holds Try.pinned (OpenSpec.upto fnBigOfSpec)

end Rows
end Go.Proofs.Ytfogbmjcjgnpeaa
