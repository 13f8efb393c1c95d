/-
  NARROWER THAN 'FOR EVERY INPUT', by the rows' own cells (each row's printed sentence says how): FnDecAdd: laid · FnDecSub: laid · FnDecMul: laid · FnDecMulSum: laid · FnDecDiv: laid · FnDecRound: laid · FnDecHalf: laid · FnDecRoundTwice: laid · FnDecMore: laid · FnDecCmp: laid · FnDecTrim: laid.
  DERIVED. THE GIVEN ROWS OF THIS SEAT. 11 by the template 'for every input the law returns true; each argument reads behind the call as it read before'; 0 by the template 'total and deterministic' (their statements: YthnkmjkgcnhlfaaGreatDoorTotals.lean).
  GIVEN WITH THE SEED: the statements are not yours to turn. If you find one false, say at which input.
  Laid BY PROGRAM, IN A SANDBOX (cutbox-rows.mjs): the forced cells as the released guide's own fill.sh prints them over the translation 7691f13b7dd6c325… (all of the seat's roots in one cut). By AI agents, Wed Nov 11 2026. No macro, syntax, notation, axiom, sorry.
-/
import Derived.Test.YthnkmjkgcnhlfaaGreatDoorChecked
import GoSem.Claim
import GoSem.ClaimJoined
import GoSem.ClaimMapViews
import Derived.JoinedTies
import Derived.KernelRfl
namespace Go.Proofs.YthnkmjkgcnhlfaaGreatDoor
/- THE CELL 'sum', in the pinned program and in every row, IS THE sha256 OF THE DUMP (.gsa) THAT YthnkmjkgcnhlfaaGreatDoorProg.lean LOADS. Nothing in Lean hashes anything: it is a label: what it is worth is what the hold of that sum in a sandbox is worth. -/
noncomputable def Tryz.pinned : Pinned := { name := "ythnkmjkgcnhlfaagreatdoor", sum := "7691f13b7dd6c3254a2e6cf7fcdae9daeed563f557076d6d2fb884ed2d903581", checked := Tryz.checked }
namespace Rows
def none {H : Type} : Left H := { results := [], args := [] }

/- WHAT THE LISTED PACKAGE-LEVEL VARIABLES READ AS WHEN THE CALL BEGINS. Each datum BY PROGRAM (the guide's laid-datum.mjs) off the statement by which the dump's own 'gosem.cut.vars' lays the variable. In a bare row this is a premise. The card (YthnkmjkgcnhlfaaGreatDoorCards.lean) ties it to the program's text. -/
def laid_math_bits_deBruijn32tab {H : Type} : DataW H := .agg [.lit (.int .u8 0), .lit (.int .u8 1), .lit (.int .u8 28), .lit (.int .u8 2), .lit (.int .u8 29), .lit (.int .u8 14), .lit (.int .u8 24), .lit (.int .u8 3), .lit (.int .u8 30), .lit (.int .u8 22), .lit (.int .u8 20), .lit (.int .u8 15), .lit (.int .u8 25), .lit (.int .u8 17), .lit (.int .u8 4), .lit (.int .u8 8), .lit (.int .u8 31), .lit (.int .u8 27), .lit (.int .u8 13), .lit (.int .u8 23), .lit (.int .u8 21), .lit (.int .u8 19), .lit (.int .u8 16), .lit (.int .u8 7), .lit (.int .u8 26), .lit (.int .u8 12), .lit (.int .u8 18), .lit (.int .u8 6), .lit (.int .u8 11), .lit (.int .u8 5), .lit (.int .u8 10), .lit (.int .u8 9)]
def laid_math_bits_deBruijn64tab {H : Type} : DataW H := .agg [.lit (.int .u8 0), .lit (.int .u8 1), .lit (.int .u8 56), .lit (.int .u8 2), .lit (.int .u8 57), .lit (.int .u8 49), .lit (.int .u8 28), .lit (.int .u8 3), .lit (.int .u8 61), .lit (.int .u8 58), .lit (.int .u8 42), .lit (.int .u8 50), .lit (.int .u8 38), .lit (.int .u8 29), .lit (.int .u8 17), .lit (.int .u8 4), .lit (.int .u8 62), .lit (.int .u8 47), .lit (.int .u8 59), .lit (.int .u8 36), .lit (.int .u8 45), .lit (.int .u8 43), .lit (.int .u8 51), .lit (.int .u8 22), .lit (.int .u8 53), .lit (.int .u8 39), .lit (.int .u8 33), .lit (.int .u8 30), .lit (.int .u8 24), .lit (.int .u8 18), .lit (.int .u8 12), .lit (.int .u8 5), .lit (.int .u8 63), .lit (.int .u8 55), .lit (.int .u8 48), .lit (.int .u8 27), .lit (.int .u8 60), .lit (.int .u8 41), .lit (.int .u8 37), .lit (.int .u8 16), .lit (.int .u8 46), .lit (.int .u8 35), .lit (.int .u8 44), .lit (.int .u8 21), .lit (.int .u8 52), .lit (.int .u8 32), .lit (.int .u8 23), .lit (.int .u8 11), .lit (.int .u8 54), .lit (.int .u8 26), .lit (.int .u8 40), .lit (.int .u8 15), .lit (.int .u8 34), .lit (.int .u8 20), .lit (.int .u8 31), .lit (.int .u8 10), .lit (.int .u8 25), .lit (.int .u8 14), .lit (.int .u8 19), .lit (.int .u8 9), .lit (.int .u8 13), .lit (.int .u8 8), .lit (.int .u8 7), .lit (.int .u8 6)]
def laid_internal_strconv_uint64pow10 {H : Type} : DataW H := .agg [.lit (.int .u64 1), .lit (.int .u64 10), .lit (.int .u64 100), .lit (.int .u64 1000), .lit (.int .u64 10000), .lit (.int .u64 100000), .lit (.int .u64 1000000), .lit (.int .u64 10000000), .lit (.int .u64 100000000), .lit (.int .u64 1000000000), .lit (.int .u64 10000000000), .lit (.int .u64 100000000000), .lit (.int .u64 1000000000000), .lit (.int .u64 10000000000000), .lit (.int .u64 100000000000000), .lit (.int .u64 1000000000000000), .lit (.int .u64 10000000000000000), .lit (.int .u64 100000000000000000), .lit (.int .u64 1000000000000000000), .lit (.int .u64 10000000000000000000)]
def laid_errors_errorType {H : Type} : DataW H := .iface "internal/reflectlite.rtype" (.agg [.ptr (.lit (.string [101, 114, 114, 111, 114]))])

/-- 'laws.FnDecAdd': WHATEVER THE INPUT: true; the input reads as it did. -/
def fnDecAddSpec : ChangeSpec := { name := "fnDecAdd", fn := fun _ => fun
  | [d] => { results := [.lit (.bool true)], args := [d] }
  | _ => none }
def fnDecAddRow : OpenClaim := { program := "ythnkmjkgcnhlfaagreatdoor", sum := "7691f13b7dd6c3254a2e6cf7fcdae9daeed563f557076d6d2fb884ed2d903581", func := "loop.example/jetton/laws.FnDecAdd", spec := "fnDecAdd", inPlace := ["internal/abi.NoEscape", "internal/reflectlite.ValueOf", "(internal/reflectlite.Value).Type", "(internal/reflectlite.Value).IsNil", "internal/reflectlite.TypeOf", "(internal/reflectlite.Value).Elem", "(internal/reflectlite.Value).Set"], unfollowed := true, recurses := true, named := ["internal/strconv.uint64pow10", "math/bits.deBruijn32tab", "math/bits.deBruijn64tab", "errors.errorType"], apart := false, laid := [("math/bits.deBruijn32tab", laid_math_bits_deBruijn32tab), ("math/bits.deBruijn64tab", laid_math_bits_deBruijn64tab), ("internal/strconv.uint64pow10", laid_internal_strconv_uint64pow10), ("errors.errorType", laid_errors_errorType)] }
def FnDecAddSaid : Prop := fnDecAddRow.holds Tryz.pinned (OpenSpec.ofChange fnDecAddSpec)

/-- ITS FALSE NEIGHBOUR: 'it returns false'. Refute it at one input. -/
def fnDecAddWrong : ChangeSpec := { name := "fnDecAdd", fn := fun _ => fun
  | [d] => { results := [.lit (.bool false)], args := [d] }
  | _ => none }
def FnDecAddWrongFalsely : Prop := fnDecAddRow.holds Tryz.pinned (OpenSpec.ofChange fnDecAddWrong)

/-- 'laws.FnDecSub': WHATEVER THE INPUT: true; the input reads as it did. -/
def fnDecSubSpec : ChangeSpec := { name := "fnDecSub", fn := fun _ => fun
  | [d] => { results := [.lit (.bool true)], args := [d] }
  | _ => none }
def fnDecSubRow : OpenClaim := { program := "ythnkmjkgcnhlfaagreatdoor", sum := "7691f13b7dd6c3254a2e6cf7fcdae9daeed563f557076d6d2fb884ed2d903581", func := "loop.example/jetton/laws.FnDecSub", spec := "fnDecSub", inPlace := ["internal/abi.NoEscape", "internal/reflectlite.ValueOf", "(internal/reflectlite.Value).Type", "(internal/reflectlite.Value).IsNil", "internal/reflectlite.TypeOf", "(internal/reflectlite.Value).Elem", "(internal/reflectlite.Value).Set"], unfollowed := true, recurses := true, named := ["internal/strconv.uint64pow10", "math/bits.deBruijn32tab", "math/bits.deBruijn64tab", "errors.errorType"], apart := false, laid := [("math/bits.deBruijn32tab", laid_math_bits_deBruijn32tab), ("math/bits.deBruijn64tab", laid_math_bits_deBruijn64tab), ("internal/strconv.uint64pow10", laid_internal_strconv_uint64pow10), ("errors.errorType", laid_errors_errorType)] }
def FnDecSubSaid : Prop := fnDecSubRow.holds Tryz.pinned (OpenSpec.ofChange fnDecSubSpec)

/-- ITS FALSE NEIGHBOUR: 'it returns false'. Refute it at one input. -/
def fnDecSubWrong : ChangeSpec := { name := "fnDecSub", fn := fun _ => fun
  | [d] => { results := [.lit (.bool false)], args := [d] }
  | _ => none }
def FnDecSubWrongFalsely : Prop := fnDecSubRow.holds Tryz.pinned (OpenSpec.ofChange fnDecSubWrong)

/-- 'laws.FnDecMul': WHATEVER THE INPUT: true; the input reads as it did. -/
def fnDecMulSpec : ChangeSpec := { name := "fnDecMul", fn := fun _ => fun
  | [d] => { results := [.lit (.bool true)], args := [d] }
  | _ => none }
def fnDecMulRow : OpenClaim := { program := "ythnkmjkgcnhlfaagreatdoor", sum := "7691f13b7dd6c3254a2e6cf7fcdae9daeed563f557076d6d2fb884ed2d903581", func := "loop.example/jetton/laws.FnDecMul", spec := "fnDecMul", inPlace := ["internal/abi.NoEscape", "internal/reflectlite.ValueOf", "(internal/reflectlite.Value).Type", "(internal/reflectlite.Value).IsNil", "internal/reflectlite.TypeOf", "(internal/reflectlite.Value).Elem", "(internal/reflectlite.Value).Set"], unfollowed := true, recurses := true, named := ["internal/strconv.uint64pow10", "math/bits.deBruijn32tab", "math/bits.deBruijn64tab", "errors.errorType"], apart := false, laid := [("math/bits.deBruijn32tab", laid_math_bits_deBruijn32tab), ("math/bits.deBruijn64tab", laid_math_bits_deBruijn64tab), ("internal/strconv.uint64pow10", laid_internal_strconv_uint64pow10), ("errors.errorType", laid_errors_errorType)] }
def FnDecMulSaid : Prop := fnDecMulRow.holds Tryz.pinned (OpenSpec.ofChange fnDecMulSpec)

/-- ITS FALSE NEIGHBOUR: 'it returns false'. Refute it at one input. -/
def fnDecMulWrong : ChangeSpec := { name := "fnDecMul", fn := fun _ => fun
  | [d] => { results := [.lit (.bool false)], args := [d] }
  | _ => none }
def FnDecMulWrongFalsely : Prop := fnDecMulRow.holds Tryz.pinned (OpenSpec.ofChange fnDecMulWrong)

/-- 'laws.FnDecMulSum': WHATEVER THE INPUT: true; the input reads as it did. -/
def fnDecMulSumSpec : ChangeSpec := { name := "fnDecMulSum", fn := fun _ => fun
  | [d1, d2] => { results := [.lit (.bool true)], args := [d1, d2] }
  | _ => none }
def fnDecMulSumRow : OpenClaim := { program := "ythnkmjkgcnhlfaagreatdoor", sum := "7691f13b7dd6c3254a2e6cf7fcdae9daeed563f557076d6d2fb884ed2d903581", func := "loop.example/jetton/laws.FnDecMulSum", spec := "fnDecMulSum", inPlace := ["internal/abi.NoEscape", "internal/reflectlite.ValueOf", "(internal/reflectlite.Value).Type", "(internal/reflectlite.Value).IsNil", "internal/reflectlite.TypeOf", "(internal/reflectlite.Value).Elem", "(internal/reflectlite.Value).Set"], unfollowed := true, recurses := true, named := ["internal/strconv.uint64pow10", "math/bits.deBruijn32tab", "math/bits.deBruijn64tab", "errors.errorType"], apart := false, laid := [("math/bits.deBruijn32tab", laid_math_bits_deBruijn32tab), ("math/bits.deBruijn64tab", laid_math_bits_deBruijn64tab), ("internal/strconv.uint64pow10", laid_internal_strconv_uint64pow10), ("errors.errorType", laid_errors_errorType)] }
def FnDecMulSumSaid : Prop := fnDecMulSumRow.holds Tryz.pinned (OpenSpec.ofChange fnDecMulSumSpec)

/-- ITS FALSE NEIGHBOUR: 'it returns false'. Refute it at one input. -/
def fnDecMulSumWrong : ChangeSpec := { name := "fnDecMulSum", fn := fun _ => fun
  | [d1, d2] => { results := [.lit (.bool false)], args := [d1, d2] }
  | _ => none }
def FnDecMulSumWrongFalsely : Prop := fnDecMulSumRow.holds Tryz.pinned (OpenSpec.ofChange fnDecMulSumWrong)

/-- 'laws.FnDecDiv': WHATEVER THE INPUT: true; the input reads as it did. -/
def fnDecDivSpec : ChangeSpec := { name := "fnDecDiv", fn := fun _ => fun
  | [d] => { results := [.lit (.bool true)], args := [d] }
  | _ => none }
def fnDecDivRow : OpenClaim := { program := "ythnkmjkgcnhlfaagreatdoor", sum := "7691f13b7dd6c3254a2e6cf7fcdae9daeed563f557076d6d2fb884ed2d903581", func := "loop.example/jetton/laws.FnDecDiv", spec := "fnDecDiv", inPlace := ["internal/abi.NoEscape", "internal/reflectlite.ValueOf", "(internal/reflectlite.Value).Type", "(internal/reflectlite.Value).IsNil", "internal/reflectlite.TypeOf", "(internal/reflectlite.Value).Elem", "(internal/reflectlite.Value).Set"], unfollowed := true, recurses := true, named := ["internal/strconv.uint64pow10", "math/bits.deBruijn32tab", "math/bits.deBruijn64tab", "errors.errorType"], apart := false, laid := [("math/bits.deBruijn32tab", laid_math_bits_deBruijn32tab), ("math/bits.deBruijn64tab", laid_math_bits_deBruijn64tab), ("internal/strconv.uint64pow10", laid_internal_strconv_uint64pow10), ("errors.errorType", laid_errors_errorType)] }
def FnDecDivSaid : Prop := fnDecDivRow.holds Tryz.pinned (OpenSpec.ofChange fnDecDivSpec)

/-- ITS FALSE NEIGHBOUR: 'it returns false'. Refute it at one input. -/
def fnDecDivWrong : ChangeSpec := { name := "fnDecDiv", fn := fun _ => fun
  | [d] => { results := [.lit (.bool false)], args := [d] }
  | _ => none }
def FnDecDivWrongFalsely : Prop := fnDecDivRow.holds Tryz.pinned (OpenSpec.ofChange fnDecDivWrong)

/-- 'laws.FnDecRound': WHATEVER THE INPUT: true; the input reads as it did. -/
def fnDecRoundSpec : ChangeSpec := { name := "fnDecRound", fn := fun _ => fun
  | [d] => { results := [.lit (.bool true)], args := [d] }
  | _ => none }
def fnDecRoundRow : OpenClaim := { program := "ythnkmjkgcnhlfaagreatdoor", sum := "7691f13b7dd6c3254a2e6cf7fcdae9daeed563f557076d6d2fb884ed2d903581", func := "loop.example/jetton/laws.FnDecRound", spec := "fnDecRound", inPlace := ["internal/abi.NoEscape", "internal/reflectlite.ValueOf", "(internal/reflectlite.Value).Type", "(internal/reflectlite.Value).IsNil", "internal/reflectlite.TypeOf", "(internal/reflectlite.Value).Elem", "(internal/reflectlite.Value).Set"], unfollowed := true, recurses := true, named := ["internal/strconv.uint64pow10", "math/bits.deBruijn32tab", "math/bits.deBruijn64tab", "errors.errorType"], apart := false, laid := [("math/bits.deBruijn32tab", laid_math_bits_deBruijn32tab), ("math/bits.deBruijn64tab", laid_math_bits_deBruijn64tab), ("internal/strconv.uint64pow10", laid_internal_strconv_uint64pow10), ("errors.errorType", laid_errors_errorType)] }
def FnDecRoundSaid : Prop := fnDecRoundRow.holds Tryz.pinned (OpenSpec.ofChange fnDecRoundSpec)

/-- ITS FALSE NEIGHBOUR: 'it returns false'. Refute it at one input. -/
def fnDecRoundWrong : ChangeSpec := { name := "fnDecRound", fn := fun _ => fun
  | [d] => { results := [.lit (.bool false)], args := [d] }
  | _ => none }
def FnDecRoundWrongFalsely : Prop := fnDecRoundRow.holds Tryz.pinned (OpenSpec.ofChange fnDecRoundWrong)

/-- 'laws.FnDecHalf': WHATEVER THE INPUT: true; the input reads as it did. -/
def fnDecHalfSpec : ChangeSpec := { name := "fnDecHalf", fn := fun _ => fun
  | [d] => { results := [.lit (.bool true)], args := [d] }
  | _ => none }
def fnDecHalfRow : OpenClaim := { program := "ythnkmjkgcnhlfaagreatdoor", sum := "7691f13b7dd6c3254a2e6cf7fcdae9daeed563f557076d6d2fb884ed2d903581", func := "loop.example/jetton/laws.FnDecHalf", spec := "fnDecHalf", inPlace := ["internal/abi.NoEscape", "internal/reflectlite.ValueOf", "(internal/reflectlite.Value).Type", "(internal/reflectlite.Value).IsNil", "internal/reflectlite.TypeOf", "(internal/reflectlite.Value).Elem", "(internal/reflectlite.Value).Set"], unfollowed := true, recurses := true, named := ["internal/strconv.uint64pow10", "math/bits.deBruijn32tab", "math/bits.deBruijn64tab", "errors.errorType"], apart := false, laid := [("math/bits.deBruijn32tab", laid_math_bits_deBruijn32tab), ("math/bits.deBruijn64tab", laid_math_bits_deBruijn64tab), ("internal/strconv.uint64pow10", laid_internal_strconv_uint64pow10), ("errors.errorType", laid_errors_errorType)] }
def FnDecHalfSaid : Prop := fnDecHalfRow.holds Tryz.pinned (OpenSpec.ofChange fnDecHalfSpec)

/-- ITS FALSE NEIGHBOUR: 'it returns false'. Refute it at one input. -/
def fnDecHalfWrong : ChangeSpec := { name := "fnDecHalf", fn := fun _ => fun
  | [d] => { results := [.lit (.bool false)], args := [d] }
  | _ => none }
def FnDecHalfWrongFalsely : Prop := fnDecHalfRow.holds Tryz.pinned (OpenSpec.ofChange fnDecHalfWrong)

/-- 'laws.FnDecRoundTwice': WHATEVER THE INPUT: true; the input reads as it did. -/
def fnDecRoundTwiceSpec : ChangeSpec := { name := "fnDecRoundTwice", fn := fun _ => fun
  | [d1, d2] => { results := [.lit (.bool true)], args := [d1, d2] }
  | _ => none }
def fnDecRoundTwiceRow : OpenClaim := { program := "ythnkmjkgcnhlfaagreatdoor", sum := "7691f13b7dd6c3254a2e6cf7fcdae9daeed563f557076d6d2fb884ed2d903581", func := "loop.example/jetton/laws.FnDecRoundTwice", spec := "fnDecRoundTwice", inPlace := ["internal/abi.NoEscape", "internal/reflectlite.ValueOf", "(internal/reflectlite.Value).Type", "(internal/reflectlite.Value).IsNil", "internal/reflectlite.TypeOf", "(internal/reflectlite.Value).Elem", "(internal/reflectlite.Value).Set"], unfollowed := true, recurses := true, named := ["internal/strconv.uint64pow10", "math/bits.deBruijn32tab", "math/bits.deBruijn64tab", "errors.errorType"], apart := false, laid := [("math/bits.deBruijn32tab", laid_math_bits_deBruijn32tab), ("math/bits.deBruijn64tab", laid_math_bits_deBruijn64tab), ("internal/strconv.uint64pow10", laid_internal_strconv_uint64pow10), ("errors.errorType", laid_errors_errorType)] }
def FnDecRoundTwiceSaid : Prop := fnDecRoundTwiceRow.holds Tryz.pinned (OpenSpec.ofChange fnDecRoundTwiceSpec)

/-- ITS FALSE NEIGHBOUR: 'it returns false'. Refute it at one input. -/
def fnDecRoundTwiceWrong : ChangeSpec := { name := "fnDecRoundTwice", fn := fun _ => fun
  | [d1, d2] => { results := [.lit (.bool false)], args := [d1, d2] }
  | _ => none }
def FnDecRoundTwiceWrongFalsely : Prop := fnDecRoundTwiceRow.holds Tryz.pinned (OpenSpec.ofChange fnDecRoundTwiceWrong)

/-- 'laws.FnDecMore': WHATEVER THE INPUT: true; the input reads as it did. -/
def fnDecMoreSpec : ChangeSpec := { name := "fnDecMore", fn := fun _ => fun
  | [d] => { results := [.lit (.bool true)], args := [d] }
  | _ => none }
def fnDecMoreRow : OpenClaim := { program := "ythnkmjkgcnhlfaagreatdoor", sum := "7691f13b7dd6c3254a2e6cf7fcdae9daeed563f557076d6d2fb884ed2d903581", func := "loop.example/jetton/laws.FnDecMore", spec := "fnDecMore", inPlace := ["internal/abi.NoEscape", "internal/reflectlite.ValueOf", "(internal/reflectlite.Value).Type", "(internal/reflectlite.Value).IsNil", "internal/reflectlite.TypeOf", "(internal/reflectlite.Value).Elem", "(internal/reflectlite.Value).Set"], unfollowed := true, recurses := true, named := ["internal/strconv.uint64pow10", "math/bits.deBruijn32tab", "math/bits.deBruijn64tab", "errors.errorType"], apart := false, laid := [("math/bits.deBruijn32tab", laid_math_bits_deBruijn32tab), ("math/bits.deBruijn64tab", laid_math_bits_deBruijn64tab), ("internal/strconv.uint64pow10", laid_internal_strconv_uint64pow10), ("errors.errorType", laid_errors_errorType)] }
def FnDecMoreSaid : Prop := fnDecMoreRow.holds Tryz.pinned (OpenSpec.ofChange fnDecMoreSpec)

/-- ITS FALSE NEIGHBOUR: 'it returns false'. Refute it at one input. -/
def fnDecMoreWrong : ChangeSpec := { name := "fnDecMore", fn := fun _ => fun
  | [d] => { results := [.lit (.bool false)], args := [d] }
  | _ => none }
def FnDecMoreWrongFalsely : Prop := fnDecMoreRow.holds Tryz.pinned (OpenSpec.ofChange fnDecMoreWrong)

/-- 'laws.FnDecCmp': WHATEVER THE INPUT: true; the input reads as it did. -/
def fnDecCmpSpec : ChangeSpec := { name := "fnDecCmp", fn := fun _ => fun
  | [d] => { results := [.lit (.bool true)], args := [d] }
  | _ => none }
def fnDecCmpRow : OpenClaim := { program := "ythnkmjkgcnhlfaagreatdoor", sum := "7691f13b7dd6c3254a2e6cf7fcdae9daeed563f557076d6d2fb884ed2d903581", func := "loop.example/jetton/laws.FnDecCmp", spec := "fnDecCmp", inPlace := ["internal/abi.NoEscape", "internal/reflectlite.ValueOf", "(internal/reflectlite.Value).Type", "(internal/reflectlite.Value).IsNil", "internal/reflectlite.TypeOf", "(internal/reflectlite.Value).Elem", "(internal/reflectlite.Value).Set"], unfollowed := true, recurses := true, named := ["internal/strconv.uint64pow10", "math/bits.deBruijn32tab", "math/bits.deBruijn64tab", "errors.errorType"], apart := false, laid := [("math/bits.deBruijn32tab", laid_math_bits_deBruijn32tab), ("math/bits.deBruijn64tab", laid_math_bits_deBruijn64tab), ("internal/strconv.uint64pow10", laid_internal_strconv_uint64pow10), ("errors.errorType", laid_errors_errorType)] }
def FnDecCmpSaid : Prop := fnDecCmpRow.holds Tryz.pinned (OpenSpec.ofChange fnDecCmpSpec)

/-- ITS FALSE NEIGHBOUR: 'it returns false'. Refute it at one input. -/
def fnDecCmpWrong : ChangeSpec := { name := "fnDecCmp", fn := fun _ => fun
  | [d] => { results := [.lit (.bool false)], args := [d] }
  | _ => none }
def FnDecCmpWrongFalsely : Prop := fnDecCmpRow.holds Tryz.pinned (OpenSpec.ofChange fnDecCmpWrong)

/-- 'laws.FnDecTrim': WHATEVER THE INPUT: true; the input reads as it did. -/
def fnDecTrimSpec : ChangeSpec := { name := "fnDecTrim", fn := fun _ => fun
  | [d] => { results := [.lit (.bool true)], args := [d] }
  | _ => none }
def fnDecTrimRow : OpenClaim := { program := "ythnkmjkgcnhlfaagreatdoor", sum := "7691f13b7dd6c3254a2e6cf7fcdae9daeed563f557076d6d2fb884ed2d903581", func := "loop.example/jetton/laws.FnDecTrim", spec := "fnDecTrim", inPlace := ["internal/abi.NoEscape", "internal/reflectlite.ValueOf", "(internal/reflectlite.Value).Type", "(internal/reflectlite.Value).IsNil", "internal/reflectlite.TypeOf", "(internal/reflectlite.Value).Elem", "(internal/reflectlite.Value).Set"], unfollowed := true, recurses := true, named := ["internal/strconv.uint64pow10", "math/bits.deBruijn32tab", "math/bits.deBruijn64tab", "errors.errorType"], apart := false, laid := [("math/bits.deBruijn32tab", laid_math_bits_deBruijn32tab), ("math/bits.deBruijn64tab", laid_math_bits_deBruijn64tab), ("internal/strconv.uint64pow10", laid_internal_strconv_uint64pow10), ("errors.errorType", laid_errors_errorType)] }
def FnDecTrimSaid : Prop := fnDecTrimRow.holds Tryz.pinned (OpenSpec.ofChange fnDecTrimSpec)

/-- ITS FALSE NEIGHBOUR: 'it returns false'. Refute it at one input. -/
def fnDecTrimWrong : ChangeSpec := { name := "fnDecTrim", fn := fun _ => fun
  | [d] => { results := [.lit (.bool false)], args := [d] }
  | _ => none }
def FnDecTrimWrongFalsely : Prop := fnDecTrimRow.holds Tryz.pinned (OpenSpec.ofChange fnDecTrimWrong)

/- THE SECOND FORM. 'bulk': how many values and letters a reading holds, each counted each time it is reached (what is shared counts as often as it is met; a slice's spare places count too). A statement '..UptoSaid' is the law's where the arguments, and the package variables that the reading takes, are together of bulk at most 1048576: NARROWER than '..Said'. Prove '..Said' where nothing that the law and all that it calls make is longer than what came in: it says more and counts as full. Else prove '..UptoSaid'. A law counts once. -/
mutual
def uptoBulk {H : Type} : DataW H → Nat
  | .lit (.string bytes) => bytes.length + 1
  | .lit _ => 1
  | .nil => 1
  | .ptr d => uptoBulk d + 1
  | .slice elems spare => uptoBulkAll elems + uptoBulkAll spare + 1
  | .agg parts => uptoBulkAll parts + 1
  | .iface _ d => uptoBulk d + 1
  | .map entries => uptoBulkEntries entries + 1
  | .held _ => 1
def uptoBulkAll {H : Type} : List (DataW H) → Nat
  | [] => 0
  | d :: r => uptoBulk d + uptoBulkAll r
def uptoBulkEntries {H : Type} : List (Lit × DataW H) → Nat
  | [] => 0
  | x :: r => uptoBulkEntry x + uptoBulkEntries r
def uptoBulkEntry {H : Type} : Lit × DataW H → Nat
  | (.string bytes, d) => bytes.length + uptoBulk d + 1
  | (_, d) => uptoBulk d + 1
 end
def uptoSmall : (H : Type) → List (DataW H) → Bool := fun _ ds => decide (uptoBulkAll ds ≤ 1048576)
def OpenSpec.upto (s : _root_.Go.ChangeSpec) : _root_.Go.OpenSpec := { _root_.Go.OpenSpec.ofChange s with cond := some uptoSmall }

/-- 'laws.FnDecAdd', WHERE WHAT IT READS IS OF BULK AT MOST 1048576: true; the input reads as it did. -/
def fnDecAddUptoRow : OpenClaim := { program := "ythnkmjkgcnhlfaagreatdoor", sum := "7691f13b7dd6c3254a2e6cf7fcdae9daeed563f557076d6d2fb884ed2d903581", func := "loop.example/jetton/laws.FnDecAdd", spec := "fnDecAdd", inPlace := ["internal/abi.NoEscape", "internal/reflectlite.ValueOf", "(internal/reflectlite.Value).Type", "(internal/reflectlite.Value).IsNil", "internal/reflectlite.TypeOf", "(internal/reflectlite.Value).Elem", "(internal/reflectlite.Value).Set"], unfollowed := true, recurses := true, named := ["internal/strconv.uint64pow10", "math/bits.deBruijn32tab", "math/bits.deBruijn64tab", "errors.errorType"], apart := false, laid := [("math/bits.deBruijn32tab", laid_math_bits_deBruijn32tab), ("math/bits.deBruijn64tab", laid_math_bits_deBruijn64tab), ("internal/strconv.uint64pow10", laid_internal_strconv_uint64pow10), ("errors.errorType", laid_errors_errorType)], narrowed := true }
def FnDecAddUptoSaid : Prop := fnDecAddUptoRow.holds Tryz.pinned (OpenSpec.upto fnDecAddSpec)

/-- 'laws.FnDecSub', WHERE WHAT IT READS IS OF BULK AT MOST 1048576: true; the input reads as it did. -/
def fnDecSubUptoRow : OpenClaim := { program := "ythnkmjkgcnhlfaagreatdoor", sum := "7691f13b7dd6c3254a2e6cf7fcdae9daeed563f557076d6d2fb884ed2d903581", func := "loop.example/jetton/laws.FnDecSub", spec := "fnDecSub", inPlace := ["internal/abi.NoEscape", "internal/reflectlite.ValueOf", "(internal/reflectlite.Value).Type", "(internal/reflectlite.Value).IsNil", "internal/reflectlite.TypeOf", "(internal/reflectlite.Value).Elem", "(internal/reflectlite.Value).Set"], unfollowed := true, recurses := true, named := ["internal/strconv.uint64pow10", "math/bits.deBruijn32tab", "math/bits.deBruijn64tab", "errors.errorType"], apart := false, laid := [("math/bits.deBruijn32tab", laid_math_bits_deBruijn32tab), ("math/bits.deBruijn64tab", laid_math_bits_deBruijn64tab), ("internal/strconv.uint64pow10", laid_internal_strconv_uint64pow10), ("errors.errorType", laid_errors_errorType)], narrowed := true }
def FnDecSubUptoSaid : Prop := fnDecSubUptoRow.holds Tryz.pinned (OpenSpec.upto fnDecSubSpec)

/-- 'laws.FnDecMul', WHERE WHAT IT READS IS OF BULK AT MOST 1048576: true; the input reads as it did. -/
def fnDecMulUptoRow : OpenClaim := { program := "ythnkmjkgcnhlfaagreatdoor", sum := "7691f13b7dd6c3254a2e6cf7fcdae9daeed563f557076d6d2fb884ed2d903581", func := "loop.example/jetton/laws.FnDecMul", spec := "fnDecMul", inPlace := ["internal/abi.NoEscape", "internal/reflectlite.ValueOf", "(internal/reflectlite.Value).Type", "(internal/reflectlite.Value).IsNil", "internal/reflectlite.TypeOf", "(internal/reflectlite.Value).Elem", "(internal/reflectlite.Value).Set"], unfollowed := true, recurses := true, named := ["internal/strconv.uint64pow10", "math/bits.deBruijn32tab", "math/bits.deBruijn64tab", "errors.errorType"], apart := false, laid := [("math/bits.deBruijn32tab", laid_math_bits_deBruijn32tab), ("math/bits.deBruijn64tab", laid_math_bits_deBruijn64tab), ("internal/strconv.uint64pow10", laid_internal_strconv_uint64pow10), ("errors.errorType", laid_errors_errorType)], narrowed := true }
def FnDecMulUptoSaid : Prop := fnDecMulUptoRow.holds Tryz.pinned (OpenSpec.upto fnDecMulSpec)

/-- 'laws.FnDecMulSum', WHERE WHAT IT READS IS OF BULK AT MOST 1048576: true; the input reads as it did. -/
def fnDecMulSumUptoRow : OpenClaim := { program := "ythnkmjkgcnhlfaagreatdoor", sum := "7691f13b7dd6c3254a2e6cf7fcdae9daeed563f557076d6d2fb884ed2d903581", func := "loop.example/jetton/laws.FnDecMulSum", spec := "fnDecMulSum", inPlace := ["internal/abi.NoEscape", "internal/reflectlite.ValueOf", "(internal/reflectlite.Value).Type", "(internal/reflectlite.Value).IsNil", "internal/reflectlite.TypeOf", "(internal/reflectlite.Value).Elem", "(internal/reflectlite.Value).Set"], unfollowed := true, recurses := true, named := ["internal/strconv.uint64pow10", "math/bits.deBruijn32tab", "math/bits.deBruijn64tab", "errors.errorType"], apart := false, laid := [("math/bits.deBruijn32tab", laid_math_bits_deBruijn32tab), ("math/bits.deBruijn64tab", laid_math_bits_deBruijn64tab), ("internal/strconv.uint64pow10", laid_internal_strconv_uint64pow10), ("errors.errorType", laid_errors_errorType)], narrowed := true }
def FnDecMulSumUptoSaid : Prop := fnDecMulSumUptoRow.holds Tryz.pinned (OpenSpec.upto fnDecMulSumSpec)

/-- 'laws.FnDecDiv', WHERE WHAT IT READS IS OF BULK AT MOST 1048576: true; the input reads as it did. -/
def fnDecDivUptoRow : OpenClaim := { program := "ythnkmjkgcnhlfaagreatdoor", sum := "7691f13b7dd6c3254a2e6cf7fcdae9daeed563f557076d6d2fb884ed2d903581", func := "loop.example/jetton/laws.FnDecDiv", spec := "fnDecDiv", inPlace := ["internal/abi.NoEscape", "internal/reflectlite.ValueOf", "(internal/reflectlite.Value).Type", "(internal/reflectlite.Value).IsNil", "internal/reflectlite.TypeOf", "(internal/reflectlite.Value).Elem", "(internal/reflectlite.Value).Set"], unfollowed := true, recurses := true, named := ["internal/strconv.uint64pow10", "math/bits.deBruijn32tab", "math/bits.deBruijn64tab", "errors.errorType"], apart := false, laid := [("math/bits.deBruijn32tab", laid_math_bits_deBruijn32tab), ("math/bits.deBruijn64tab", laid_math_bits_deBruijn64tab), ("internal/strconv.uint64pow10", laid_internal_strconv_uint64pow10), ("errors.errorType", laid_errors_errorType)], narrowed := true }
def FnDecDivUptoSaid : Prop := fnDecDivUptoRow.holds Tryz.pinned (OpenSpec.upto fnDecDivSpec)

/-- 'laws.FnDecRound', WHERE WHAT IT READS IS OF BULK AT MOST 1048576: true; the input reads as it did. -/
def fnDecRoundUptoRow : OpenClaim := { program := "ythnkmjkgcnhlfaagreatdoor", sum := "7691f13b7dd6c3254a2e6cf7fcdae9daeed563f557076d6d2fb884ed2d903581", func := "loop.example/jetton/laws.FnDecRound", spec := "fnDecRound", inPlace := ["internal/abi.NoEscape", "internal/reflectlite.ValueOf", "(internal/reflectlite.Value).Type", "(internal/reflectlite.Value).IsNil", "internal/reflectlite.TypeOf", "(internal/reflectlite.Value).Elem", "(internal/reflectlite.Value).Set"], unfollowed := true, recurses := true, named := ["internal/strconv.uint64pow10", "math/bits.deBruijn32tab", "math/bits.deBruijn64tab", "errors.errorType"], apart := false, laid := [("math/bits.deBruijn32tab", laid_math_bits_deBruijn32tab), ("math/bits.deBruijn64tab", laid_math_bits_deBruijn64tab), ("internal/strconv.uint64pow10", laid_internal_strconv_uint64pow10), ("errors.errorType", laid_errors_errorType)], narrowed := true }
def FnDecRoundUptoSaid : Prop := fnDecRoundUptoRow.holds Tryz.pinned (OpenSpec.upto fnDecRoundSpec)

/-- 'laws.FnDecHalf', WHERE WHAT IT READS IS OF BULK AT MOST 1048576: true; the input reads as it did. -/
def fnDecHalfUptoRow : OpenClaim := { program := "ythnkmjkgcnhlfaagreatdoor", sum := "7691f13b7dd6c3254a2e6cf7fcdae9daeed563f557076d6d2fb884ed2d903581", func := "loop.example/jetton/laws.FnDecHalf", spec := "fnDecHalf", inPlace := ["internal/abi.NoEscape", "internal/reflectlite.ValueOf", "(internal/reflectlite.Value).Type", "(internal/reflectlite.Value).IsNil", "internal/reflectlite.TypeOf", "(internal/reflectlite.Value).Elem", "(internal/reflectlite.Value).Set"], unfollowed := true, recurses := true, named := ["internal/strconv.uint64pow10", "math/bits.deBruijn32tab", "math/bits.deBruijn64tab", "errors.errorType"], apart := false, laid := [("math/bits.deBruijn32tab", laid_math_bits_deBruijn32tab), ("math/bits.deBruijn64tab", laid_math_bits_deBruijn64tab), ("internal/strconv.uint64pow10", laid_internal_strconv_uint64pow10), ("errors.errorType", laid_errors_errorType)], narrowed := true }
def FnDecHalfUptoSaid : Prop := fnDecHalfUptoRow.holds Tryz.pinned (OpenSpec.upto fnDecHalfSpec)

/-- 'laws.FnDecRoundTwice', WHERE WHAT IT READS IS OF BULK AT MOST 1048576: true; the input reads as it did. -/
def fnDecRoundTwiceUptoRow : OpenClaim := { program := "ythnkmjkgcnhlfaagreatdoor", sum := "7691f13b7dd6c3254a2e6cf7fcdae9daeed563f557076d6d2fb884ed2d903581", func := "loop.example/jetton/laws.FnDecRoundTwice", spec := "fnDecRoundTwice", inPlace := ["internal/abi.NoEscape", "internal/reflectlite.ValueOf", "(internal/reflectlite.Value).Type", "(internal/reflectlite.Value).IsNil", "internal/reflectlite.TypeOf", "(internal/reflectlite.Value).Elem", "(internal/reflectlite.Value).Set"], unfollowed := true, recurses := true, named := ["internal/strconv.uint64pow10", "math/bits.deBruijn32tab", "math/bits.deBruijn64tab", "errors.errorType"], apart := false, laid := [("math/bits.deBruijn32tab", laid_math_bits_deBruijn32tab), ("math/bits.deBruijn64tab", laid_math_bits_deBruijn64tab), ("internal/strconv.uint64pow10", laid_internal_strconv_uint64pow10), ("errors.errorType", laid_errors_errorType)], narrowed := true }
def FnDecRoundTwiceUptoSaid : Prop := fnDecRoundTwiceUptoRow.holds Tryz.pinned (OpenSpec.upto fnDecRoundTwiceSpec)

/-- 'laws.FnDecMore', WHERE WHAT IT READS IS OF BULK AT MOST 1048576: true; the input reads as it did. -/
def fnDecMoreUptoRow : OpenClaim := { program := "ythnkmjkgcnhlfaagreatdoor", sum := "7691f13b7dd6c3254a2e6cf7fcdae9daeed563f557076d6d2fb884ed2d903581", func := "loop.example/jetton/laws.FnDecMore", spec := "fnDecMore", inPlace := ["internal/abi.NoEscape", "internal/reflectlite.ValueOf", "(internal/reflectlite.Value).Type", "(internal/reflectlite.Value).IsNil", "internal/reflectlite.TypeOf", "(internal/reflectlite.Value).Elem", "(internal/reflectlite.Value).Set"], unfollowed := true, recurses := true, named := ["internal/strconv.uint64pow10", "math/bits.deBruijn32tab", "math/bits.deBruijn64tab", "errors.errorType"], apart := false, laid := [("math/bits.deBruijn32tab", laid_math_bits_deBruijn32tab), ("math/bits.deBruijn64tab", laid_math_bits_deBruijn64tab), ("internal/strconv.uint64pow10", laid_internal_strconv_uint64pow10), ("errors.errorType", laid_errors_errorType)], narrowed := true }
def FnDecMoreUptoSaid : Prop := fnDecMoreUptoRow.holds Tryz.pinned (OpenSpec.upto fnDecMoreSpec)

/-- 'laws.FnDecCmp', WHERE WHAT IT READS IS OF BULK AT MOST 1048576: true; the input reads as it did. -/
def fnDecCmpUptoRow : OpenClaim := { program := "ythnkmjkgcnhlfaagreatdoor", sum := "7691f13b7dd6c3254a2e6cf7fcdae9daeed563f557076d6d2fb884ed2d903581", func := "loop.example/jetton/laws.FnDecCmp", spec := "fnDecCmp", inPlace := ["internal/abi.NoEscape", "internal/reflectlite.ValueOf", "(internal/reflectlite.Value).Type", "(internal/reflectlite.Value).IsNil", "internal/reflectlite.TypeOf", "(internal/reflectlite.Value).Elem", "(internal/reflectlite.Value).Set"], unfollowed := true, recurses := true, named := ["internal/strconv.uint64pow10", "math/bits.deBruijn32tab", "math/bits.deBruijn64tab", "errors.errorType"], apart := false, laid := [("math/bits.deBruijn32tab", laid_math_bits_deBruijn32tab), ("math/bits.deBruijn64tab", laid_math_bits_deBruijn64tab), ("internal/strconv.uint64pow10", laid_internal_strconv_uint64pow10), ("errors.errorType", laid_errors_errorType)], narrowed := true }
def FnDecCmpUptoSaid : Prop := fnDecCmpUptoRow.holds Tryz.pinned (OpenSpec.upto fnDecCmpSpec)

/-- 'laws.FnDecTrim', WHERE WHAT IT READS IS OF BULK AT MOST 1048576: true; the input reads as it did. -/
def fnDecTrimUptoRow : OpenClaim := { program := "ythnkmjkgcnhlfaagreatdoor", sum := "7691f13b7dd6c3254a2e6cf7fcdae9daeed563f557076d6d2fb884ed2d903581", func := "loop.example/jetton/laws.FnDecTrim", spec := "fnDecTrim", inPlace := ["internal/abi.NoEscape", "internal/reflectlite.ValueOf", "(internal/reflectlite.Value).Type", "(internal/reflectlite.Value).IsNil", "internal/reflectlite.TypeOf", "(internal/reflectlite.Value).Elem", "(internal/reflectlite.Value).Set"], unfollowed := true, recurses := true, named := ["internal/strconv.uint64pow10", "math/bits.deBruijn32tab", "math/bits.deBruijn64tab", "errors.errorType"], apart := false, laid := [("math/bits.deBruijn32tab", laid_math_bits_deBruijn32tab), ("math/bits.deBruijn64tab", laid_math_bits_deBruijn64tab), ("internal/strconv.uint64pow10", laid_internal_strconv_uint64pow10), ("errors.errorType", laid_errors_errorType)], narrowed := true }
def FnDecTrimUptoSaid : Prop := fnDecTrimUptoRow.holds Tryz.pinned (OpenSpec.upto fnDecTrimSpec)

end Rows
end Go.Proofs.YthnkmjkgcnhlfaaGreatDoor
