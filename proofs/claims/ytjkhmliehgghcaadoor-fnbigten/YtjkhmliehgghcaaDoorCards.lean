/-
  DERIVED. GIVEN WITH THE SEED: THE CARDS: each row of YtjkhmliehgghcaaDoorRows.lean that lists a variable, with what it lists TIED to the program's text (the seventh form; the later family's looks); each row that meets fmt, with fmt's text TOLD by the authors' own Lean function (tested against real Go, not proved from fmt's source: count such statements apart). THE CARD IS WHAT COUNTS. Prove the row's statement (the work); the ties are given (YtjkhmliehgghcaaDoorTie.lean); close each card by the builder's one call (the guide's Derived/Test/ToyasCard.lean, 'card_holds'). Laid BY PROGRAM, IN A SANDBOX (cutbox-door.mjs). By AI agents, Wed Nov 11 2026. No macro, syntax, notation, axiom, sorry.
-/
import Derived.Test.YtjkhmliehgghcaaDoorRows
import GoSem.ClaimSeven
namespace Go.Proofs.YtjkhmliehgghcaaDoor
namespace Rows

/-- THE TIED CARD OF 'laws.FnBigTen'. -/
def fnBigTenCard : Claim7 := { stood := { row := fnBigTenRow, standIns := [], harness := (true, "abf7ec552c81db1886b1d0df26fbfbd045529fc3a6aa122ad30f35b5c62d0e44"), looks := false }, kinds := [], alts := [], laidByText := true, laidKinds := [.data, .data, .data], laidTests := true, laidLooks := .later }
def FnBigTenCardSaid : Prop := Claim7.holds Tryd.pinned (.plain (OpenSpec.ofChange fnBigTenSpec)) fnBigTenCard

/-- THE TIED CARD OF 'laws.FnExactBigPut'. -/
def fnExactBigPutCard : Claim7 := { stood := { row := fnExactBigPutRow, standIns := [], harness := (true, "abf7ec552c81db1886b1d0df26fbfbd045529fc3a6aa122ad30f35b5c62d0e44"), looks := false }, kinds := [], alts := [], laidByText := true, laidKinds := [.data, .data, .data], laidTests := true, laidLooks := .later }
def FnExactBigPutCardSaid : Prop := Claim7.holds Tryd.pinned (.plain (OpenSpec.ofChange fnExactBigPutSpec)) fnExactBigPutCard

/-- THE TIED CARD OF 'laws.FnExactDecOk'. -/
def fnExactDecOkCard : Claim7 := { stood := { row := fnExactDecOkRow, standIns := [], harness := (true, "abf7ec552c81db1886b1d0df26fbfbd045529fc3a6aa122ad30f35b5c62d0e44"), looks := false }, kinds := [], alts := [], laidByText := true, laidKinds := [.data, .data, .data], laidTests := true, laidLooks := .later }
def FnExactDecOkCardSaid : Prop := Claim7.holds Tryd.pinned (.plain (OpenSpec.ofChange fnExactDecOkSpec)) fnExactDecOkCard

/-- THE TIED CARD OF 'laws.FnExactDayPut'. -/
def fnExactDayPutCard : Claim7 := { stood := { row := fnExactDayPutRow, standIns := [], harness := (true, "abf7ec552c81db1886b1d0df26fbfbd045529fc3a6aa122ad30f35b5c62d0e44"), looks := false }, kinds := [], alts := [], laidByText := true, laidKinds := [.data, .data, .data], laidTests := true, laidLooks := .later }
def FnExactDayPutCardSaid : Prop := Claim7.holds Tryd.pinned (.plain (OpenSpec.ofChange fnExactDayPutSpec)) fnExactDayPutCard

/-- THE TIED CARD OF 'laws.FnExactSpanPut'. -/
def fnExactSpanPutCard : Claim7 := { stood := { row := fnExactSpanPutRow, standIns := [], harness := (true, "abf7ec552c81db1886b1d0df26fbfbd045529fc3a6aa122ad30f35b5c62d0e44"), looks := false }, kinds := [], alts := [], laidByText := true, laidKinds := [.data, .data, .data], laidTests := true, laidLooks := .later }
def FnExactSpanPutCardSaid : Prop := Claim7.holds Tryd.pinned (.plain (OpenSpec.ofChange fnExactSpanPutSpec)) fnExactSpanPutCard

/-- THE TIED CARD OF 'laws.FnExactTypePut'. -/
def fnExactTypePutCard : Claim7 := { stood := { row := fnExactTypePutRow, standIns := [], harness := (true, "abf7ec552c81db1886b1d0df26fbfbd045529fc3a6aa122ad30f35b5c62d0e44"), looks := false }, kinds := [], alts := [], laidByText := true, laidKinds := [.data, .data, .data], laidTests := true, laidLooks := .later }
def FnExactTypePutCardSaid : Prop := Claim7.holds Tryd.pinned (.plain (OpenSpec.ofChange fnExactTypePutSpec)) fnExactTypePutCard

/-- THE SECOND FORM's CARD OF 'laws.FnBigTen'. -/
def fnBigTenUptoCard : Claim7 := { stood := { row := fnBigTenUptoRow, standIns := [], harness := (true, "abf7ec552c81db1886b1d0df26fbfbd045529fc3a6aa122ad30f35b5c62d0e44"), looks := false }, kinds := [], alts := [], laidByText := true, laidKinds := [.data, .data, .data], laidTests := true, laidLooks := .later }
def FnBigTenUptoCardSaid : Prop := Claim7.holds Tryd.pinned (.plain (OpenSpec.upto fnBigTenSpec)) fnBigTenUptoCard

/-- THE SECOND FORM's CARD OF 'laws.FnExactBigPut'. -/
def fnExactBigPutUptoCard : Claim7 := { stood := { row := fnExactBigPutUptoRow, standIns := [], harness := (true, "abf7ec552c81db1886b1d0df26fbfbd045529fc3a6aa122ad30f35b5c62d0e44"), looks := false }, kinds := [], alts := [], laidByText := true, laidKinds := [.data, .data, .data], laidTests := true, laidLooks := .later }
def FnExactBigPutUptoCardSaid : Prop := Claim7.holds Tryd.pinned (.plain (OpenSpec.upto fnExactBigPutSpec)) fnExactBigPutUptoCard

/-- THE SECOND FORM's CARD OF 'laws.FnExactDecOk'. -/
def fnExactDecOkUptoCard : Claim7 := { stood := { row := fnExactDecOkUptoRow, standIns := [], harness := (true, "abf7ec552c81db1886b1d0df26fbfbd045529fc3a6aa122ad30f35b5c62d0e44"), looks := false }, kinds := [], alts := [], laidByText := true, laidKinds := [.data, .data, .data], laidTests := true, laidLooks := .later }
def FnExactDecOkUptoCardSaid : Prop := Claim7.holds Tryd.pinned (.plain (OpenSpec.upto fnExactDecOkSpec)) fnExactDecOkUptoCard

/-- THE SECOND FORM's CARD OF 'laws.FnExactDayPut'. -/
def fnExactDayPutUptoCard : Claim7 := { stood := { row := fnExactDayPutUptoRow, standIns := [], harness := (true, "abf7ec552c81db1886b1d0df26fbfbd045529fc3a6aa122ad30f35b5c62d0e44"), looks := false }, kinds := [], alts := [], laidByText := true, laidKinds := [.data, .data, .data], laidTests := true, laidLooks := .later }
def FnExactDayPutUptoCardSaid : Prop := Claim7.holds Tryd.pinned (.plain (OpenSpec.upto fnExactDayPutSpec)) fnExactDayPutUptoCard

/-- THE SECOND FORM's CARD OF 'laws.FnExactSpanPut'. -/
def fnExactSpanPutUptoCard : Claim7 := { stood := { row := fnExactSpanPutUptoRow, standIns := [], harness := (true, "abf7ec552c81db1886b1d0df26fbfbd045529fc3a6aa122ad30f35b5c62d0e44"), looks := false }, kinds := [], alts := [], laidByText := true, laidKinds := [.data, .data, .data], laidTests := true, laidLooks := .later }
def FnExactSpanPutUptoCardSaid : Prop := Claim7.holds Tryd.pinned (.plain (OpenSpec.upto fnExactSpanPutSpec)) fnExactSpanPutUptoCard

/-- THE SECOND FORM's CARD OF 'laws.FnExactTypePut'. -/
def fnExactTypePutUptoCard : Claim7 := { stood := { row := fnExactTypePutUptoRow, standIns := [], harness := (true, "abf7ec552c81db1886b1d0df26fbfbd045529fc3a6aa122ad30f35b5c62d0e44"), looks := false }, kinds := [], alts := [], laidByText := true, laidKinds := [.data, .data, .data], laidTests := true, laidLooks := .later }
def FnExactTypePutUptoCardSaid : Prop := Claim7.holds Tryd.pinned (.plain (OpenSpec.upto fnExactTypePutSpec)) fnExactTypePutUptoCard
end Rows
end Go.Proofs.YtjkhmliehgghcaaDoor
