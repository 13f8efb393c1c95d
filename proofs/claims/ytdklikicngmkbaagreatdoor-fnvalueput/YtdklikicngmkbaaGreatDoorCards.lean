/-
  DERIVED. GIVEN WITH THE SEED: THE CARDS: each row of YtdklikicngmkbaaGreatDoorRows.lean that lists a variable, with what it lists TIED to the program's text (the seventh form; the later family's looks); each row that meets fmt, with fmt's text TOLD by the authors' own Lean function (tested against real Go, not proved from fmt's source: count such statements apart). THE CARD IS WHAT COUNTS. Prove the row's statement (the work); the ties are given (YtdklikicngmkbaaGreatDoorTie.lean); close each card by the builder's one call (the guide's Derived/Test/ToyasCard.lean, 'card_holds'). Laid BY PROGRAM, IN A SANDBOX (cutbox-door.mjs). By AI agents, Wed Nov 11 2026. No macro, syntax, notation, axiom, sorry.
-/
import Derived.Test.YtdklikicngmkbaaGreatDoorRows
import GoSem.ClaimSeven
namespace Go.Proofs.YtdklikicngmkbaaGreatDoor
namespace Rows

/-- THE TIED CARD OF 'laws.FnValuePut'. -/
def fnValuePutCard : Claim7 := { stood := { row := fnValuePutRow, standIns := [], harness := (true, "baab19a95cd912f3eb47a51fc2a7b0654e53dd3e7d751e85e2907cb1f795bda6"), looks := true }, kinds := [], alts := [], laidByText := true, laidKinds := [.data, .data, .data, .data, .sentinel, .sentinel, .pinned], laidTests := true, laidLooks := .later }
def FnValuePutCardSaid : Prop := Claim7.holds Tryz.pinned (.plain (OpenSpec.ofChange fnValuePutSpec)) fnValuePutCard

/-- THE TIED CARD OF 'laws.FnValueGet'. -/
def fnValueGetCard : Claim7 := { stood := { row := fnValueGetRow, standIns := [], harness := (true, "baab19a95cd912f3eb47a51fc2a7b0654e53dd3e7d751e85e2907cb1f795bda6"), looks := true }, kinds := [], alts := [], laidByText := true, laidKinds := [.data, .data, .data, .data, .sentinel, .sentinel, .pinned], laidTests := true, laidLooks := .later }
def FnValueGetCardSaid : Prop := Claim7.holds Tryz.pinned (.plain (OpenSpec.ofChange fnValueGetSpec)) fnValueGetCard

/-- THE TIED CARD OF 'laws.FnKeyOrder'. -/
def fnKeyOrderCard : Claim7 := { stood := { row := fnKeyOrderRow, standIns := [], harness := (true, "baab19a95cd912f3eb47a51fc2a7b0654e53dd3e7d751e85e2907cb1f795bda6"), looks := true }, kinds := [], alts := [], laidByText := true, laidKinds := [.data, .data, .data, .data, .pinned], laidTests := true, laidLooks := .later }
def FnKeyOrderCardSaid : Prop := Claim7.holds Tryz.pinned (.plain (OpenSpec.ofChange fnKeyOrderSpec)) fnKeyOrderCard

/-- THE TIED CARD OF 'laws.FnKeyStart'. -/
def fnKeyStartCard : Claim7 := { stood := { row := fnKeyStartRow, standIns := [], harness := (true, "baab19a95cd912f3eb47a51fc2a7b0654e53dd3e7d751e85e2907cb1f795bda6"), looks := true }, kinds := [], alts := [], laidByText := true, laidKinds := [.data, .data, .data, .data, .pinned], laidTests := true, laidLooks := .later }
def FnKeyStartCardSaid : Prop := Claim7.holds Tryz.pinned (.plain (OpenSpec.ofChange fnKeyStartSpec)) fnKeyStartCard

/-- THE TIED CARD OF 'laws.FnExactValuePut'. -/
def fnExactValuePutCard : Claim7 := { stood := { row := fnExactValuePutRow, standIns := [], harness := (true, "baab19a95cd912f3eb47a51fc2a7b0654e53dd3e7d751e85e2907cb1f795bda6"), looks := true }, kinds := [], alts := [], laidByText := true, laidKinds := [.data, .pinned], laidTests := true, laidLooks := .later }
def FnExactValuePutCardSaid : Prop := Claim7.holds Tryz.pinned (.plain (OpenSpec.ofChange fnExactValuePutSpec)) fnExactValuePutCard

/-- THE TIED CARD OF 'laws.FnExactValueGet'. -/
def fnExactValueGetCard : Claim7 := { stood := { row := fnExactValueGetRow, standIns := [], harness := (true, "baab19a95cd912f3eb47a51fc2a7b0654e53dd3e7d751e85e2907cb1f795bda6"), looks := true }, kinds := [], alts := [], laidByText := true, laidKinds := [.data, .data, .data, .data, .sentinel, .sentinel, .pinned], laidTests := true, laidLooks := .later }
def FnExactValueGetCardSaid : Prop := Claim7.holds Tryz.pinned (.plain (OpenSpec.ofChange fnExactValueGetSpec)) fnExactValueGetCard

/-- THE SECOND FORM's CARD OF 'laws.FnValuePut'. -/
def fnValuePutUptoCard : Claim7 := { stood := { row := fnValuePutUptoRow, standIns := [], harness := (true, "baab19a95cd912f3eb47a51fc2a7b0654e53dd3e7d751e85e2907cb1f795bda6"), looks := true }, kinds := [], alts := [], laidByText := true, laidKinds := [.data, .data, .data, .data, .sentinel, .sentinel, .pinned], laidTests := true, laidLooks := .later }
def FnValuePutUptoCardSaid : Prop := Claim7.holds Tryz.pinned (.plain (OpenSpec.upto fnValuePutSpec)) fnValuePutUptoCard

/-- THE SECOND FORM's CARD OF 'laws.FnValueGet'. -/
def fnValueGetUptoCard : Claim7 := { stood := { row := fnValueGetUptoRow, standIns := [], harness := (true, "baab19a95cd912f3eb47a51fc2a7b0654e53dd3e7d751e85e2907cb1f795bda6"), looks := true }, kinds := [], alts := [], laidByText := true, laidKinds := [.data, .data, .data, .data, .sentinel, .sentinel, .pinned], laidTests := true, laidLooks := .later }
def FnValueGetUptoCardSaid : Prop := Claim7.holds Tryz.pinned (.plain (OpenSpec.upto fnValueGetSpec)) fnValueGetUptoCard

/-- THE SECOND FORM's CARD OF 'laws.FnKeyOrder'. -/
def fnKeyOrderUptoCard : Claim7 := { stood := { row := fnKeyOrderUptoRow, standIns := [], harness := (true, "baab19a95cd912f3eb47a51fc2a7b0654e53dd3e7d751e85e2907cb1f795bda6"), looks := true }, kinds := [], alts := [], laidByText := true, laidKinds := [.data, .data, .data, .data, .pinned], laidTests := true, laidLooks := .later }
def FnKeyOrderUptoCardSaid : Prop := Claim7.holds Tryz.pinned (.plain (OpenSpec.upto fnKeyOrderSpec)) fnKeyOrderUptoCard

/-- THE SECOND FORM's CARD OF 'laws.FnKeyStart'. -/
def fnKeyStartUptoCard : Claim7 := { stood := { row := fnKeyStartUptoRow, standIns := [], harness := (true, "baab19a95cd912f3eb47a51fc2a7b0654e53dd3e7d751e85e2907cb1f795bda6"), looks := true }, kinds := [], alts := [], laidByText := true, laidKinds := [.data, .data, .data, .data, .pinned], laidTests := true, laidLooks := .later }
def FnKeyStartUptoCardSaid : Prop := Claim7.holds Tryz.pinned (.plain (OpenSpec.upto fnKeyStartSpec)) fnKeyStartUptoCard

/-- THE SECOND FORM's CARD OF 'laws.FnExactValuePut'. -/
def fnExactValuePutUptoCard : Claim7 := { stood := { row := fnExactValuePutUptoRow, standIns := [], harness := (true, "baab19a95cd912f3eb47a51fc2a7b0654e53dd3e7d751e85e2907cb1f795bda6"), looks := true }, kinds := [], alts := [], laidByText := true, laidKinds := [.data, .pinned], laidTests := true, laidLooks := .later }
def FnExactValuePutUptoCardSaid : Prop := Claim7.holds Tryz.pinned (.plain (OpenSpec.upto fnExactValuePutSpec)) fnExactValuePutUptoCard

/-- THE SECOND FORM's CARD OF 'laws.FnExactValueGet'. -/
def fnExactValueGetUptoCard : Claim7 := { stood := { row := fnExactValueGetUptoRow, standIns := [], harness := (true, "baab19a95cd912f3eb47a51fc2a7b0654e53dd3e7d751e85e2907cb1f795bda6"), looks := true }, kinds := [], alts := [], laidByText := true, laidKinds := [.data, .data, .data, .data, .sentinel, .sentinel, .pinned], laidTests := true, laidLooks := .later }
def FnExactValueGetUptoCardSaid : Prop := Claim7.holds Tryz.pinned (.plain (OpenSpec.upto fnExactValueGetSpec)) fnExactValueGetUptoCard
end Rows
end Go.Proofs.YtdklikicngmkbaaGreatDoor
