/-
  DERIVED. GIVEN WITH THE SEED: THE CARDS: each row of YtjamogkenghonaaGreatDoorRows.lean that lists a variable, with what it lists TIED to the program's text (the seventh form; the later family's looks); each row that meets fmt, with fmt's text TOLD by the authors' own Lean function (tested against real Go, not proved from fmt's source: count such statements apart). THE CARD IS WHAT COUNTS. Prove the row's statement (the work); the ties are given (YtjamogkenghonaaGreatDoorTie.lean); close each card by the builder's one call (the guide's Derived/Test/ToyasCard.lean, 'card_holds'). Laid BY PROGRAM, IN A SANDBOX (cutbox-door.mjs). By AI agents, Wed Nov 11 2026. No macro, syntax, notation, axiom, sorry.
-/
import Derived.Test.YtjamogkenghonaaGreatDoorRows
import GoSem.ClaimSeven
namespace Go.Proofs.YtjamogkenghonaaGreatDoor
namespace Rows

/-- THE TIED CARD OF 'laws.FnExactDecAdd'. -/
def fnExactDecAddCard : Claim7 := { stood := { row := fnExactDecAddRow, standIns := [], harness := (true, "011b9c06ac9a423a942e74204bc56f95606d33584ab2ea107e61112a6dd0e05e"), looks := true }, kinds := [], alts := [], laidByText := true, laidKinds := [.data, .data, .data, .handle], laidTests := true, laidLooks := .later }
def FnExactDecAddCardSaid : Prop := Claim7.holds Tryz.pinned (.plain (OpenSpec.ofChange fnExactDecAddSpec)) fnExactDecAddCard

/-- THE TIED CARD OF 'laws.FnExactDecSub'. -/
def fnExactDecSubCard : Claim7 := { stood := { row := fnExactDecSubRow, standIns := [], harness := (true, "011b9c06ac9a423a942e74204bc56f95606d33584ab2ea107e61112a6dd0e05e"), looks := true }, kinds := [], alts := [], laidByText := true, laidKinds := [.data, .data, .data, .handle], laidTests := true, laidLooks := .later }
def FnExactDecSubCardSaid : Prop := Claim7.holds Tryz.pinned (.plain (OpenSpec.ofChange fnExactDecSubSpec)) fnExactDecSubCard

/-- THE TIED CARD OF 'laws.FnExactDecMul'. -/
def fnExactDecMulCard : Claim7 := { stood := { row := fnExactDecMulRow, standIns := [], harness := (true, "011b9c06ac9a423a942e74204bc56f95606d33584ab2ea107e61112a6dd0e05e"), looks := true }, kinds := [], alts := [], laidByText := true, laidKinds := [.data, .data, .data, .handle], laidTests := true, laidLooks := .later }
def FnExactDecMulCardSaid : Prop := Claim7.holds Tryz.pinned (.plain (OpenSpec.ofChange fnExactDecMulSpec)) fnExactDecMulCard

/-- THE TIED CARD OF 'laws.FnExactDecDiv'. -/
def fnExactDecDivCard : Claim7 := { stood := { row := fnExactDecDivRow, standIns := [], harness := (true, "011b9c06ac9a423a942e74204bc56f95606d33584ab2ea107e61112a6dd0e05e"), looks := true }, kinds := [], alts := [], laidByText := true, laidKinds := [.data, .data, .data, .handle], laidTests := true, laidLooks := .later }
def FnExactDecDivCardSaid : Prop := Claim7.holds Tryz.pinned (.plain (OpenSpec.ofChange fnExactDecDivSpec)) fnExactDecDivCard

/-- THE TIED CARD OF 'laws.FnExactDecRound'. -/
def fnExactDecRoundCard : Claim7 := { stood := { row := fnExactDecRoundRow, standIns := [], harness := (true, "011b9c06ac9a423a942e74204bc56f95606d33584ab2ea107e61112a6dd0e05e"), looks := true }, kinds := [], alts := [], laidByText := true, laidKinds := [.data, .data, .data, .handle], laidTests := true, laidLooks := .later }
def FnExactDecRoundCardSaid : Prop := Claim7.holds Tryz.pinned (.plain (OpenSpec.ofChange fnExactDecRoundSpec)) fnExactDecRoundCard

/-- THE SECOND FORM's CARD OF 'laws.FnExactDecAdd'. -/
def fnExactDecAddUptoCard : Claim7 := { stood := { row := fnExactDecAddUptoRow, standIns := [], harness := (true, "011b9c06ac9a423a942e74204bc56f95606d33584ab2ea107e61112a6dd0e05e"), looks := true }, kinds := [], alts := [], laidByText := true, laidKinds := [.data, .data, .data, .handle], laidTests := true, laidLooks := .later }
def FnExactDecAddUptoCardSaid : Prop := Claim7.holds Tryz.pinned (.plain (OpenSpec.upto fnExactDecAddSpec)) fnExactDecAddUptoCard

/-- THE SECOND FORM's CARD OF 'laws.FnExactDecSub'. -/
def fnExactDecSubUptoCard : Claim7 := { stood := { row := fnExactDecSubUptoRow, standIns := [], harness := (true, "011b9c06ac9a423a942e74204bc56f95606d33584ab2ea107e61112a6dd0e05e"), looks := true }, kinds := [], alts := [], laidByText := true, laidKinds := [.data, .data, .data, .handle], laidTests := true, laidLooks := .later }
def FnExactDecSubUptoCardSaid : Prop := Claim7.holds Tryz.pinned (.plain (OpenSpec.upto fnExactDecSubSpec)) fnExactDecSubUptoCard

/-- THE SECOND FORM's CARD OF 'laws.FnExactDecMul'. -/
def fnExactDecMulUptoCard : Claim7 := { stood := { row := fnExactDecMulUptoRow, standIns := [], harness := (true, "011b9c06ac9a423a942e74204bc56f95606d33584ab2ea107e61112a6dd0e05e"), looks := true }, kinds := [], alts := [], laidByText := true, laidKinds := [.data, .data, .data, .handle], laidTests := true, laidLooks := .later }
def FnExactDecMulUptoCardSaid : Prop := Claim7.holds Tryz.pinned (.plain (OpenSpec.upto fnExactDecMulSpec)) fnExactDecMulUptoCard

/-- THE SECOND FORM's CARD OF 'laws.FnExactDecDiv'. -/
def fnExactDecDivUptoCard : Claim7 := { stood := { row := fnExactDecDivUptoRow, standIns := [], harness := (true, "011b9c06ac9a423a942e74204bc56f95606d33584ab2ea107e61112a6dd0e05e"), looks := true }, kinds := [], alts := [], laidByText := true, laidKinds := [.data, .data, .data, .handle], laidTests := true, laidLooks := .later }
def FnExactDecDivUptoCardSaid : Prop := Claim7.holds Tryz.pinned (.plain (OpenSpec.upto fnExactDecDivSpec)) fnExactDecDivUptoCard

/-- THE SECOND FORM's CARD OF 'laws.FnExactDecRound'. -/
def fnExactDecRoundUptoCard : Claim7 := { stood := { row := fnExactDecRoundUptoRow, standIns := [], harness := (true, "011b9c06ac9a423a942e74204bc56f95606d33584ab2ea107e61112a6dd0e05e"), looks := true }, kinds := [], alts := [], laidByText := true, laidKinds := [.data, .data, .data, .handle], laidTests := true, laidLooks := .later }
def FnExactDecRoundUptoCardSaid : Prop := Claim7.holds Tryz.pinned (.plain (OpenSpec.upto fnExactDecRoundSpec)) fnExactDecRoundUptoCard
end Rows
end Go.Proofs.YtjamogkenghonaaGreatDoor
