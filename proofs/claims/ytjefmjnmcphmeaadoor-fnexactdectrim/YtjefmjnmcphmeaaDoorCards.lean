/-
  DERIVED. GIVEN WITH THE SEED: THE CARDS: each row of YtjefmjnmcphmeaaDoorRows.lean that lists a variable, with what it lists TIED to the program's text (the seventh form; the later family's looks); each row that meets fmt, with fmt's text TOLD by the authors' own Lean function (tested against real Go, not proved from fmt's source: count such statements apart). THE CARD IS WHAT COUNTS. Prove the row's statement (the work); the ties are given (YtjefmjnmcphmeaaDoorTie.lean); close each card by the builder's one call (the guide's Derived/Test/ToyasCard.lean, 'card_holds'). Laid BY PROGRAM, IN A SANDBOX (cutbox-door.mjs). By AI agents, Wed Nov 11 2026. No macro, syntax, notation, axiom, sorry.
-/
import Derived.Test.YtjefmjnmcphmeaaDoorRows
import GoSem.ClaimSeven
namespace Go.Proofs.YtjefmjnmcphmeaaDoor
namespace Rows

/-- THE TIED CARD OF 'laws.FnExactDecCmp'. -/
def fnExactDecCmpCard : Claim7 := { stood := { row := fnExactDecCmpRow, standIns := [], harness := (true, "390ee68ee7065d75cbe6c98191c698bbe2bda36446d522fdc27b5badcc24ad4a"), looks := false }, kinds := [], alts := [], laidByText := true, laidKinds := [.data, .data, .data], laidTests := true, laidLooks := .later }
def FnExactDecCmpCardSaid : Prop := Claim7.holds Tryd.pinned (.plain (OpenSpec.ofChange fnExactDecCmpSpec)) fnExactDecCmpCard

/-- THE TIED CARD OF 'laws.FnExactDecTrim'. -/
def fnExactDecTrimCard : Claim7 := { stood := { row := fnExactDecTrimRow, standIns := [], harness := (true, "390ee68ee7065d75cbe6c98191c698bbe2bda36446d522fdc27b5badcc24ad4a"), looks := false }, kinds := [], alts := [], laidByText := true, laidKinds := [.data, .data, .data], laidTests := true, laidLooks := .later }
def FnExactDecTrimCardSaid : Prop := Claim7.holds Tryd.pinned (.plain (OpenSpec.ofChange fnExactDecTrimSpec)) fnExactDecTrimCard

/-- THE TIED CARD OF 'laws.FnExactDecPut'. -/
def fnExactDecPutCard : Claim7 := { stood := { row := fnExactDecPutRow, standIns := [], harness := (true, "390ee68ee7065d75cbe6c98191c698bbe2bda36446d522fdc27b5badcc24ad4a"), looks := false }, kinds := [], alts := [], laidByText := true, laidKinds := [.data, .data, .data], laidTests := true, laidLooks := .later }
def FnExactDecPutCardSaid : Prop := Claim7.holds Tryd.pinned (.plain (OpenSpec.ofChange fnExactDecPutSpec)) fnExactDecPutCard

/-- THE SECOND FORM's CARD OF 'laws.FnExactDecCmp'. -/
def fnExactDecCmpUptoCard : Claim7 := { stood := { row := fnExactDecCmpUptoRow, standIns := [], harness := (true, "390ee68ee7065d75cbe6c98191c698bbe2bda36446d522fdc27b5badcc24ad4a"), looks := false }, kinds := [], alts := [], laidByText := true, laidKinds := [.data, .data, .data], laidTests := true, laidLooks := .later }
def FnExactDecCmpUptoCardSaid : Prop := Claim7.holds Tryd.pinned (.plain (OpenSpec.upto fnExactDecCmpSpec)) fnExactDecCmpUptoCard

/-- THE SECOND FORM's CARD OF 'laws.FnExactDecTrim'. -/
def fnExactDecTrimUptoCard : Claim7 := { stood := { row := fnExactDecTrimUptoRow, standIns := [], harness := (true, "390ee68ee7065d75cbe6c98191c698bbe2bda36446d522fdc27b5badcc24ad4a"), looks := false }, kinds := [], alts := [], laidByText := true, laidKinds := [.data, .data, .data], laidTests := true, laidLooks := .later }
def FnExactDecTrimUptoCardSaid : Prop := Claim7.holds Tryd.pinned (.plain (OpenSpec.upto fnExactDecTrimSpec)) fnExactDecTrimUptoCard

/-- THE SECOND FORM's CARD OF 'laws.FnExactDecPut'. -/
def fnExactDecPutUptoCard : Claim7 := { stood := { row := fnExactDecPutUptoRow, standIns := [], harness := (true, "390ee68ee7065d75cbe6c98191c698bbe2bda36446d522fdc27b5badcc24ad4a"), looks := false }, kinds := [], alts := [], laidByText := true, laidKinds := [.data, .data, .data], laidTests := true, laidLooks := .later }
def FnExactDecPutUptoCardSaid : Prop := Claim7.holds Tryd.pinned (.plain (OpenSpec.upto fnExactDecPutSpec)) fnExactDecPutUptoCard
end Rows
end Go.Proofs.YtjefmjnmcphmeaaDoor
