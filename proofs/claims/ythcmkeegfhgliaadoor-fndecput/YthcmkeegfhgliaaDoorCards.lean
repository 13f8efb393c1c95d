/-
  DERIVED. GIVEN WITH THE SEED: THE CARDS: each row of YthcmkeegfhgliaaDoorRows.lean that lists a variable, with what it lists TIED to the program's text (the seventh form; the later family's looks); each row that meets fmt, with fmt's text TOLD by the authors' own Lean function (tested against real Go, not proved from fmt's source: count such statements apart). THE CARD IS WHAT COUNTS. Prove the row's statement (the work); the ties are given (YthcmkeegfhgliaaDoorTie.lean); close each card by the builder's one call (the guide's Derived/Test/ToyasCard.lean, 'card_holds'). Laid BY PROGRAM, IN A SANDBOX (cutbox-door.mjs). By AI agents, Wed Nov 11 2026. No macro, syntax, notation, axiom, sorry.
-/
import Derived.Test.YthcmkeegfhgliaaDoorRows
import GoSem.ClaimSeven
namespace Go.Proofs.YthcmkeegfhgliaaDoor
namespace Rows

/-- THE TIED CARD OF 'laws.FnDecPut'. -/
def fnDecPutCard : Claim7 := { stood := { row := fnDecPutRow, standIns := [], harness := (true, "4c82afa6d4c1c69016a300ff3c311963d80d78732a2d178d99aaa488ae329359"), looks := false }, kinds := [], alts := [], laidByText := true, laidKinds := [.data, .data, .data], laidTests := true, laidLooks := .later }
def FnDecPutCardSaid : Prop := Claim7.holds Tryd.pinned (.plain (OpenSpec.ofChange fnDecPutSpec)) fnDecPutCard

/-- THE TIED CARD OF 'laws.FnDecGet'. -/
def fnDecGetCard : Claim7 := { stood := { row := fnDecGetRow, standIns := [], harness := (true, "4c82afa6d4c1c69016a300ff3c311963d80d78732a2d178d99aaa488ae329359"), looks := false }, kinds := [], alts := [], laidByText := true, laidKinds := [.data, .data, .data], laidTests := true, laidLooks := .later }
def FnDecGetCardSaid : Prop := Claim7.holds Tryd.pinned (.plain (OpenSpec.ofChange fnDecGetSpec)) fnDecGetCard

/-- THE SECOND FORM's CARD OF 'laws.FnDecPut'. -/
def fnDecPutUptoCard : Claim7 := { stood := { row := fnDecPutUptoRow, standIns := [], harness := (true, "4c82afa6d4c1c69016a300ff3c311963d80d78732a2d178d99aaa488ae329359"), looks := false }, kinds := [], alts := [], laidByText := true, laidKinds := [.data, .data, .data], laidTests := true, laidLooks := .later }
def FnDecPutUptoCardSaid : Prop := Claim7.holds Tryd.pinned (.plain (OpenSpec.upto fnDecPutSpec)) fnDecPutUptoCard

/-- THE SECOND FORM's CARD OF 'laws.FnDecGet'. -/
def fnDecGetUptoCard : Claim7 := { stood := { row := fnDecGetUptoRow, standIns := [], harness := (true, "4c82afa6d4c1c69016a300ff3c311963d80d78732a2d178d99aaa488ae329359"), looks := false }, kinds := [], alts := [], laidByText := true, laidKinds := [.data, .data, .data], laidTests := true, laidLooks := .later }
def FnDecGetUptoCardSaid : Prop := Claim7.holds Tryd.pinned (.plain (OpenSpec.upto fnDecGetSpec)) fnDecGetUptoCard
end Rows
end Go.Proofs.YthcmkeegfhgliaaDoor
