/-
  DERIVED. GIVEN WITH THE SEED: THE CARDS: each row of YtomcgnkmlmiijaaDoorRows.lean that lists a variable, with what it lists TIED to the program's text (the seventh form; the later family's looks); each row that meets fmt, with fmt's text TOLD by the authors' own Lean function (tested against real Go, not proved from fmt's source: count such statements apart). THE CARD IS WHAT COUNTS. Prove the row's statement (the work); the ties are given (YtomcgnkmlmiijaaDoorTie.lean); close each card by the builder's one call (the guide's Derived/Test/ToyasCard.lean, 'card_holds'). Laid BY PROGRAM, IN A SANDBOX (cutbox-door.mjs). By AI agents, Wed Nov 11 2026. No macro, syntax, notation, axiom, sorry.
-/
import Derived.Test.YtomcgnkmlmiijaaDoorRows
import GoSem.ClaimSeven
namespace Go.Proofs.YtomcgnkmlmiijaaDoor
namespace Rows

/-- THE TIED CARD OF 'laws.FnBigPut'. -/
def fnBigPutCard : Claim7 := { stood := { row := fnBigPutRow, standIns := [], harness := (true, "b887edceae09f6f0ab72d62ea1ce404b33985f8da65d054769343db154ab5d80"), looks := false }, kinds := [], alts := [], laidByText := true, laidKinds := [.data, .data, .data], laidTests := true, laidLooks := .later }
def FnBigPutCardSaid : Prop := Claim7.holds Tryd.pinned (.plain (OpenSpec.ofChange fnBigPutSpec)) fnBigPutCard

/-- THE TIED CARD OF 'laws.FnBigGet'. -/
def fnBigGetCard : Claim7 := { stood := { row := fnBigGetRow, standIns := [], harness := (true, "b887edceae09f6f0ab72d62ea1ce404b33985f8da65d054769343db154ab5d80"), looks := false }, kinds := [], alts := [], laidByText := true, laidKinds := [.data, .data, .data], laidTests := true, laidLooks := .later }
def FnBigGetCardSaid : Prop := Claim7.holds Tryd.pinned (.plain (OpenSpec.ofChange fnBigGetSpec)) fnBigGetCard

/-- THE SECOND FORM's CARD OF 'laws.FnBigPut'. -/
def fnBigPutUptoCard : Claim7 := { stood := { row := fnBigPutUptoRow, standIns := [], harness := (true, "b887edceae09f6f0ab72d62ea1ce404b33985f8da65d054769343db154ab5d80"), looks := false }, kinds := [], alts := [], laidByText := true, laidKinds := [.data, .data, .data], laidTests := true, laidLooks := .later }
def FnBigPutUptoCardSaid : Prop := Claim7.holds Tryd.pinned (.plain (OpenSpec.upto fnBigPutSpec)) fnBigPutUptoCard

/-- THE SECOND FORM's CARD OF 'laws.FnBigGet'. -/
def fnBigGetUptoCard : Claim7 := { stood := { row := fnBigGetUptoRow, standIns := [], harness := (true, "b887edceae09f6f0ab72d62ea1ce404b33985f8da65d054769343db154ab5d80"), looks := false }, kinds := [], alts := [], laidByText := true, laidKinds := [.data, .data, .data], laidTests := true, laidLooks := .later }
def FnBigGetUptoCardSaid : Prop := Claim7.holds Tryd.pinned (.plain (OpenSpec.upto fnBigGetSpec)) fnBigGetUptoCard
end Rows
end Go.Proofs.YtomcgnkmlmiijaaDoor
