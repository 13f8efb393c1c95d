/-
  DERIVED. GIVEN WITH THE SEED: THE CARDS: each row of YtnegndajejhflaaDoorRows.lean that lists a variable, with what it lists TIED to the program's text (the seventh form; the later family's looks); each row that meets fmt, with fmt's text TOLD by the authors' own Lean function (tested against real Go, not proved from fmt's source: count such statements apart). THE CARD IS WHAT COUNTS. Prove the row's statement (the work); the ties are given (YtnegndajejhflaaDoorTie.lean); close each card by the builder's one call (the guide's Derived/Test/ToyasCard.lean, 'card_holds'). Laid BY PROGRAM, IN A SANDBOX (cutbox-door.mjs). By AI agents, Wed Nov 11 2026. No macro, syntax, notation, axiom, sorry.
-/
import Derived.Test.YtnegndajejhflaaDoorRows
import GoSem.ClaimSeven
namespace Go.Proofs.YtnegndajejhflaaDoor
namespace Rows

/-- THE TIED CARD OF 'laws.FnExactValueFits'. -/
def fnExactValueFitsCard : Claim7 := { stood := { row := fnExactValueFitsRow, standIns := [], harness := (true, "351ef90ae0cfd68c0373fda2f7cc3832a58e7089597637241b84c9e28edfa3f0"), looks := false }, kinds := [], alts := [], laidByText := true, laidKinds := [.data, .data, .data], laidTests := true, laidLooks := .later }
def FnExactValueFitsCardSaid : Prop := Claim7.holds Tryd.pinned (.plain (OpenSpec.ofChange fnExactValueFitsSpec)) fnExactValueFitsCard

/-- THE TIED CARD OF 'laws.FnExactRowOk'. -/
def fnExactRowOkCard : Claim7 := { stood := { row := fnExactRowOkRow, standIns := [], harness := (true, "351ef90ae0cfd68c0373fda2f7cc3832a58e7089597637241b84c9e28edfa3f0"), looks := false }, kinds := [], alts := [], laidByText := true, laidKinds := [.data, .data, .data], laidTests := true, laidLooks := .later }
def FnExactRowOkCardSaid : Prop := Claim7.holds Tryd.pinned (.plain (OpenSpec.ofChange fnExactRowOkSpec)) fnExactRowOkCard

/-- THE SECOND FORM's CARD OF 'laws.FnExactValueFits'. -/
def fnExactValueFitsUptoCard : Claim7 := { stood := { row := fnExactValueFitsUptoRow, standIns := [], harness := (true, "351ef90ae0cfd68c0373fda2f7cc3832a58e7089597637241b84c9e28edfa3f0"), looks := false }, kinds := [], alts := [], laidByText := true, laidKinds := [.data, .data, .data], laidTests := true, laidLooks := .later }
def FnExactValueFitsUptoCardSaid : Prop := Claim7.holds Tryd.pinned (.plain (OpenSpec.upto fnExactValueFitsSpec)) fnExactValueFitsUptoCard

/-- THE SECOND FORM's CARD OF 'laws.FnExactRowOk'. -/
def fnExactRowOkUptoCard : Claim7 := { stood := { row := fnExactRowOkUptoRow, standIns := [], harness := (true, "351ef90ae0cfd68c0373fda2f7cc3832a58e7089597637241b84c9e28edfa3f0"), looks := false }, kinds := [], alts := [], laidByText := true, laidKinds := [.data, .data, .data], laidTests := true, laidLooks := .later }
def FnExactRowOkUptoCardSaid : Prop := Claim7.holds Tryd.pinned (.plain (OpenSpec.upto fnExactRowOkSpec)) fnExactRowOkUptoCard
end Rows
end Go.Proofs.YtnegndajejhflaaDoor
