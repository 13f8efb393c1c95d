/-
  DERIVED. GIVEN WITH THE SEED: THE CARDS: each row of YtnfalniijmccjaaDoorRows.lean that lists a variable, with what it lists TIED to the program's text (the seventh form; the later family's looks); each row that meets fmt, with fmt's text TOLD by the authors' own Lean function (tested against real Go, not proved from fmt's source: count such statements apart). THE CARD IS WHAT COUNTS. Prove the row's statement (the work); the ties are given (YtnfalniijmccjaaDoorTie.lean); close each card by the builder's one call (the guide's Derived/Test/ToyasCard.lean, 'card_holds'). Laid BY PROGRAM, IN A SANDBOX (cutbox-door.mjs). By AI agents, Wed Nov 11 2026. No macro, syntax, notation, axiom, sorry.
-/
import Derived.Test.YtnfalniijmccjaaDoorRows
import GoSem.ClaimSeven
namespace Go.Proofs.YtnfalniijmccjaaDoor
namespace Rows

/-- THE TIED CARD OF 'laws.FnDayPut'. -/
def fnDayPutCard : Claim7 := { stood := { row := fnDayPutRow, standIns := [], harness := (true, "a27526e4bd91f22c9389cd5a75684d369038c46220c216c5cf7de5fe64266053"), looks := true }, kinds := [], alts := [], laidByText := true, laidKinds := [.data, .data, .data, .sentinel, .sentinel], laidTests := true, laidLooks := .later }
def FnDayPutCardSaid : Prop := Claim7.holds Tryd.pinned (.plain (OpenSpec.ofChange fnDayPutSpec)) fnDayPutCard

/-- THE TIED CARD OF 'laws.FnDayGet'. -/
def fnDayGetCard : Claim7 := { stood := { row := fnDayGetRow, standIns := [], harness := (true, "a27526e4bd91f22c9389cd5a75684d369038c46220c216c5cf7de5fe64266053"), looks := true }, kinds := [], alts := [], laidByText := true, laidKinds := [.data, .data, .data, .sentinel, .sentinel], laidTests := true, laidLooks := .later }
def FnDayGetCardSaid : Prop := Claim7.holds Tryd.pinned (.plain (OpenSpec.ofChange fnDayGetSpec)) fnDayGetCard

/-- THE TIED CARD OF 'laws.FnSpanPut'. -/
def fnSpanPutCard : Claim7 := { stood := { row := fnSpanPutRow, standIns := [], harness := (true, "a27526e4bd91f22c9389cd5a75684d369038c46220c216c5cf7de5fe64266053"), looks := true }, kinds := [], alts := [], laidByText := true, laidKinds := [.data, .data, .data, .sentinel, .sentinel], laidTests := true, laidLooks := .later }
def FnSpanPutCardSaid : Prop := Claim7.holds Tryd.pinned (.plain (OpenSpec.ofChange fnSpanPutSpec)) fnSpanPutCard

/-- THE TIED CARD OF 'laws.FnType'. -/
def fnTypeCard : Claim7 := { stood := { row := fnTypeRow, standIns := [], harness := (true, "a27526e4bd91f22c9389cd5a75684d369038c46220c216c5cf7de5fe64266053"), looks := true }, kinds := [], alts := [], laidByText := true, laidKinds := [.data, .data, .data, .sentinel, .sentinel], laidTests := true, laidLooks := .later }
def FnTypeCardSaid : Prop := Claim7.holds Tryd.pinned (.plain (OpenSpec.ofChange fnTypeSpec)) fnTypeCard

/-- THE TIED CARD OF 'laws.FnExactDayGet'. -/
def fnExactDayGetCard : Claim7 := { stood := { row := fnExactDayGetRow, standIns := [], harness := (true, "a27526e4bd91f22c9389cd5a75684d369038c46220c216c5cf7de5fe64266053"), looks := true }, kinds := [], alts := [], laidByText := true, laidKinds := [.data, .data, .data, .sentinel, .sentinel], laidTests := true, laidLooks := .later }
def FnExactDayGetCardSaid : Prop := Claim7.holds Tryd.pinned (.plain (OpenSpec.ofChange fnExactDayGetSpec)) fnExactDayGetCard

/-- THE TIED CARD OF 'laws.FnExactSpanGet'. -/
def fnExactSpanGetCard : Claim7 := { stood := { row := fnExactSpanGetRow, standIns := [], harness := (true, "a27526e4bd91f22c9389cd5a75684d369038c46220c216c5cf7de5fe64266053"), looks := true }, kinds := [], alts := [], laidByText := true, laidKinds := [.data, .data, .data, .sentinel, .sentinel], laidTests := true, laidLooks := .later }
def FnExactSpanGetCardSaid : Prop := Claim7.holds Tryd.pinned (.plain (OpenSpec.ofChange fnExactSpanGetSpec)) fnExactSpanGetCard

/-- THE TIED CARD OF 'laws.FnExactTypeGet'. -/
def fnExactTypeGetCard : Claim7 := { stood := { row := fnExactTypeGetRow, standIns := [], harness := (true, "a27526e4bd91f22c9389cd5a75684d369038c46220c216c5cf7de5fe64266053"), looks := true }, kinds := [], alts := [], laidByText := true, laidKinds := [.data, .data, .data, .sentinel, .sentinel], laidTests := true, laidLooks := .later }
def FnExactTypeGetCardSaid : Prop := Claim7.holds Tryd.pinned (.plain (OpenSpec.ofChange fnExactTypeGetSpec)) fnExactTypeGetCard

/-- THE SECOND FORM's CARD OF 'laws.FnDayPut'. -/
def fnDayPutUptoCard : Claim7 := { stood := { row := fnDayPutUptoRow, standIns := [], harness := (true, "a27526e4bd91f22c9389cd5a75684d369038c46220c216c5cf7de5fe64266053"), looks := true }, kinds := [], alts := [], laidByText := true, laidKinds := [.data, .data, .data, .sentinel, .sentinel], laidTests := true, laidLooks := .later }
def FnDayPutUptoCardSaid : Prop := Claim7.holds Tryd.pinned (.plain (OpenSpec.upto fnDayPutSpec)) fnDayPutUptoCard

/-- THE SECOND FORM's CARD OF 'laws.FnDayGet'. -/
def fnDayGetUptoCard : Claim7 := { stood := { row := fnDayGetUptoRow, standIns := [], harness := (true, "a27526e4bd91f22c9389cd5a75684d369038c46220c216c5cf7de5fe64266053"), looks := true }, kinds := [], alts := [], laidByText := true, laidKinds := [.data, .data, .data, .sentinel, .sentinel], laidTests := true, laidLooks := .later }
def FnDayGetUptoCardSaid : Prop := Claim7.holds Tryd.pinned (.plain (OpenSpec.upto fnDayGetSpec)) fnDayGetUptoCard

/-- THE SECOND FORM's CARD OF 'laws.FnSpanPut'. -/
def fnSpanPutUptoCard : Claim7 := { stood := { row := fnSpanPutUptoRow, standIns := [], harness := (true, "a27526e4bd91f22c9389cd5a75684d369038c46220c216c5cf7de5fe64266053"), looks := true }, kinds := [], alts := [], laidByText := true, laidKinds := [.data, .data, .data, .sentinel, .sentinel], laidTests := true, laidLooks := .later }
def FnSpanPutUptoCardSaid : Prop := Claim7.holds Tryd.pinned (.plain (OpenSpec.upto fnSpanPutSpec)) fnSpanPutUptoCard

/-- THE SECOND FORM's CARD OF 'laws.FnType'. -/
def fnTypeUptoCard : Claim7 := { stood := { row := fnTypeUptoRow, standIns := [], harness := (true, "a27526e4bd91f22c9389cd5a75684d369038c46220c216c5cf7de5fe64266053"), looks := true }, kinds := [], alts := [], laidByText := true, laidKinds := [.data, .data, .data, .sentinel, .sentinel], laidTests := true, laidLooks := .later }
def FnTypeUptoCardSaid : Prop := Claim7.holds Tryd.pinned (.plain (OpenSpec.upto fnTypeSpec)) fnTypeUptoCard

/-- THE SECOND FORM's CARD OF 'laws.FnExactDayGet'. -/
def fnExactDayGetUptoCard : Claim7 := { stood := { row := fnExactDayGetUptoRow, standIns := [], harness := (true, "a27526e4bd91f22c9389cd5a75684d369038c46220c216c5cf7de5fe64266053"), looks := true }, kinds := [], alts := [], laidByText := true, laidKinds := [.data, .data, .data, .sentinel, .sentinel], laidTests := true, laidLooks := .later }
def FnExactDayGetUptoCardSaid : Prop := Claim7.holds Tryd.pinned (.plain (OpenSpec.upto fnExactDayGetSpec)) fnExactDayGetUptoCard

/-- THE SECOND FORM's CARD OF 'laws.FnExactSpanGet'. -/
def fnExactSpanGetUptoCard : Claim7 := { stood := { row := fnExactSpanGetUptoRow, standIns := [], harness := (true, "a27526e4bd91f22c9389cd5a75684d369038c46220c216c5cf7de5fe64266053"), looks := true }, kinds := [], alts := [], laidByText := true, laidKinds := [.data, .data, .data, .sentinel, .sentinel], laidTests := true, laidLooks := .later }
def FnExactSpanGetUptoCardSaid : Prop := Claim7.holds Tryd.pinned (.plain (OpenSpec.upto fnExactSpanGetSpec)) fnExactSpanGetUptoCard

/-- THE SECOND FORM's CARD OF 'laws.FnExactTypeGet'. -/
def fnExactTypeGetUptoCard : Claim7 := { stood := { row := fnExactTypeGetUptoRow, standIns := [], harness := (true, "a27526e4bd91f22c9389cd5a75684d369038c46220c216c5cf7de5fe64266053"), looks := true }, kinds := [], alts := [], laidByText := true, laidKinds := [.data, .data, .data, .sentinel, .sentinel], laidTests := true, laidLooks := .later }
def FnExactTypeGetUptoCardSaid : Prop := Claim7.holds Tryd.pinned (.plain (OpenSpec.upto fnExactTypeGetSpec)) fnExactTypeGetUptoCard
end Rows
end Go.Proofs.YtnfalniijmccjaaDoor
