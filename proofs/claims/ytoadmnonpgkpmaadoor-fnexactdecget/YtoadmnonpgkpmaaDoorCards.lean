/-
  DERIVED. GIVEN WITH THE SEED: THE CARDS: each row of YtoadmnonpgkpmaaDoorRows.lean that lists a variable, with what it lists TIED to the program's text (the seventh form; the later family's looks); each row that meets fmt, with fmt's text TOLD by the authors' own Lean function (tested against real Go, not proved from fmt's source: count such statements apart). THE CARD IS WHAT COUNTS. Prove the row's statement (the work); the ties are given (YtoadmnonpgkpmaaDoorTie.lean); close each card by the builder's one call (the guide's Derived/Test/ToyasCard.lean, 'card_holds'). Laid BY PROGRAM, IN A SANDBOX (cutbox-door.mjs). By AI agents, Wed Nov 11 2026. No macro, syntax, notation, axiom, sorry.
-/
import Derived.Test.YtoadmnonpgkpmaaDoorRows
import GoSem.ClaimSeven
namespace Go.Proofs.YtoadmnonpgkpmaaDoor
namespace Rows

/-- THE TIED CARD OF 'laws.FnExactDecGet'. -/
def fnExactDecGetCard : Claim7 := { stood := { row := fnExactDecGetRow, standIns := [], harness := (true, "2c6ea77ffa92a53c9302e2fa1b20e91b2d783526887ca83dee0b2704b09d00dd"), looks := false }, kinds := [], alts := [], laidByText := true, laidKinds := [.data, .data, .data], laidTests := true, laidLooks := .later }
def FnExactDecGetCardSaid : Prop := Claim7.holds Tryd.pinned (.plain (OpenSpec.ofChange fnExactDecGetSpec)) fnExactDecGetCard

/-- THE SECOND FORM's CARD OF 'laws.FnExactDecGet'. -/
def fnExactDecGetUptoCard : Claim7 := { stood := { row := fnExactDecGetUptoRow, standIns := [], harness := (true, "2c6ea77ffa92a53c9302e2fa1b20e91b2d783526887ca83dee0b2704b09d00dd"), looks := false }, kinds := [], alts := [], laidByText := true, laidKinds := [.data, .data, .data], laidTests := true, laidLooks := .later }
def FnExactDecGetUptoCardSaid : Prop := Claim7.holds Tryd.pinned (.plain (OpenSpec.upto fnExactDecGetSpec)) fnExactDecGetUptoCard
end Rows
end Go.Proofs.YtoadmnonpgkpmaaDoor
