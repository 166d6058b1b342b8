/-
  DERIVED. GIVEN WITH THE SEED: THE CARDS: each row of YtmlgmhnplicflabDoorRows.lean that lists a variable, with what it lists TIED to the program's text (the seventh form; the later family's looks); each row that meets fmt, with fmt's text TOLD by the authors' own Lean function (tested against real Go, not proved from fmt's source: count such statements apart). THE CARD IS WHAT COUNTS. Prove the row's statement (the work); the ties are given (YtmlgmhnplicflabDoorTie.lean); close each card by the builder's one call (the guide's Derived/Test/ToyasCard.lean, 'card_holds'). Laid BY PROGRAM, IN A SANDBOX (cutbox-door.mjs). By AI agents, Wed Nov 11 2026. No macro, syntax, notation, axiom, sorry.
-/
import Derived.Test.YtmlgmhnplicflabDoorRows
import GoSem.ClaimSeven
namespace Go.Proofs.YtmlgmhnplicflabDoor
namespace Rows

/-- THE TIED CARD OF 'laws.FnExactReadTemplate'. -/
def fnExactReadTemplateCard : Claim7 := { stood := { row := fnExactReadTemplateRow, standIns := [], harness := (true, "d5846d3b9f5924c6f8b07199c1af3d988edbefcb24dd76854fb5314c74036a11"), looks := true }, kinds := [], alts := [], laidByText := true, laidKinds := [.handle], laidTests := true, laidLooks := .later }
def FnExactReadTemplateCardSaid : Prop := Claim7.holds Tryd.pinned (.plain (OpenSpec.ofChange fnExactReadTemplateSpec)) fnExactReadTemplateCard

/-- THE TIED CARD OF 'laws.FnExactQuote'. -/
def fnExactQuoteCard : Claim7 := { stood := { row := fnExactQuoteRow, standIns := [], harness := (true, "d5846d3b9f5924c6f8b07199c1af3d988edbefcb24dd76854fb5314c74036a11"), looks := true }, kinds := [], alts := [], laidByText := true, laidKinds := [.data], laidTests := true, laidLooks := .later }
def FnExactQuoteCardSaid : Prop := Claim7.holds Tryd.pinned (.plain (OpenSpec.ofChange fnExactQuoteSpec)) fnExactQuoteCard

/-- THE TIED CARD OF 'laws.FnExactUnquote'. -/
def fnExactUnquoteCard : Claim7 := { stood := { row := fnExactUnquoteRow, standIns := [], harness := (true, "d5846d3b9f5924c6f8b07199c1af3d988edbefcb24dd76854fb5314c74036a11"), looks := true }, kinds := [], alts := [], laidByText := true, laidKinds := [.data], laidTests := true, laidLooks := .later }
def FnExactUnquoteCardSaid : Prop := Claim7.holds Tryd.pinned (.plain (OpenSpec.ofChange fnExactUnquoteSpec)) fnExactUnquoteCard

/-- THE SECOND FORM's CARD OF 'laws.FnExactReadTemplate'. -/
def fnExactReadTemplateUptoCard : Claim7 := { stood := { row := fnExactReadTemplateUptoRow, standIns := [], harness := (true, "d5846d3b9f5924c6f8b07199c1af3d988edbefcb24dd76854fb5314c74036a11"), looks := true }, kinds := [], alts := [], laidByText := true, laidKinds := [.handle], laidTests := true, laidLooks := .later }
def FnExactReadTemplateUptoCardSaid : Prop := Claim7.holds Tryd.pinned (.plain (OpenSpec.upto fnExactReadTemplateSpec)) fnExactReadTemplateUptoCard

/-- THE SECOND FORM's CARD OF 'laws.FnExactQuote'. -/
def fnExactQuoteUptoCard : Claim7 := { stood := { row := fnExactQuoteUptoRow, standIns := [], harness := (true, "d5846d3b9f5924c6f8b07199c1af3d988edbefcb24dd76854fb5314c74036a11"), looks := true }, kinds := [], alts := [], laidByText := true, laidKinds := [.data], laidTests := true, laidLooks := .later }
def FnExactQuoteUptoCardSaid : Prop := Claim7.holds Tryd.pinned (.plain (OpenSpec.upto fnExactQuoteSpec)) fnExactQuoteUptoCard

/-- THE SECOND FORM's CARD OF 'laws.FnExactUnquote'. -/
def fnExactUnquoteUptoCard : Claim7 := { stood := { row := fnExactUnquoteUptoRow, standIns := [], harness := (true, "d5846d3b9f5924c6f8b07199c1af3d988edbefcb24dd76854fb5314c74036a11"), looks := true }, kinds := [], alts := [], laidByText := true, laidKinds := [.data], laidTests := true, laidLooks := .later }
def FnExactUnquoteUptoCardSaid : Prop := Claim7.holds Tryd.pinned (.plain (OpenSpec.upto fnExactUnquoteSpec)) fnExactUnquoteUptoCard
end Rows
end Go.Proofs.YtmlgmhnplicflabDoor
