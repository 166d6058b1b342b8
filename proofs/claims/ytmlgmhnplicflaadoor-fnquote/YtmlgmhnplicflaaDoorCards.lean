/-
  DERIVED. GIVEN WITH THE SEED: THE CARDS: each row of YtmlgmhnplicflaaDoorRows.lean that lists a variable, with what it lists TIED to the program's text (the seventh form; the later family's looks); each row that meets fmt, with fmt's text TOLD by the authors' own Lean function (tested against real Go, not proved from fmt's source: count such statements apart). THE CARD IS WHAT COUNTS. Prove the row's statement (the work); the ties are given (YtmlgmhnplicflaaDoorTie.lean); close each card by the builder's one call (the guide's Derived/Test/ToyasCard.lean, 'card_holds'). Laid BY PROGRAM, IN A SANDBOX (cutbox-door.mjs). By AI agents, Wed Nov 11 2026. No macro, syntax, notation, axiom, sorry.
-/
import Derived.Test.YtmlgmhnplicflaaDoorRows
import GoSem.ClaimSeven
namespace Go.Proofs.YtmlgmhnplicflaaDoor
namespace Rows

/-- THE TIED CARD OF 'laws.FnQuote'. -/
def fnQuoteCard : Claim7 := { stood := { row := fnQuoteRow, standIns := [], harness := (true, "ac7c0e652bc8eb3423d659456bf5124dff52bf73db78cef7d6795956d96e3ac0"), looks := true }, kinds := [], alts := [], laidByText := true, laidKinds := [.data], laidTests := true, laidLooks := .later }
def FnQuoteCardSaid : Prop := Claim7.holds Tryd.pinned (.plain (OpenSpec.ofChange fnQuoteSpec)) fnQuoteCard

/-- THE TIED CARD OF 'laws.FnTemplates'. -/
def fnTemplatesCard : Claim7 := { stood := { row := fnTemplatesRow, standIns := [], harness := (true, "ac7c0e652bc8eb3423d659456bf5124dff52bf73db78cef7d6795956d96e3ac0"), looks := true }, kinds := [], alts := [], laidByText := true, laidKinds := [.handle], laidTests := true, laidLooks := .later }
def FnTemplatesCardSaid : Prop := Claim7.holds Tryd.pinned (.plain (OpenSpec.ofChange fnTemplatesSpec)) fnTemplatesCard

/-- THE SECOND FORM's CARD OF 'laws.FnQuote'. -/
def fnQuoteUptoCard : Claim7 := { stood := { row := fnQuoteUptoRow, standIns := [], harness := (true, "ac7c0e652bc8eb3423d659456bf5124dff52bf73db78cef7d6795956d96e3ac0"), looks := true }, kinds := [], alts := [], laidByText := true, laidKinds := [.data], laidTests := true, laidLooks := .later }
def FnQuoteUptoCardSaid : Prop := Claim7.holds Tryd.pinned (.plain (OpenSpec.upto fnQuoteSpec)) fnQuoteUptoCard

/-- THE SECOND FORM's CARD OF 'laws.FnTemplates'. -/
def fnTemplatesUptoCard : Claim7 := { stood := { row := fnTemplatesUptoRow, standIns := [], harness := (true, "ac7c0e652bc8eb3423d659456bf5124dff52bf73db78cef7d6795956d96e3ac0"), looks := true }, kinds := [], alts := [], laidByText := true, laidKinds := [.handle], laidTests := true, laidLooks := .later }
def FnTemplatesUptoCardSaid : Prop := Claim7.holds Tryd.pinned (.plain (OpenSpec.upto fnTemplatesSpec)) fnTemplatesUptoCard
end Rows
end Go.Proofs.YtmlgmhnplicflaaDoor
