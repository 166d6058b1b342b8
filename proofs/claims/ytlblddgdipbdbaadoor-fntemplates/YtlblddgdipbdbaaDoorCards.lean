/-
  DERIVED. GIVEN WITH THE SEED: THE CARDS: each row of YtlblddgdipbdbaaDoorRows.lean that lists a variable, with what it lists TIED to the program's text (the seventh form; the later family's looks); each row that meets fmt, with fmt's text TOLD by the authors' own Lean function (tested against real Go, not proved from fmt's source: count such statements apart). THE CARD IS WHAT COUNTS. Prove the row's statement (the work); the ties are given (YtlblddgdipbdbaaDoorTie.lean); close each card by the builder's one call (the guide's Derived/Test/ToyasCard.lean, 'card_holds'). Laid BY PROGRAM, IN A SANDBOX (cutbox-door.mjs). By AI agents, Wed Nov 11 2026. No macro, syntax, notation, axiom, sorry.
-/
import Derived.Test.YtlblddgdipbdbaaDoorRows
import GoSem.ClaimSeven
namespace Go.Proofs.YtlblddgdipbdbaaDoor
namespace Rows

/-- THE TIED CARD OF 'laws.FnTemplates'. -/
def fnTemplatesCard : Claim7 := { stood := { row := fnTemplatesRow, standIns := [], harness := (true, "d878d75eb3ed5c55757d04003c835c30190eaf58b2370ddfc2a05c89b5a3901d"), looks := true }, kinds := [], alts := [], laidByText := true, laidKinds := [.handle], laidTests := true, laidLooks := .later }
def FnTemplatesCardSaid : Prop := Claim7.holds Tryd.pinned (.plain (OpenSpec.ofChange fnTemplatesSpec)) fnTemplatesCard

/-- THE SECOND FORM's CARD OF 'laws.FnTemplates'. -/
def fnTemplatesUptoCard : Claim7 := { stood := { row := fnTemplatesUptoRow, standIns := [], harness := (true, "d878d75eb3ed5c55757d04003c835c30190eaf58b2370ddfc2a05c89b5a3901d"), looks := true }, kinds := [], alts := [], laidByText := true, laidKinds := [.handle], laidTests := true, laidLooks := .later }
def FnTemplatesUptoCardSaid : Prop := Claim7.holds Tryd.pinned (.plain (OpenSpec.upto fnTemplatesSpec)) fnTemplatesUptoCard
end Rows
end Go.Proofs.YtlblddgdipbdbaaDoor
