/-
  DERIVED. GIVEN WITH THE SEED: THE CARDS: each row of YtlblddgdipbdbabDoorRows.lean that lists a variable, with what it lists TIED to the program's text (the seventh form; the later family's looks); each row that meets fmt, with fmt's text TOLD by the authors' own Lean function (tested against real Go, not proved from fmt's source: count such statements apart). THE CARD IS WHAT COUNTS. Prove the row's statement (the work); the ties are given (YtlblddgdipbdbabDoorTie.lean); close each card by the builder's one call (the guide's Derived/Test/ToyasCard.lean, 'card_holds'). Laid BY PROGRAM, IN A SANDBOX (cutbox-door.mjs). By AI agents, Wed Nov 11 2026. No macro, syntax, notation, axiom, sorry.
-/
import Derived.Test.YtlblddgdipbdbabDoorRows
import GoSem.ClaimSeven
namespace Go.Proofs.YtlblddgdipbdbabDoor
namespace Rows

/-- THE TIED CARD OF 'laws.FnExactReadTemplate'. -/
def fnExactReadTemplateCard : Claim7 := { stood := { row := fnExactReadTemplateRow, standIns := [], harness := (true, "29c106f5d1cd5397d2f69283fc0b83cef16302c7f91434e77b89f1169649cb17"), looks := true }, kinds := [], alts := [], laidByText := true, laidKinds := [.handle], laidTests := true, laidLooks := .later }
def FnExactReadTemplateCardSaid : Prop := Claim7.holds Tryd.pinned (.plain (OpenSpec.ofChange fnExactReadTemplateSpec)) fnExactReadTemplateCard

/-- THE SECOND FORM's CARD OF 'laws.FnExactReadTemplate'. -/
def fnExactReadTemplateUptoCard : Claim7 := { stood := { row := fnExactReadTemplateUptoRow, standIns := [], harness := (true, "29c106f5d1cd5397d2f69283fc0b83cef16302c7f91434e77b89f1169649cb17"), looks := true }, kinds := [], alts := [], laidByText := true, laidKinds := [.handle], laidTests := true, laidLooks := .later }
def FnExactReadTemplateUptoCardSaid : Prop := Claim7.holds Tryd.pinned (.plain (OpenSpec.upto fnExactReadTemplateSpec)) fnExactReadTemplateUptoCard
end Rows
end Go.Proofs.YtlblddgdipbdbabDoor
