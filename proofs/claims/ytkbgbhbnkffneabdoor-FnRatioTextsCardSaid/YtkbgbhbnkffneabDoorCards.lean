/-
  DERIVED. GIVEN WITH THE SEED: THE CARDS: each row of YtkbgbhbnkffneabDoorRows.lean that lists a variable, with what it lists TIED to the program's text (the seventh form; the later family's looks); each row that meets fmt, with fmt's text TOLD by the authors' own Lean function (tested against real Go, not proved from fmt's source: count such statements apart). THE CARD IS WHAT COUNTS. Prove the row's statement (the work); the ties are given (YtkbgbhbnkffneabDoorTie.lean); close each card by the builder's one call (the guide's Derived/Test/ToyasCard.lean, 'card_holds'). Laid BY PROGRAM, IN A SANDBOX (cutbox-door.mjs). By AI agents, Wed Nov 11 2026. No macro, syntax, notation, axiom, sorry.
-/
import Derived.Test.YtkbgbhbnkffneabDoorRows
import GoSem.ClaimSeven
namespace Go.Proofs.YtkbgbhbnkffneabDoor
namespace Rows

/-- THE TIED CARD OF 'laws.FnRatioTexts'. -/
def fnRatioTextsCard : Claim7 := { stood := { row := fnRatioTextsRow, standIns := [], harness := (true, "771fd684ea904c566e595a23ec40f4a867c67c320419e5437e64e91cb169bf05"), looks := true }, kinds := [], alts := [], laidByText := true, laidKinds := [.data, .data, .data, .sentinel, .sentinel], laidTests := true, laidLooks := .later }
def FnRatioTextsCardSaid : Prop := Claim7.holds Tryd.pinned (.plain (OpenSpec.ofChange fnRatioTextsSpec)) fnRatioTextsCard

/-- THE TIED CARD OF 'laws.FnExactRatioText'. -/
def fnExactRatioTextCard : Claim7 := { stood := { row := fnExactRatioTextRow, standIns := [], harness := (true, "771fd684ea904c566e595a23ec40f4a867c67c320419e5437e64e91cb169bf05"), looks := true }, kinds := [], alts := [], laidByText := true, laidKinds := [.data, .data, .data], laidTests := true, laidLooks := .later }
def FnExactRatioTextCardSaid : Prop := Claim7.holds Tryd.pinned (.plain (OpenSpec.ofChange fnExactRatioTextSpec)) fnExactRatioTextCard

/-- THE TIED CARD OF 'laws.FnExactReadRatio'. -/
def fnExactReadRatioCard : Claim7 := { stood := { row := fnExactReadRatioRow, standIns := [], harness := (true, "771fd684ea904c566e595a23ec40f4a867c67c320419e5437e64e91cb169bf05"), looks := true }, kinds := [], alts := [], laidByText := true, laidKinds := [.data, .data, .data, .sentinel, .sentinel], laidTests := true, laidLooks := .later }
def FnExactReadRatioCardSaid : Prop := Claim7.holds Tryd.pinned (.plain (OpenSpec.ofChange fnExactReadRatioSpec)) fnExactReadRatioCard

/-- THE SECOND FORM's CARD OF 'laws.FnRatioTexts'. -/
def fnRatioTextsUptoCard : Claim7 := { stood := { row := fnRatioTextsUptoRow, standIns := [], harness := (true, "771fd684ea904c566e595a23ec40f4a867c67c320419e5437e64e91cb169bf05"), looks := true }, kinds := [], alts := [], laidByText := true, laidKinds := [.data, .data, .data, .sentinel, .sentinel], laidTests := true, laidLooks := .later }
def FnRatioTextsUptoCardSaid : Prop := Claim7.holds Tryd.pinned (.plain (OpenSpec.upto fnRatioTextsSpec)) fnRatioTextsUptoCard

/-- THE SECOND FORM's CARD OF 'laws.FnExactRatioText'. -/
def fnExactRatioTextUptoCard : Claim7 := { stood := { row := fnExactRatioTextUptoRow, standIns := [], harness := (true, "771fd684ea904c566e595a23ec40f4a867c67c320419e5437e64e91cb169bf05"), looks := true }, kinds := [], alts := [], laidByText := true, laidKinds := [.data, .data, .data], laidTests := true, laidLooks := .later }
def FnExactRatioTextUptoCardSaid : Prop := Claim7.holds Tryd.pinned (.plain (OpenSpec.upto fnExactRatioTextSpec)) fnExactRatioTextUptoCard

/-- THE SECOND FORM's CARD OF 'laws.FnExactReadRatio'. -/
def fnExactReadRatioUptoCard : Claim7 := { stood := { row := fnExactReadRatioUptoRow, standIns := [], harness := (true, "771fd684ea904c566e595a23ec40f4a867c67c320419e5437e64e91cb169bf05"), looks := true }, kinds := [], alts := [], laidByText := true, laidKinds := [.data, .data, .data, .sentinel, .sentinel], laidTests := true, laidLooks := .later }
def FnExactReadRatioUptoCardSaid : Prop := Claim7.holds Tryd.pinned (.plain (OpenSpec.upto fnExactReadRatioSpec)) fnExactReadRatioUptoCard
end Rows
end Go.Proofs.YtkbgbhbnkffneabDoor
