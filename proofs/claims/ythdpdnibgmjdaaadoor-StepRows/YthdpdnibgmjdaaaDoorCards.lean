/-
  DERIVED. GIVEN WITH THE SEED: THE CARDS: each row of YthdpdnibgmjdaaaDoorRows.lean that lists a variable, with what it lists TIED to the program's text (the seventh form; the later family's looks); each row that meets fmt, with fmt's text TOLD by the authors' own Lean function (tested against real Go, not proved from fmt's source: count such statements apart). THE CARD IS WHAT COUNTS. Prove the row's statement (the work); the ties are given (YthdpdnibgmjdaaaDoorTie.lean); close each card by the builder's one call (the guide's Derived/Test/ToyasCard.lean, 'card_holds'). Laid BY PROGRAM, IN A SANDBOX (cutbox-door.mjs). By AI agents, Wed Nov 11 2026. No macro, syntax, notation, axiom, sorry.
-/
import Derived.Test.YthdpdnibgmjdaaaDoorRows
import GoSem.ClaimSeven
namespace Go.Proofs.YthdpdnibgmjdaaaDoor
namespace Rows

/-- THE TIED CARD OF 'nocturnlaw10.Steps'. -/
def stepsCard : Claim7 := { stood := { row := stepsRow, standIns := [], harness := (true, "2e083225ab328e992f48f0ac2a9b2909c3f6bd9dee2757fcd68d98656afdd6c0"), looks := false }, kinds := [], alts := [], laidByText := true, laidKinds := [.data], laidTests := true, laidLooks := .later }
def StepsCardSaid : Prop := Claim7.holds Tryd.pinned (.plain (OpenSpec.ofChange stepsSpec)) stepsCard

/-- THE TIED CARD OF 'nocturnlaw10.StepRows'. -/
def stepRowsCard : Claim7 := { stood := { row := stepRowsRow, standIns := [], harness := (true, "2e083225ab328e992f48f0ac2a9b2909c3f6bd9dee2757fcd68d98656afdd6c0"), looks := false }, kinds := [], alts := [], laidByText := true, laidKinds := [.data], laidTests := true, laidLooks := .later }
def StepRowsCardSaid : Prop := Claim7.holds Tryd.pinned (.plain (OpenSpec.ofChange stepRowsSpec)) stepRowsCard

/-- THE TIED CARD OF 'nocturnlaw10.StepSums'. -/
def stepSumsCard : Claim7 := { stood := { row := stepSumsRow, standIns := [], harness := (true, "2e083225ab328e992f48f0ac2a9b2909c3f6bd9dee2757fcd68d98656afdd6c0"), looks := false }, kinds := [], alts := [], laidByText := true, laidKinds := [.data], laidTests := true, laidLooks := .later }
def StepSumsCardSaid : Prop := Claim7.holds Tryd.pinned (.plain (OpenSpec.ofChange stepSumsSpec)) stepSumsCard

/-- THE TIED CARD OF 'nocturnlaw10.StepForms'. -/
def stepFormsCard : Claim7 := { stood := { row := stepFormsRow, standIns := [], harness := (true, "2e083225ab328e992f48f0ac2a9b2909c3f6bd9dee2757fcd68d98656afdd6c0"), looks := false }, kinds := [], alts := [], laidByText := true, laidKinds := [.data], laidTests := true, laidLooks := .later }
def StepFormsCardSaid : Prop := Claim7.holds Tryd.pinned (.plain (OpenSpec.ofChange stepFormsSpec)) stepFormsCard

/-- THE TIED CARD OF 'nocturnlaw10.StepJumps'. -/
def stepJumpsCard : Claim7 := { stood := { row := stepJumpsRow, standIns := [], harness := (true, "2e083225ab328e992f48f0ac2a9b2909c3f6bd9dee2757fcd68d98656afdd6c0"), looks := false }, kinds := [], alts := [], laidByText := true, laidKinds := [.data], laidTests := true, laidLooks := .later }
def StepJumpsCardSaid : Prop := Claim7.holds Tryd.pinned (.plain (OpenSpec.ofChange stepJumpsSpec)) stepJumpsCard

/-- THE TIED CARD OF 'nocturnlaw10.StepPorts'. -/
def stepPortsCard : Claim7 := { stood := { row := stepPortsRow, standIns := [], harness := (true, "2e083225ab328e992f48f0ac2a9b2909c3f6bd9dee2757fcd68d98656afdd6c0"), looks := false }, kinds := [], alts := [], laidByText := true, laidKinds := [.data], laidTests := true, laidLooks := .later }
def StepPortsCardSaid : Prop := Claim7.holds Tryd.pinned (.plain (OpenSpec.ofChange stepPortsSpec)) stepPortsCard

/-- THE SECOND FORM's CARD OF 'nocturnlaw10.Steps'. -/
def stepsUptoCard : Claim7 := { stood := { row := stepsUptoRow, standIns := [], harness := (true, "2e083225ab328e992f48f0ac2a9b2909c3f6bd9dee2757fcd68d98656afdd6c0"), looks := false }, kinds := [], alts := [], laidByText := true, laidKinds := [.data], laidTests := true, laidLooks := .later }
def StepsUptoCardSaid : Prop := Claim7.holds Tryd.pinned (.plain (OpenSpec.upto stepsSpec)) stepsUptoCard

/-- THE SECOND FORM's CARD OF 'nocturnlaw10.StepRows'. -/
def stepRowsUptoCard : Claim7 := { stood := { row := stepRowsUptoRow, standIns := [], harness := (true, "2e083225ab328e992f48f0ac2a9b2909c3f6bd9dee2757fcd68d98656afdd6c0"), looks := false }, kinds := [], alts := [], laidByText := true, laidKinds := [.data], laidTests := true, laidLooks := .later }
def StepRowsUptoCardSaid : Prop := Claim7.holds Tryd.pinned (.plain (OpenSpec.upto stepRowsSpec)) stepRowsUptoCard

/-- THE SECOND FORM's CARD OF 'nocturnlaw10.StepSums'. -/
def stepSumsUptoCard : Claim7 := { stood := { row := stepSumsUptoRow, standIns := [], harness := (true, "2e083225ab328e992f48f0ac2a9b2909c3f6bd9dee2757fcd68d98656afdd6c0"), looks := false }, kinds := [], alts := [], laidByText := true, laidKinds := [.data], laidTests := true, laidLooks := .later }
def StepSumsUptoCardSaid : Prop := Claim7.holds Tryd.pinned (.plain (OpenSpec.upto stepSumsSpec)) stepSumsUptoCard

/-- THE SECOND FORM's CARD OF 'nocturnlaw10.StepForms'. -/
def stepFormsUptoCard : Claim7 := { stood := { row := stepFormsUptoRow, standIns := [], harness := (true, "2e083225ab328e992f48f0ac2a9b2909c3f6bd9dee2757fcd68d98656afdd6c0"), looks := false }, kinds := [], alts := [], laidByText := true, laidKinds := [.data], laidTests := true, laidLooks := .later }
def StepFormsUptoCardSaid : Prop := Claim7.holds Tryd.pinned (.plain (OpenSpec.upto stepFormsSpec)) stepFormsUptoCard

/-- THE SECOND FORM's CARD OF 'nocturnlaw10.StepJumps'. -/
def stepJumpsUptoCard : Claim7 := { stood := { row := stepJumpsUptoRow, standIns := [], harness := (true, "2e083225ab328e992f48f0ac2a9b2909c3f6bd9dee2757fcd68d98656afdd6c0"), looks := false }, kinds := [], alts := [], laidByText := true, laidKinds := [.data], laidTests := true, laidLooks := .later }
def StepJumpsUptoCardSaid : Prop := Claim7.holds Tryd.pinned (.plain (OpenSpec.upto stepJumpsSpec)) stepJumpsUptoCard

/-- THE SECOND FORM's CARD OF 'nocturnlaw10.StepPorts'. -/
def stepPortsUptoCard : Claim7 := { stood := { row := stepPortsUptoRow, standIns := [], harness := (true, "2e083225ab328e992f48f0ac2a9b2909c3f6bd9dee2757fcd68d98656afdd6c0"), looks := false }, kinds := [], alts := [], laidByText := true, laidKinds := [.data], laidTests := true, laidLooks := .later }
def StepPortsUptoCardSaid : Prop := Claim7.holds Tryd.pinned (.plain (OpenSpec.upto stepPortsSpec)) stepPortsUptoCard
end Rows
end Go.Proofs.YthdpdnibgmjdaaaDoor
