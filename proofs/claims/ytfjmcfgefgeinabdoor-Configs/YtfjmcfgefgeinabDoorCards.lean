/-
  DERIVED. GIVEN WITH THE SEED: THE CARDS: each row of YtfjmcfgefgeinabDoorRows.lean that lists a variable, with what it lists TIED to the program's text (the seventh form; the later family's looks); each row that meets fmt, with fmt's text TOLD by the authors' own Lean function (tested against real Go, not proved from fmt's source: count such statements apart). THE CARD IS WHAT COUNTS. Prove the row's statement (the work); the ties are given (YtfjmcfgefgeinabDoorTie.lean); close each card by the builder's one call (the guide's Derived/Test/ToyasCard.lean, 'card_holds'). Laid BY PROGRAM, IN A SANDBOX (cutbox-door.mjs). By AI agents, Wed Nov 11 2026. No macro, syntax, notation, axiom, sorry.
-/
import Derived.Test.YtfjmcfgefgeinabDoorRows
import GoSem.ClaimSeven
namespace Go.Proofs.YtfjmcfgefgeinabDoor
namespace Rows

/-- THE TIED CARD OF 'nocturnlaw5.Configs'. -/
def configsCard : Claim7 := { stood := { row := configsRow, standIns := [], harness := (true, "0214d8409d8aa755c2bbb6022c9efaad32337c7aa1bb1d162a9c8f1af71c7d4f"), looks := false }, kinds := [], alts := [], laidByText := true, laidKinds := [.data], laidTests := true, laidLooks := .later }
def ConfigsCardSaid : Prop := Claim7.holds Tryd.pinned (.plain (OpenSpec.ofChange configsSpec)) configsCard

/-- THE TIED CARD OF 'nocturnlaw6.Frames'. -/
def framesCard : Claim7 := { stood := { row := framesRow, standIns := [], harness := (true, "0214d8409d8aa755c2bbb6022c9efaad32337c7aa1bb1d162a9c8f1af71c7d4f"), looks := false }, kinds := [], alts := [], laidByText := true, laidKinds := [.data], laidTests := true, laidLooks := .later }
def FramesCardSaid : Prop := Claim7.holds Tryd.pinned (.plain (OpenSpec.ofChange framesSpec)) framesCard

/-- THE TIED CARD OF 'nocturnlaw6.FrameWindows'. -/
def frameWindowsCard : Claim7 := { stood := { row := frameWindowsRow, standIns := [], harness := (true, "0214d8409d8aa755c2bbb6022c9efaad32337c7aa1bb1d162a9c8f1af71c7d4f"), looks := false }, kinds := [], alts := [], laidByText := true, laidKinds := [.data], laidTests := true, laidLooks := .later }
def FrameWindowsCardSaid : Prop := Claim7.holds Tryd.pinned (.plain (OpenSpec.ofChange frameWindowsSpec)) frameWindowsCard

/-- THE SECOND FORM's CARD OF 'nocturnlaw5.Configs'. -/
def configsUptoCard : Claim7 := { stood := { row := configsUptoRow, standIns := [], harness := (true, "0214d8409d8aa755c2bbb6022c9efaad32337c7aa1bb1d162a9c8f1af71c7d4f"), looks := false }, kinds := [], alts := [], laidByText := true, laidKinds := [.data], laidTests := true, laidLooks := .later }
def ConfigsUptoCardSaid : Prop := Claim7.holds Tryd.pinned (.plain (OpenSpec.upto configsSpec)) configsUptoCard

/-- THE SECOND FORM's CARD OF 'nocturnlaw6.Frames'. -/
def framesUptoCard : Claim7 := { stood := { row := framesUptoRow, standIns := [], harness := (true, "0214d8409d8aa755c2bbb6022c9efaad32337c7aa1bb1d162a9c8f1af71c7d4f"), looks := false }, kinds := [], alts := [], laidByText := true, laidKinds := [.data], laidTests := true, laidLooks := .later }
def FramesUptoCardSaid : Prop := Claim7.holds Tryd.pinned (.plain (OpenSpec.upto framesSpec)) framesUptoCard

/-- THE SECOND FORM's CARD OF 'nocturnlaw6.FrameWindows'. -/
def frameWindowsUptoCard : Claim7 := { stood := { row := frameWindowsUptoRow, standIns := [], harness := (true, "0214d8409d8aa755c2bbb6022c9efaad32337c7aa1bb1d162a9c8f1af71c7d4f"), looks := false }, kinds := [], alts := [], laidByText := true, laidKinds := [.data], laidTests := true, laidLooks := .later }
def FrameWindowsUptoCardSaid : Prop := Claim7.holds Tryd.pinned (.plain (OpenSpec.upto frameWindowsSpec)) frameWindowsUptoCard
end Rows
end Go.Proofs.YtfjmcfgefgeinabDoor
