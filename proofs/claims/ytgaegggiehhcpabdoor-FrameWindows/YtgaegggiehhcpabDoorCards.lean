/-
  DERIVED. GIVEN WITH THE SEED: THE CARDS: each row of YtgaegggiehhcpabDoorRows.lean that lists a variable, with what it lists TIED to the program's text (the seventh form; the later family's looks); each row that meets fmt, with fmt's text TOLD by the authors' own Lean function (tested against real Go, not proved from fmt's source: count such statements apart). THE CARD IS WHAT COUNTS. Prove the row's statement (the work); the ties are given (YtgaegggiehhcpabDoorTie.lean); close each card by the builder's one call (the guide's Derived/Test/ToyasCard.lean, 'card_holds'). Laid BY PROGRAM, IN A SANDBOX (cutbox-door.mjs). By AI agents, Wed Nov 11 2026. No macro, syntax, notation, axiom, sorry.
-/
import Derived.Test.YtgaegggiehhcpabDoorRows
import GoSem.ClaimSeven
namespace Go.Proofs.YtgaegggiehhcpabDoor
namespace Rows

/-- THE TIED CARD OF 'nocturnlaw6.Frames'. -/
def framesCard : Claim7 := { stood := { row := framesRow, standIns := [], harness := (true, "76a64a29b77183d20155dc5caa68bcce53656ef749b70fe4189bb10db6e4b202"), looks := false }, kinds := [], alts := [], laidByText := true, laidKinds := [.data], laidTests := true, laidLooks := .later }
def FramesCardSaid : Prop := Claim7.holds Tryd.pinned (.plain (OpenSpec.ofChange framesSpec)) framesCard

/-- THE TIED CARD OF 'nocturnlaw6.FrameCounts'. -/
def frameCountsCard : Claim7 := { stood := { row := frameCountsRow, standIns := [], harness := (true, "76a64a29b77183d20155dc5caa68bcce53656ef749b70fe4189bb10db6e4b202"), looks := false }, kinds := [], alts := [], laidByText := true, laidKinds := [.data], laidTests := true, laidLooks := .later }
def FrameCountsCardSaid : Prop := Claim7.holds Tryd.pinned (.plain (OpenSpec.ofChange frameCountsSpec)) frameCountsCard

/-- THE TIED CARD OF 'nocturnlaw6.FrameHyper'. -/
def frameHyperCard : Claim7 := { stood := { row := frameHyperRow, standIns := [], harness := (true, "76a64a29b77183d20155dc5caa68bcce53656ef749b70fe4189bb10db6e4b202"), looks := false }, kinds := [], alts := [], laidByText := true, laidKinds := [.data], laidTests := true, laidLooks := .later }
def FrameHyperCardSaid : Prop := Claim7.holds Tryd.pinned (.plain (OpenSpec.ofChange frameHyperSpec)) frameHyperCard

/-- THE TIED CARD OF 'nocturnlaw6.FrameForms'. -/
def frameFormsCard : Claim7 := { stood := { row := frameFormsRow, standIns := [], harness := (true, "76a64a29b77183d20155dc5caa68bcce53656ef749b70fe4189bb10db6e4b202"), looks := false }, kinds := [], alts := [], laidByText := true, laidKinds := [.data], laidTests := true, laidLooks := .later }
def FrameFormsCardSaid : Prop := Claim7.holds Tryd.pinned (.plain (OpenSpec.ofChange frameFormsSpec)) frameFormsCard

/-- THE TIED CARD OF 'nocturnlaw6.FrameWindows'. -/
def frameWindowsCard : Claim7 := { stood := { row := frameWindowsRow, standIns := [], harness := (true, "76a64a29b77183d20155dc5caa68bcce53656ef749b70fe4189bb10db6e4b202"), looks := false }, kinds := [], alts := [], laidByText := true, laidKinds := [.data], laidTests := true, laidLooks := .later }
def FrameWindowsCardSaid : Prop := Claim7.holds Tryd.pinned (.plain (OpenSpec.ofChange frameWindowsSpec)) frameWindowsCard

/-- THE SECOND FORM's CARD OF 'nocturnlaw6.Frames'. -/
def framesUptoCard : Claim7 := { stood := { row := framesUptoRow, standIns := [], harness := (true, "76a64a29b77183d20155dc5caa68bcce53656ef749b70fe4189bb10db6e4b202"), looks := false }, kinds := [], alts := [], laidByText := true, laidKinds := [.data], laidTests := true, laidLooks := .later }
def FramesUptoCardSaid : Prop := Claim7.holds Tryd.pinned (.plain (OpenSpec.upto framesSpec)) framesUptoCard

/-- THE SECOND FORM's CARD OF 'nocturnlaw6.FrameCounts'. -/
def frameCountsUptoCard : Claim7 := { stood := { row := frameCountsUptoRow, standIns := [], harness := (true, "76a64a29b77183d20155dc5caa68bcce53656ef749b70fe4189bb10db6e4b202"), looks := false }, kinds := [], alts := [], laidByText := true, laidKinds := [.data], laidTests := true, laidLooks := .later }
def FrameCountsUptoCardSaid : Prop := Claim7.holds Tryd.pinned (.plain (OpenSpec.upto frameCountsSpec)) frameCountsUptoCard

/-- THE SECOND FORM's CARD OF 'nocturnlaw6.FrameHyper'. -/
def frameHyperUptoCard : Claim7 := { stood := { row := frameHyperUptoRow, standIns := [], harness := (true, "76a64a29b77183d20155dc5caa68bcce53656ef749b70fe4189bb10db6e4b202"), looks := false }, kinds := [], alts := [], laidByText := true, laidKinds := [.data], laidTests := true, laidLooks := .later }
def FrameHyperUptoCardSaid : Prop := Claim7.holds Tryd.pinned (.plain (OpenSpec.upto frameHyperSpec)) frameHyperUptoCard

/-- THE SECOND FORM's CARD OF 'nocturnlaw6.FrameForms'. -/
def frameFormsUptoCard : Claim7 := { stood := { row := frameFormsUptoRow, standIns := [], harness := (true, "76a64a29b77183d20155dc5caa68bcce53656ef749b70fe4189bb10db6e4b202"), looks := false }, kinds := [], alts := [], laidByText := true, laidKinds := [.data], laidTests := true, laidLooks := .later }
def FrameFormsUptoCardSaid : Prop := Claim7.holds Tryd.pinned (.plain (OpenSpec.upto frameFormsSpec)) frameFormsUptoCard

/-- THE SECOND FORM's CARD OF 'nocturnlaw6.FrameWindows'. -/
def frameWindowsUptoCard : Claim7 := { stood := { row := frameWindowsUptoRow, standIns := [], harness := (true, "76a64a29b77183d20155dc5caa68bcce53656ef749b70fe4189bb10db6e4b202"), looks := false }, kinds := [], alts := [], laidByText := true, laidKinds := [.data], laidTests := true, laidLooks := .later }
def FrameWindowsUptoCardSaid : Prop := Claim7.holds Tryd.pinned (.plain (OpenSpec.upto frameWindowsSpec)) frameWindowsUptoCard
end Rows
end Go.Proofs.YtgaegggiehhcpabDoor
