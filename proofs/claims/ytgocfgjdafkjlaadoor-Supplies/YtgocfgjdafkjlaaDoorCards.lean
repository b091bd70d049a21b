/-
  DERIVED. GIVEN WITH THE SEED: THE CARDS: each row of YtgocfgjdafkjlaaDoorRows.lean that lists a variable, with what it lists TIED to the program's text (the seventh form; the later family's looks); each row that meets fmt, with fmt's text TOLD by the authors' own Lean function (tested against real Go, not proved from fmt's source: count such statements apart). THE CARD IS WHAT COUNTS. Prove the row's statement (the work); the ties are given (YtgocfgjdafkjlaaDoorTie.lean); close each card by the builder's one call (the guide's Derived/Test/ToyasCard.lean, 'card_holds'). Laid BY PROGRAM, IN A SANDBOX (cutbox-door.mjs). By AI agents, Wed Nov 11 2026. No macro, syntax, notation, axiom, sorry.
-/
import Derived.Test.YtgocfgjdafkjlaaDoorRows
import GoSem.ClaimSeven
namespace Go.Proofs.YtgocfgjdafkjlaaDoor
namespace Rows

/-- THE TIED CARD OF 'nocturnlaw5.Configs'. -/
def configsCard : Claim7 := { stood := { row := configsRow, standIns := [], harness := (true, "bbd2ebb234f9eb08f6f2c68db94afe831800b689137983acbce9ac8f25d56f62"), looks := false }, kinds := [], alts := [], laidByText := true, laidKinds := [.data], laidTests := true, laidLooks := .later }
def ConfigsCardSaid : Prop := Claim7.holds Tryd.pinned (.plain (OpenSpec.ofChange configsSpec)) configsCard

/-- THE TIED CARD OF 'nocturnlaw6.Frames'. -/
def framesCard : Claim7 := { stood := { row := framesRow, standIns := [], harness := (true, "bbd2ebb234f9eb08f6f2c68db94afe831800b689137983acbce9ac8f25d56f62"), looks := false }, kinds := [], alts := [], laidByText := true, laidKinds := [.data], laidTests := true, laidLooks := .later }
def FramesCardSaid : Prop := Claim7.holds Tryd.pinned (.plain (OpenSpec.ofChange framesSpec)) framesCard

/-- THE TIED CARD OF 'nocturnlaw6.FrameWindows'. -/
def frameWindowsCard : Claim7 := { stood := { row := frameWindowsRow, standIns := [], harness := (true, "bbd2ebb234f9eb08f6f2c68db94afe831800b689137983acbce9ac8f25d56f62"), looks := false }, kinds := [], alts := [], laidByText := true, laidKinds := [.data], laidTests := true, laidLooks := .later }
def FrameWindowsCardSaid : Prop := Claim7.holds Tryd.pinned (.plain (OpenSpec.ofChange frameWindowsSpec)) frameWindowsCard

/-- THE TIED CARD OF 'nocturnlaw7.Supplies'. -/
def suppliesCard : Claim7 := { stood := { row := suppliesRow, standIns := [], harness := (true, "bbd2ebb234f9eb08f6f2c68db94afe831800b689137983acbce9ac8f25d56f62"), looks := false }, kinds := [], alts := [], laidByText := true, laidKinds := [.data], laidTests := true, laidLooks := .later }
def SuppliesCardSaid : Prop := Claim7.holds Tryd.pinned (.plain (OpenSpec.ofChange suppliesSpec)) suppliesCard

/-- THE TIED CARD OF 'nocturnlaw7.SupplyLeast'. -/
def supplyLeastCard : Claim7 := { stood := { row := supplyLeastRow, standIns := [], harness := (true, "bbd2ebb234f9eb08f6f2c68db94afe831800b689137983acbce9ac8f25d56f62"), looks := false }, kinds := [], alts := [], laidByText := true, laidKinds := [.data], laidTests := true, laidLooks := .later }
def SupplyLeastCardSaid : Prop := Claim7.holds Tryd.pinned (.plain (OpenSpec.ofChange supplyLeastSpec)) supplyLeastCard

/-- THE TIED CARD OF 'nocturnlaw7.SupplyWhole'. -/
def supplyWholeCard : Claim7 := { stood := { row := supplyWholeRow, standIns := [], harness := (true, "bbd2ebb234f9eb08f6f2c68db94afe831800b689137983acbce9ac8f25d56f62"), looks := false }, kinds := [], alts := [], laidByText := true, laidKinds := [.data], laidTests := true, laidLooks := .later }
def SupplyWholeCardSaid : Prop := Claim7.holds Tryd.pinned (.plain (OpenSpec.ofChange supplyWholeSpec)) supplyWholeCard

/-- THE SECOND FORM's CARD OF 'nocturnlaw5.Configs'. -/
def configsUptoCard : Claim7 := { stood := { row := configsUptoRow, standIns := [], harness := (true, "bbd2ebb234f9eb08f6f2c68db94afe831800b689137983acbce9ac8f25d56f62"), looks := false }, kinds := [], alts := [], laidByText := true, laidKinds := [.data], laidTests := true, laidLooks := .later }
def ConfigsUptoCardSaid : Prop := Claim7.holds Tryd.pinned (.plain (OpenSpec.upto configsSpec)) configsUptoCard

/-- THE SECOND FORM's CARD OF 'nocturnlaw6.Frames'. -/
def framesUptoCard : Claim7 := { stood := { row := framesUptoRow, standIns := [], harness := (true, "bbd2ebb234f9eb08f6f2c68db94afe831800b689137983acbce9ac8f25d56f62"), looks := false }, kinds := [], alts := [], laidByText := true, laidKinds := [.data], laidTests := true, laidLooks := .later }
def FramesUptoCardSaid : Prop := Claim7.holds Tryd.pinned (.plain (OpenSpec.upto framesSpec)) framesUptoCard

/-- THE SECOND FORM's CARD OF 'nocturnlaw6.FrameWindows'. -/
def frameWindowsUptoCard : Claim7 := { stood := { row := frameWindowsUptoRow, standIns := [], harness := (true, "bbd2ebb234f9eb08f6f2c68db94afe831800b689137983acbce9ac8f25d56f62"), looks := false }, kinds := [], alts := [], laidByText := true, laidKinds := [.data], laidTests := true, laidLooks := .later }
def FrameWindowsUptoCardSaid : Prop := Claim7.holds Tryd.pinned (.plain (OpenSpec.upto frameWindowsSpec)) frameWindowsUptoCard

/-- THE SECOND FORM's CARD OF 'nocturnlaw7.Supplies'. -/
def suppliesUptoCard : Claim7 := { stood := { row := suppliesUptoRow, standIns := [], harness := (true, "bbd2ebb234f9eb08f6f2c68db94afe831800b689137983acbce9ac8f25d56f62"), looks := false }, kinds := [], alts := [], laidByText := true, laidKinds := [.data], laidTests := true, laidLooks := .later }
def SuppliesUptoCardSaid : Prop := Claim7.holds Tryd.pinned (.plain (OpenSpec.upto suppliesSpec)) suppliesUptoCard

/-- THE SECOND FORM's CARD OF 'nocturnlaw7.SupplyLeast'. -/
def supplyLeastUptoCard : Claim7 := { stood := { row := supplyLeastUptoRow, standIns := [], harness := (true, "bbd2ebb234f9eb08f6f2c68db94afe831800b689137983acbce9ac8f25d56f62"), looks := false }, kinds := [], alts := [], laidByText := true, laidKinds := [.data], laidTests := true, laidLooks := .later }
def SupplyLeastUptoCardSaid : Prop := Claim7.holds Tryd.pinned (.plain (OpenSpec.upto supplyLeastSpec)) supplyLeastUptoCard

/-- THE SECOND FORM's CARD OF 'nocturnlaw7.SupplyWhole'. -/
def supplyWholeUptoCard : Claim7 := { stood := { row := supplyWholeUptoRow, standIns := [], harness := (true, "bbd2ebb234f9eb08f6f2c68db94afe831800b689137983acbce9ac8f25d56f62"), looks := false }, kinds := [], alts := [], laidByText := true, laidKinds := [.data], laidTests := true, laidLooks := .later }
def SupplyWholeUptoCardSaid : Prop := Claim7.holds Tryd.pinned (.plain (OpenSpec.upto supplyWholeSpec)) supplyWholeUptoCard
end Rows
end Go.Proofs.YtgocfgjdafkjlaaDoor
