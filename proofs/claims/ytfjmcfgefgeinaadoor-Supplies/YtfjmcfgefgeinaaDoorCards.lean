/-
  DERIVED. GIVEN WITH THE SEED: THE CARDS: each row of YtfjmcfgefgeinaaDoorRows.lean that lists a variable, with what it lists TIED to the program's text (the seventh form; the later family's looks); each row that meets fmt, with fmt's text TOLD by the authors' own Lean function (tested against real Go, not proved from fmt's source: count such statements apart). THE CARD IS WHAT COUNTS. Prove the row's statement (the work); the ties are given (YtfjmcfgefgeinaaDoorTie.lean); close each card by the builder's one call (the guide's Derived/Test/ToyasCard.lean, 'card_holds'). Laid BY PROGRAM, IN A SANDBOX (cutbox-door.mjs). By AI agents, Wed Nov 11 2026. No macro, syntax, notation, axiom, sorry.
-/
import Derived.Test.YtfjmcfgefgeinaaDoorRows
import GoSem.ClaimSeven
namespace Go.Proofs.YtfjmcfgefgeinaaDoor
namespace Rows

/-- THE TIED CARD OF 'nocturnlaw7.Supplies'. -/
def suppliesCard : Claim7 := { stood := { row := suppliesRow, standIns := [], harness := (true, "2dcd6e974f8cc150e80545f6c5244f8f44ed69cedda3e2553c4fd920c8eafe0b"), looks := false }, kinds := [], alts := [], laidByText := true, laidKinds := [.data], laidTests := true, laidLooks := .later }
def SuppliesCardSaid : Prop := Claim7.holds Tryd.pinned (.plain (OpenSpec.ofChange suppliesSpec)) suppliesCard

/-- THE TIED CARD OF 'nocturnlaw7.SupplyLeast'. -/
def supplyLeastCard : Claim7 := { stood := { row := supplyLeastRow, standIns := [], harness := (true, "2dcd6e974f8cc150e80545f6c5244f8f44ed69cedda3e2553c4fd920c8eafe0b"), looks := false }, kinds := [], alts := [], laidByText := true, laidKinds := [.data], laidTests := true, laidLooks := .later }
def SupplyLeastCardSaid : Prop := Claim7.holds Tryd.pinned (.plain (OpenSpec.ofChange supplyLeastSpec)) supplyLeastCard

/-- THE TIED CARD OF 'nocturnlaw7.SupplyWhole'. -/
def supplyWholeCard : Claim7 := { stood := { row := supplyWholeRow, standIns := [], harness := (true, "2dcd6e974f8cc150e80545f6c5244f8f44ed69cedda3e2553c4fd920c8eafe0b"), looks := false }, kinds := [], alts := [], laidByText := true, laidKinds := [.data], laidTests := true, laidLooks := .later }
def SupplyWholeCardSaid : Prop := Claim7.holds Tryd.pinned (.plain (OpenSpec.ofChange supplyWholeSpec)) supplyWholeCard

/-- THE TIED CARD OF 'nocturnlaw7.SupplyForms'. -/
def supplyFormsCard : Claim7 := { stood := { row := supplyFormsRow, standIns := [], harness := (true, "2dcd6e974f8cc150e80545f6c5244f8f44ed69cedda3e2553c4fd920c8eafe0b"), looks := false }, kinds := [], alts := [], laidByText := true, laidKinds := [.data], laidTests := true, laidLooks := .later }
def SupplyFormsCardSaid : Prop := Claim7.holds Tryd.pinned (.plain (OpenSpec.ofChange supplyFormsSpec)) supplyFormsCard

/-- THE TIED CARD OF 'nocturnlaw7.SupplyMore'. -/
def supplyMoreCard : Claim7 := { stood := { row := supplyMoreRow, standIns := [], harness := (true, "2dcd6e974f8cc150e80545f6c5244f8f44ed69cedda3e2553c4fd920c8eafe0b"), looks := false }, kinds := [], alts := [], laidByText := true, laidKinds := [.data], laidTests := true, laidLooks := .later }
def SupplyMoreCardSaid : Prop := Claim7.holds Tryd.pinned (.plain (OpenSpec.ofChange supplyMoreSpec)) supplyMoreCard

/-- THE TIED CARD OF 'nocturnlaw7.SupplyOne'. -/
def supplyOneCard : Claim7 := { stood := { row := supplyOneRow, standIns := [], harness := (true, "2dcd6e974f8cc150e80545f6c5244f8f44ed69cedda3e2553c4fd920c8eafe0b"), looks := false }, kinds := [], alts := [], laidByText := true, laidKinds := [.data], laidTests := true, laidLooks := .later }
def SupplyOneCardSaid : Prop := Claim7.holds Tryd.pinned (.plain (OpenSpec.ofChange supplyOneSpec)) supplyOneCard

/-- THE SECOND FORM's CARD OF 'nocturnlaw7.Supplies'. -/
def suppliesUptoCard : Claim7 := { stood := { row := suppliesUptoRow, standIns := [], harness := (true, "2dcd6e974f8cc150e80545f6c5244f8f44ed69cedda3e2553c4fd920c8eafe0b"), looks := false }, kinds := [], alts := [], laidByText := true, laidKinds := [.data], laidTests := true, laidLooks := .later }
def SuppliesUptoCardSaid : Prop := Claim7.holds Tryd.pinned (.plain (OpenSpec.upto suppliesSpec)) suppliesUptoCard

/-- THE SECOND FORM's CARD OF 'nocturnlaw7.SupplyLeast'. -/
def supplyLeastUptoCard : Claim7 := { stood := { row := supplyLeastUptoRow, standIns := [], harness := (true, "2dcd6e974f8cc150e80545f6c5244f8f44ed69cedda3e2553c4fd920c8eafe0b"), looks := false }, kinds := [], alts := [], laidByText := true, laidKinds := [.data], laidTests := true, laidLooks := .later }
def SupplyLeastUptoCardSaid : Prop := Claim7.holds Tryd.pinned (.plain (OpenSpec.upto supplyLeastSpec)) supplyLeastUptoCard

/-- THE SECOND FORM's CARD OF 'nocturnlaw7.SupplyWhole'. -/
def supplyWholeUptoCard : Claim7 := { stood := { row := supplyWholeUptoRow, standIns := [], harness := (true, "2dcd6e974f8cc150e80545f6c5244f8f44ed69cedda3e2553c4fd920c8eafe0b"), looks := false }, kinds := [], alts := [], laidByText := true, laidKinds := [.data], laidTests := true, laidLooks := .later }
def SupplyWholeUptoCardSaid : Prop := Claim7.holds Tryd.pinned (.plain (OpenSpec.upto supplyWholeSpec)) supplyWholeUptoCard

/-- THE SECOND FORM's CARD OF 'nocturnlaw7.SupplyForms'. -/
def supplyFormsUptoCard : Claim7 := { stood := { row := supplyFormsUptoRow, standIns := [], harness := (true, "2dcd6e974f8cc150e80545f6c5244f8f44ed69cedda3e2553c4fd920c8eafe0b"), looks := false }, kinds := [], alts := [], laidByText := true, laidKinds := [.data], laidTests := true, laidLooks := .later }
def SupplyFormsUptoCardSaid : Prop := Claim7.holds Tryd.pinned (.plain (OpenSpec.upto supplyFormsSpec)) supplyFormsUptoCard

/-- THE SECOND FORM's CARD OF 'nocturnlaw7.SupplyMore'. -/
def supplyMoreUptoCard : Claim7 := { stood := { row := supplyMoreUptoRow, standIns := [], harness := (true, "2dcd6e974f8cc150e80545f6c5244f8f44ed69cedda3e2553c4fd920c8eafe0b"), looks := false }, kinds := [], alts := [], laidByText := true, laidKinds := [.data], laidTests := true, laidLooks := .later }
def SupplyMoreUptoCardSaid : Prop := Claim7.holds Tryd.pinned (.plain (OpenSpec.upto supplyMoreSpec)) supplyMoreUptoCard

/-- THE SECOND FORM's CARD OF 'nocturnlaw7.SupplyOne'. -/
def supplyOneUptoCard : Claim7 := { stood := { row := supplyOneUptoRow, standIns := [], harness := (true, "2dcd6e974f8cc150e80545f6c5244f8f44ed69cedda3e2553c4fd920c8eafe0b"), looks := false }, kinds := [], alts := [], laidByText := true, laidKinds := [.data], laidTests := true, laidLooks := .later }
def SupplyOneUptoCardSaid : Prop := Claim7.holds Tryd.pinned (.plain (OpenSpec.upto supplyOneSpec)) supplyOneUptoCard
end Rows
end Go.Proofs.YtfjmcfgefgeinaaDoor
