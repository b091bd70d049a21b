/-
  DERIVED. GIVEN WITH THE SEED: THE CARDS: each row of YtgocfgjdafkjlabDoorRows.lean that lists a variable, with what it lists TIED to the program's text (the seventh form; the later family's looks); each row that meets fmt, with fmt's text TOLD by the authors' own Lean function (tested against real Go, not proved from fmt's source: count such statements apart). THE CARD IS WHAT COUNTS. Prove the row's statement (the work); the ties are given (YtgocfgjdafkjlabDoorTie.lean); close each card by the builder's one call (the guide's Derived/Test/ToyasCard.lean, 'card_holds'). Laid BY PROGRAM, IN A SANDBOX (cutbox-door.mjs). By AI agents, Wed Nov 11 2026. No macro, syntax, notation, axiom, sorry.
-/
import Derived.Test.YtgocfgjdafkjlabDoorRows
import GoSem.ClaimSeven
namespace Go.Proofs.YtgocfgjdafkjlabDoor
namespace Rows

/-- THE TIED CARD OF 'nocturnlaw7.SupplyForms'. -/
def supplyFormsCard : Claim7 := { stood := { row := supplyFormsRow, standIns := [], harness := (true, "4b9f0fdd2c78a7dea60a350023a5e4b8eda247d34d76e27bd09c09542946f255"), looks := false }, kinds := [], alts := [], laidByText := true, laidKinds := [.data], laidTests := true, laidLooks := .later }
def SupplyFormsCardSaid : Prop := Claim7.holds Tryd.pinned (.plain (OpenSpec.ofChange supplyFormsSpec)) supplyFormsCard

/-- THE TIED CARD OF 'nocturnlaw7.SupplyMore'. -/
def supplyMoreCard : Claim7 := { stood := { row := supplyMoreRow, standIns := [], harness := (true, "4b9f0fdd2c78a7dea60a350023a5e4b8eda247d34d76e27bd09c09542946f255"), looks := false }, kinds := [], alts := [], laidByText := true, laidKinds := [.data], laidTests := true, laidLooks := .later }
def SupplyMoreCardSaid : Prop := Claim7.holds Tryd.pinned (.plain (OpenSpec.ofChange supplyMoreSpec)) supplyMoreCard

/-- THE TIED CARD OF 'nocturnlaw7.SupplyOne'. -/
def supplyOneCard : Claim7 := { stood := { row := supplyOneRow, standIns := [], harness := (true, "4b9f0fdd2c78a7dea60a350023a5e4b8eda247d34d76e27bd09c09542946f255"), looks := false }, kinds := [], alts := [], laidByText := true, laidKinds := [.data], laidTests := true, laidLooks := .later }
def SupplyOneCardSaid : Prop := Claim7.holds Tryd.pinned (.plain (OpenSpec.ofChange supplyOneSpec)) supplyOneCard

/-- THE SECOND FORM's CARD OF 'nocturnlaw7.SupplyForms'. -/
def supplyFormsUptoCard : Claim7 := { stood := { row := supplyFormsUptoRow, standIns := [], harness := (true, "4b9f0fdd2c78a7dea60a350023a5e4b8eda247d34d76e27bd09c09542946f255"), looks := false }, kinds := [], alts := [], laidByText := true, laidKinds := [.data], laidTests := true, laidLooks := .later }
def SupplyFormsUptoCardSaid : Prop := Claim7.holds Tryd.pinned (.plain (OpenSpec.upto supplyFormsSpec)) supplyFormsUptoCard

/-- THE SECOND FORM's CARD OF 'nocturnlaw7.SupplyMore'. -/
def supplyMoreUptoCard : Claim7 := { stood := { row := supplyMoreUptoRow, standIns := [], harness := (true, "4b9f0fdd2c78a7dea60a350023a5e4b8eda247d34d76e27bd09c09542946f255"), looks := false }, kinds := [], alts := [], laidByText := true, laidKinds := [.data], laidTests := true, laidLooks := .later }
def SupplyMoreUptoCardSaid : Prop := Claim7.holds Tryd.pinned (.plain (OpenSpec.upto supplyMoreSpec)) supplyMoreUptoCard

/-- THE SECOND FORM's CARD OF 'nocturnlaw7.SupplyOne'. -/
def supplyOneUptoCard : Claim7 := { stood := { row := supplyOneUptoRow, standIns := [], harness := (true, "4b9f0fdd2c78a7dea60a350023a5e4b8eda247d34d76e27bd09c09542946f255"), looks := false }, kinds := [], alts := [], laidByText := true, laidKinds := [.data], laidTests := true, laidLooks := .later }
def SupplyOneUptoCardSaid : Prop := Claim7.holds Tryd.pinned (.plain (OpenSpec.upto supplyOneSpec)) supplyOneUptoCard
end Rows
end Go.Proofs.YtgocfgjdafkjlabDoor
