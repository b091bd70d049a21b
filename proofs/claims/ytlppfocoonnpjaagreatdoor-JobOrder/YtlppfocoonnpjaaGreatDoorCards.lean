/-
  DERIVED. GIVEN WITH THE SEED: THE CARDS: each row of YtlppfocoonnpjaaGreatDoorRows.lean that lists a variable, with what it lists TIED to the program's text (the seventh form; the later family's looks); each row that meets fmt, with fmt's text TOLD by the authors' own Lean function (tested against real Go, not proved from fmt's source: count such statements apart). THE CARD IS WHAT COUNTS. Prove the row's statement (the work); the ties are given (YtlppfocoonnpjaaGreatDoorTie.lean); close each card by the builder's one call (the guide's Derived/Test/ToyasCard.lean, 'card_holds'). Laid BY PROGRAM, IN A SANDBOX (cutbox-door.mjs). By AI agents, Wed Nov 11 2026. No macro, syntax, notation, axiom, sorry.
-/
import Derived.Test.YtlppfocoonnpjaaGreatDoorRows
import GoSem.ClaimSeven
namespace Go.Proofs.YtlppfocoonnpjaaGreatDoor
namespace Rows

/-- THE TIED CARD OF 'nocturnlaw14.JobActs'. -/
def jobActsCard : Claim7 := { stood := { row := jobActsRow, standIns := [], harness := (true, "cd80a089cd398013c01975305411e8199bd86d9ff3e5cb12d9efedbcf7ec12d3"), looks := false }, kinds := [], alts := [], laidByText := true, laidKinds := [.data], laidTests := true, laidLooks := .later }
def JobActsCardSaid : Prop := Claim7.holds Tryz.pinned (.plain (OpenSpec.ofChange jobActsSpec)) jobActsCard

/-- THE TIED CARD OF 'nocturnlaw14.JobTicks'. -/
def jobTicksCard : Claim7 := { stood := { row := jobTicksRow, standIns := [], harness := (true, "cd80a089cd398013c01975305411e8199bd86d9ff3e5cb12d9efedbcf7ec12d3"), looks := false }, kinds := [], alts := [], laidByText := true, laidKinds := [.data], laidTests := true, laidLooks := .later }
def JobTicksCardSaid : Prop := Claim7.holds Tryz.pinned (.plain (OpenSpec.ofChange jobTicksSpec)) jobTicksCard

/-- THE TIED CARD OF 'nocturnlaw14.JobKills'. -/
def jobKillsCard : Claim7 := { stood := { row := jobKillsRow, standIns := [], harness := (true, "cd80a089cd398013c01975305411e8199bd86d9ff3e5cb12d9efedbcf7ec12d3"), looks := false }, kinds := [], alts := [], laidByText := true, laidKinds := [.data], laidTests := true, laidLooks := .later }
def JobKillsCardSaid : Prop := Claim7.holds Tryz.pinned (.plain (OpenSpec.ofChange jobKillsSpec)) jobKillsCard

/-- THE TIED CARD OF 'nocturnlaw14.JobOrder'. -/
def jobOrderCard : Claim7 := { stood := { row := jobOrderRow, standIns := [], harness := (true, "cd80a089cd398013c01975305411e8199bd86d9ff3e5cb12d9efedbcf7ec12d3"), looks := false }, kinds := [], alts := [], laidByText := true, laidKinds := [.data], laidTests := true, laidLooks := .later }
def JobOrderCardSaid : Prop := Claim7.holds Tryz.pinned (.plain (OpenSpec.ofChange jobOrderSpec)) jobOrderCard

/-- THE TIED CARD OF 'nocturnlaw14.JobForms'. -/
def jobFormsCard : Claim7 := { stood := { row := jobFormsRow, standIns := [], harness := (true, "cd80a089cd398013c01975305411e8199bd86d9ff3e5cb12d9efedbcf7ec12d3"), looks := false }, kinds := [], alts := [], laidByText := true, laidKinds := [.data], laidTests := true, laidLooks := .later }
def JobFormsCardSaid : Prop := Claim7.holds Tryz.pinned (.plain (OpenSpec.ofChange jobFormsSpec)) jobFormsCard

/-- THE TIED CARD OF 'nocturnlaw14.JobMissed'. -/
def jobMissedCard : Claim7 := { stood := { row := jobMissedRow, standIns := [], harness := (true, "cd80a089cd398013c01975305411e8199bd86d9ff3e5cb12d9efedbcf7ec12d3"), looks := false }, kinds := [], alts := [], laidByText := true, laidKinds := [.data], laidTests := true, laidLooks := .later }
def JobMissedCardSaid : Prop := Claim7.holds Tryz.pinned (.plain (OpenSpec.ofChange jobMissedSpec)) jobMissedCard

/-- THE SECOND FORM's CARD OF 'nocturnlaw14.JobActs'. -/
def jobActsUptoCard : Claim7 := { stood := { row := jobActsUptoRow, standIns := [], harness := (true, "cd80a089cd398013c01975305411e8199bd86d9ff3e5cb12d9efedbcf7ec12d3"), looks := false }, kinds := [], alts := [], laidByText := true, laidKinds := [.data], laidTests := true, laidLooks := .later }
def JobActsUptoCardSaid : Prop := Claim7.holds Tryz.pinned (.plain (OpenSpec.upto jobActsSpec)) jobActsUptoCard

/-- THE SECOND FORM's CARD OF 'nocturnlaw14.JobTicks'. -/
def jobTicksUptoCard : Claim7 := { stood := { row := jobTicksUptoRow, standIns := [], harness := (true, "cd80a089cd398013c01975305411e8199bd86d9ff3e5cb12d9efedbcf7ec12d3"), looks := false }, kinds := [], alts := [], laidByText := true, laidKinds := [.data], laidTests := true, laidLooks := .later }
def JobTicksUptoCardSaid : Prop := Claim7.holds Tryz.pinned (.plain (OpenSpec.upto jobTicksSpec)) jobTicksUptoCard

/-- THE SECOND FORM's CARD OF 'nocturnlaw14.JobKills'. -/
def jobKillsUptoCard : Claim7 := { stood := { row := jobKillsUptoRow, standIns := [], harness := (true, "cd80a089cd398013c01975305411e8199bd86d9ff3e5cb12d9efedbcf7ec12d3"), looks := false }, kinds := [], alts := [], laidByText := true, laidKinds := [.data], laidTests := true, laidLooks := .later }
def JobKillsUptoCardSaid : Prop := Claim7.holds Tryz.pinned (.plain (OpenSpec.upto jobKillsSpec)) jobKillsUptoCard

/-- THE SECOND FORM's CARD OF 'nocturnlaw14.JobOrder'. -/
def jobOrderUptoCard : Claim7 := { stood := { row := jobOrderUptoRow, standIns := [], harness := (true, "cd80a089cd398013c01975305411e8199bd86d9ff3e5cb12d9efedbcf7ec12d3"), looks := false }, kinds := [], alts := [], laidByText := true, laidKinds := [.data], laidTests := true, laidLooks := .later }
def JobOrderUptoCardSaid : Prop := Claim7.holds Tryz.pinned (.plain (OpenSpec.upto jobOrderSpec)) jobOrderUptoCard

/-- THE SECOND FORM's CARD OF 'nocturnlaw14.JobForms'. -/
def jobFormsUptoCard : Claim7 := { stood := { row := jobFormsUptoRow, standIns := [], harness := (true, "cd80a089cd398013c01975305411e8199bd86d9ff3e5cb12d9efedbcf7ec12d3"), looks := false }, kinds := [], alts := [], laidByText := true, laidKinds := [.data], laidTests := true, laidLooks := .later }
def JobFormsUptoCardSaid : Prop := Claim7.holds Tryz.pinned (.plain (OpenSpec.upto jobFormsSpec)) jobFormsUptoCard

/-- THE SECOND FORM's CARD OF 'nocturnlaw14.JobMissed'. -/
def jobMissedUptoCard : Claim7 := { stood := { row := jobMissedUptoRow, standIns := [], harness := (true, "cd80a089cd398013c01975305411e8199bd86d9ff3e5cb12d9efedbcf7ec12d3"), looks := false }, kinds := [], alts := [], laidByText := true, laidKinds := [.data], laidTests := true, laidLooks := .later }
def JobMissedUptoCardSaid : Prop := Claim7.holds Tryz.pinned (.plain (OpenSpec.upto jobMissedSpec)) jobMissedUptoCard
end Rows
end Go.Proofs.YtlppfocoonnpjaaGreatDoor
