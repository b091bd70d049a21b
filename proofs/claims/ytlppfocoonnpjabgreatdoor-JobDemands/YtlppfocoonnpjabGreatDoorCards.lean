/-
  DERIVED. GIVEN WITH THE SEED: THE CARDS: each row of YtlppfocoonnpjabGreatDoorRows.lean that lists a variable, with what it lists TIED to the program's text (the seventh form; the later family's looks); each row that meets fmt, with fmt's text TOLD by the authors' own Lean function (tested against real Go, not proved from fmt's source: count such statements apart). THE CARD IS WHAT COUNTS. Prove the row's statement (the work); the ties are given (YtlppfocoonnpjabGreatDoorTie.lean); close each card by the builder's one call (the guide's Derived/Test/ToyasCard.lean, 'card_holds'). Laid BY PROGRAM, IN A SANDBOX (cutbox-door.mjs). By AI agents, Wed Nov 11 2026. No macro, syntax, notation, axiom, sorry.
-/
import Derived.Test.YtlppfocoonnpjabGreatDoorRows
import GoSem.ClaimSeven
namespace Go.Proofs.YtlppfocoonnpjabGreatDoor
namespace Rows

/-- THE TIED CARD OF 'nocturnlaw14.JobDemands'. -/
def jobDemandsCard : Claim7 := { stood := { row := jobDemandsRow, standIns := [], harness := (true, "1acfb2592eaa7ac8514165907726df70106d6e7c792febadbfb4d758fe39e432"), looks := false }, kinds := [], alts := [], laidByText := true, laidKinds := [.data], laidTests := true, laidLooks := .later }
def JobDemandsCardSaid : Prop := Claim7.holds Tryz.pinned (.plain (OpenSpec.ofChange jobDemandsSpec)) jobDemandsCard

/-- THE SECOND FORM's CARD OF 'nocturnlaw14.JobDemands'. -/
def jobDemandsUptoCard : Claim7 := { stood := { row := jobDemandsUptoRow, standIns := [], harness := (true, "1acfb2592eaa7ac8514165907726df70106d6e7c792febadbfb4d758fe39e432"), looks := false }, kinds := [], alts := [], laidByText := true, laidKinds := [.data], laidTests := true, laidLooks := .later }
def JobDemandsUptoCardSaid : Prop := Claim7.holds Tryz.pinned (.plain (OpenSpec.upto jobDemandsSpec)) jobDemandsUptoCard
end Rows
end Go.Proofs.YtlppfocoonnpjabGreatDoor
