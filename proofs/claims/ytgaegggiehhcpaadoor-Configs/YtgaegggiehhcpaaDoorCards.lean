/-
  DERIVED. GIVEN WITH THE SEED: THE CARDS: each row of YtgaegggiehhcpaaDoorRows.lean that lists a variable, with what it lists TIED to the program's text (the seventh form; the later family's looks); each row that meets fmt, with fmt's text TOLD by the authors' own Lean function (tested against real Go, not proved from fmt's source: count such statements apart). THE CARD IS WHAT COUNTS. Prove the row's statement (the work); the ties are given (YtgaegggiehhcpaaDoorTie.lean); close each card by the builder's one call (the guide's Derived/Test/ToyasCard.lean, 'card_holds'). Laid BY PROGRAM, IN A SANDBOX (cutbox-door.mjs). By AI agents, Wed Nov 11 2026. No macro, syntax, notation, axiom, sorry.
-/
import Derived.Test.YtgaegggiehhcpaaDoorRows
import GoSem.ClaimSeven
namespace Go.Proofs.YtgaegggiehhcpaaDoor
namespace Rows

/-- THE TIED CARD OF 'nocturnlaw5.Configs'. -/
def configsCard : Claim7 := { stood := { row := configsRow, standIns := [], harness := (true, "d8a5627741041968a596671a4a13cf52e7ccfe66829000d5f4637fee5531d636"), looks := false }, kinds := [], alts := [], laidByText := true, laidKinds := [.data], laidTests := true, laidLooks := .later }
def ConfigsCardSaid : Prop := Claim7.holds Tryd.pinned (.plain (OpenSpec.ofChange configsSpec)) configsCard

/-- THE TIED CARD OF 'nocturnlaw5.ConfigBack'. -/
def configBackCard : Claim7 := { stood := { row := configBackRow, standIns := [], harness := (true, "d8a5627741041968a596671a4a13cf52e7ccfe66829000d5f4637fee5531d636"), looks := false }, kinds := [], alts := [], laidByText := true, laidKinds := [.data], laidTests := true, laidLooks := .later }
def ConfigBackCardSaid : Prop := Claim7.holds Tryd.pinned (.plain (OpenSpec.ofChange configBackSpec)) configBackCard

/-- THE TIED CARD OF 'nocturnlaw5.ConfigForms'. -/
def configFormsCard : Claim7 := { stood := { row := configFormsRow, standIns := [], harness := (true, "d8a5627741041968a596671a4a13cf52e7ccfe66829000d5f4637fee5531d636"), looks := false }, kinds := [], alts := [], laidByText := true, laidKinds := [.data], laidTests := true, laidLooks := .later }
def ConfigFormsCardSaid : Prop := Claim7.holds Tryd.pinned (.plain (OpenSpec.ofChange configFormsSpec)) configFormsCard

/-- THE TIED CARD OF 'nocturnlaw5.ConfigFirst'. -/
def configFirstCard : Claim7 := { stood := { row := configFirstRow, standIns := [], harness := (true, "d8a5627741041968a596671a4a13cf52e7ccfe66829000d5f4637fee5531d636"), looks := false }, kinds := [], alts := [], laidByText := true, laidKinds := [.data], laidTests := true, laidLooks := .later }
def ConfigFirstCardSaid : Prop := Claim7.holds Tryd.pinned (.plain (OpenSpec.ofChange configFirstSpec)) configFirstCard

/-- THE TIED CARD OF 'nocturnlaw5.ConfigWindows'. -/
def configWindowsCard : Claim7 := { stood := { row := configWindowsRow, standIns := [], harness := (true, "d8a5627741041968a596671a4a13cf52e7ccfe66829000d5f4637fee5531d636"), looks := false }, kinds := [], alts := [], laidByText := true, laidKinds := [.data], laidTests := true, laidLooks := .later }
def ConfigWindowsCardSaid : Prop := Claim7.holds Tryd.pinned (.plain (OpenSpec.ofChange configWindowsSpec)) configWindowsCard

/-- THE TIED CARD OF 'nocturnlaw5.ConfigLaid'. -/
def configLaidCard : Claim7 := { stood := { row := configLaidRow, standIns := [], harness := (true, "d8a5627741041968a596671a4a13cf52e7ccfe66829000d5f4637fee5531d636"), looks := false }, kinds := [], alts := [], laidByText := true, laidKinds := [.data], laidTests := true, laidLooks := .later }
def ConfigLaidCardSaid : Prop := Claim7.holds Tryd.pinned (.plain (OpenSpec.ofChange configLaidSpec)) configLaidCard

/-- THE SECOND FORM's CARD OF 'nocturnlaw5.Configs'. -/
def configsUptoCard : Claim7 := { stood := { row := configsUptoRow, standIns := [], harness := (true, "d8a5627741041968a596671a4a13cf52e7ccfe66829000d5f4637fee5531d636"), looks := false }, kinds := [], alts := [], laidByText := true, laidKinds := [.data], laidTests := true, laidLooks := .later }
def ConfigsUptoCardSaid : Prop := Claim7.holds Tryd.pinned (.plain (OpenSpec.upto configsSpec)) configsUptoCard

/-- THE SECOND FORM's CARD OF 'nocturnlaw5.ConfigBack'. -/
def configBackUptoCard : Claim7 := { stood := { row := configBackUptoRow, standIns := [], harness := (true, "d8a5627741041968a596671a4a13cf52e7ccfe66829000d5f4637fee5531d636"), looks := false }, kinds := [], alts := [], laidByText := true, laidKinds := [.data], laidTests := true, laidLooks := .later }
def ConfigBackUptoCardSaid : Prop := Claim7.holds Tryd.pinned (.plain (OpenSpec.upto configBackSpec)) configBackUptoCard

/-- THE SECOND FORM's CARD OF 'nocturnlaw5.ConfigForms'. -/
def configFormsUptoCard : Claim7 := { stood := { row := configFormsUptoRow, standIns := [], harness := (true, "d8a5627741041968a596671a4a13cf52e7ccfe66829000d5f4637fee5531d636"), looks := false }, kinds := [], alts := [], laidByText := true, laidKinds := [.data], laidTests := true, laidLooks := .later }
def ConfigFormsUptoCardSaid : Prop := Claim7.holds Tryd.pinned (.plain (OpenSpec.upto configFormsSpec)) configFormsUptoCard

/-- THE SECOND FORM's CARD OF 'nocturnlaw5.ConfigFirst'. -/
def configFirstUptoCard : Claim7 := { stood := { row := configFirstUptoRow, standIns := [], harness := (true, "d8a5627741041968a596671a4a13cf52e7ccfe66829000d5f4637fee5531d636"), looks := false }, kinds := [], alts := [], laidByText := true, laidKinds := [.data], laidTests := true, laidLooks := .later }
def ConfigFirstUptoCardSaid : Prop := Claim7.holds Tryd.pinned (.plain (OpenSpec.upto configFirstSpec)) configFirstUptoCard

/-- THE SECOND FORM's CARD OF 'nocturnlaw5.ConfigWindows'. -/
def configWindowsUptoCard : Claim7 := { stood := { row := configWindowsUptoRow, standIns := [], harness := (true, "d8a5627741041968a596671a4a13cf52e7ccfe66829000d5f4637fee5531d636"), looks := false }, kinds := [], alts := [], laidByText := true, laidKinds := [.data], laidTests := true, laidLooks := .later }
def ConfigWindowsUptoCardSaid : Prop := Claim7.holds Tryd.pinned (.plain (OpenSpec.upto configWindowsSpec)) configWindowsUptoCard

/-- THE SECOND FORM's CARD OF 'nocturnlaw5.ConfigLaid'. -/
def configLaidUptoCard : Claim7 := { stood := { row := configLaidUptoRow, standIns := [], harness := (true, "d8a5627741041968a596671a4a13cf52e7ccfe66829000d5f4637fee5531d636"), looks := false }, kinds := [], alts := [], laidByText := true, laidKinds := [.data], laidTests := true, laidLooks := .later }
def ConfigLaidUptoCardSaid : Prop := Claim7.holds Tryd.pinned (.plain (OpenSpec.upto configLaidSpec)) configLaidUptoCard
end Rows
end Go.Proofs.YtgaegggiehhcpaaDoor
