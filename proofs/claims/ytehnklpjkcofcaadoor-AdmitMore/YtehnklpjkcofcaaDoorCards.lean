/-
  DERIVED. GIVEN WITH THE SEED: THE CARDS: each row of YtehnklpjkcofcaaDoorRows.lean that lists a variable, with what it lists TIED to the program's text (the seventh form; the later family's looks); each row that meets fmt, with fmt's text TOLD by the authors' own Lean function (tested against real Go, not proved from fmt's source: count such statements apart). THE CARD IS WHAT COUNTS. Prove the row's statement (the work); the ties are given (YtehnklpjkcofcaaDoorTie.lean); close each card by the builder's one call (the guide's Derived/Test/ToyasCard.lean, 'card_holds'). Laid BY PROGRAM, IN A SANDBOX (cutbox-door.mjs). By AI agents, Wed Nov 11 2026. No macro, syntax, notation, axiom, sorry.
-/
import Derived.Test.YtehnklpjkcofcaaDoorRows
import GoSem.ClaimSeven
namespace Go.Proofs.YtehnklpjkcofcaaDoor
namespace Rows

/-- THE TIED CARD OF 'nocturnlaw9.Admits'. -/
def admitsCard : Claim7 := { stood := { row := admitsRow, standIns := [], harness := (true, "d57b6a995c7ae9fb5db1342b9726b1987c86b790933829aac4d679dd87367f81"), looks := false }, kinds := [], alts := [], laidByText := true, laidKinds := [.data], laidTests := true, laidLooks := .later }
def AdmitsCardSaid : Prop := Claim7.holds Tryd.pinned (.plain (OpenSpec.ofChange admitsSpec)) admitsCard

/-- THE TIED CARD OF 'nocturnlaw9.AdmitLeast'. -/
def admitLeastCard : Claim7 := { stood := { row := admitLeastRow, standIns := [], harness := (true, "d57b6a995c7ae9fb5db1342b9726b1987c86b790933829aac4d679dd87367f81"), looks := false }, kinds := [], alts := [], laidByText := true, laidKinds := [.data], laidTests := true, laidLooks := .later }
def AdmitLeastCardSaid : Prop := Claim7.holds Tryd.pinned (.plain (OpenSpec.ofChange admitLeastSpec)) admitLeastCard

/-- THE TIED CARD OF 'nocturnlaw9.AdmitAlone'. -/
def admitAloneCard : Claim7 := { stood := { row := admitAloneRow, standIns := [], harness := (true, "d57b6a995c7ae9fb5db1342b9726b1987c86b790933829aac4d679dd87367f81"), looks := false }, kinds := [], alts := [], laidByText := true, laidKinds := [.data], laidTests := true, laidLooks := .later }
def AdmitAloneCardSaid : Prop := Claim7.holds Tryd.pinned (.plain (OpenSpec.ofChange admitAloneSpec)) admitAloneCard

/-- THE TIED CARD OF 'nocturnlaw9.AdmitMore'. -/
def admitMoreCard : Claim7 := { stood := { row := admitMoreRow, standIns := [], harness := (true, "d57b6a995c7ae9fb5db1342b9726b1987c86b790933829aac4d679dd87367f81"), looks := false }, kinds := [], alts := [], laidByText := true, laidKinds := [.data], laidTests := true, laidLooks := .later }
def AdmitMoreCardSaid : Prop := Claim7.holds Tryd.pinned (.plain (OpenSpec.ofChange admitMoreSpec)) admitMoreCard

/-- THE TIED CARD OF 'nocturnlaw9.AdmitForms'. -/
def admitFormsCard : Claim7 := { stood := { row := admitFormsRow, standIns := [], harness := (true, "d57b6a995c7ae9fb5db1342b9726b1987c86b790933829aac4d679dd87367f81"), looks := false }, kinds := [], alts := [], laidByText := true, laidKinds := [.data], laidTests := true, laidLooks := .later }
def AdmitFormsCardSaid : Prop := Claim7.holds Tryd.pinned (.plain (OpenSpec.ofChange admitFormsSpec)) admitFormsCard

/-- THE TIED CARD OF 'nocturnlaw9.AdmitHigh'. -/
def admitHighCard : Claim7 := { stood := { row := admitHighRow, standIns := [], harness := (true, "d57b6a995c7ae9fb5db1342b9726b1987c86b790933829aac4d679dd87367f81"), looks := false }, kinds := [], alts := [], laidByText := true, laidKinds := [.data], laidTests := true, laidLooks := .later }
def AdmitHighCardSaid : Prop := Claim7.holds Tryd.pinned (.plain (OpenSpec.ofChange admitHighSpec)) admitHighCard

/-- THE SECOND FORM's CARD OF 'nocturnlaw9.Admits'. -/
def admitsUptoCard : Claim7 := { stood := { row := admitsUptoRow, standIns := [], harness := (true, "d57b6a995c7ae9fb5db1342b9726b1987c86b790933829aac4d679dd87367f81"), looks := false }, kinds := [], alts := [], laidByText := true, laidKinds := [.data], laidTests := true, laidLooks := .later }
def AdmitsUptoCardSaid : Prop := Claim7.holds Tryd.pinned (.plain (OpenSpec.upto admitsSpec)) admitsUptoCard

/-- THE SECOND FORM's CARD OF 'nocturnlaw9.AdmitLeast'. -/
def admitLeastUptoCard : Claim7 := { stood := { row := admitLeastUptoRow, standIns := [], harness := (true, "d57b6a995c7ae9fb5db1342b9726b1987c86b790933829aac4d679dd87367f81"), looks := false }, kinds := [], alts := [], laidByText := true, laidKinds := [.data], laidTests := true, laidLooks := .later }
def AdmitLeastUptoCardSaid : Prop := Claim7.holds Tryd.pinned (.plain (OpenSpec.upto admitLeastSpec)) admitLeastUptoCard

/-- THE SECOND FORM's CARD OF 'nocturnlaw9.AdmitAlone'. -/
def admitAloneUptoCard : Claim7 := { stood := { row := admitAloneUptoRow, standIns := [], harness := (true, "d57b6a995c7ae9fb5db1342b9726b1987c86b790933829aac4d679dd87367f81"), looks := false }, kinds := [], alts := [], laidByText := true, laidKinds := [.data], laidTests := true, laidLooks := .later }
def AdmitAloneUptoCardSaid : Prop := Claim7.holds Tryd.pinned (.plain (OpenSpec.upto admitAloneSpec)) admitAloneUptoCard

/-- THE SECOND FORM's CARD OF 'nocturnlaw9.AdmitMore'. -/
def admitMoreUptoCard : Claim7 := { stood := { row := admitMoreUptoRow, standIns := [], harness := (true, "d57b6a995c7ae9fb5db1342b9726b1987c86b790933829aac4d679dd87367f81"), looks := false }, kinds := [], alts := [], laidByText := true, laidKinds := [.data], laidTests := true, laidLooks := .later }
def AdmitMoreUptoCardSaid : Prop := Claim7.holds Tryd.pinned (.plain (OpenSpec.upto admitMoreSpec)) admitMoreUptoCard

/-- THE SECOND FORM's CARD OF 'nocturnlaw9.AdmitForms'. -/
def admitFormsUptoCard : Claim7 := { stood := { row := admitFormsUptoRow, standIns := [], harness := (true, "d57b6a995c7ae9fb5db1342b9726b1987c86b790933829aac4d679dd87367f81"), looks := false }, kinds := [], alts := [], laidByText := true, laidKinds := [.data], laidTests := true, laidLooks := .later }
def AdmitFormsUptoCardSaid : Prop := Claim7.holds Tryd.pinned (.plain (OpenSpec.upto admitFormsSpec)) admitFormsUptoCard

/-- THE SECOND FORM's CARD OF 'nocturnlaw9.AdmitHigh'. -/
def admitHighUptoCard : Claim7 := { stood := { row := admitHighUptoRow, standIns := [], harness := (true, "d57b6a995c7ae9fb5db1342b9726b1987c86b790933829aac4d679dd87367f81"), looks := false }, kinds := [], alts := [], laidByText := true, laidKinds := [.data], laidTests := true, laidLooks := .later }
def AdmitHighUptoCardSaid : Prop := Claim7.holds Tryd.pinned (.plain (OpenSpec.upto admitHighSpec)) admitHighUptoCard
end Rows
end Go.Proofs.YtehnklpjkcofcaaDoor
