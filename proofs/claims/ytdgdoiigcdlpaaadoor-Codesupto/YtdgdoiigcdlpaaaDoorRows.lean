/-
  NARROWER THAN 'FOR EVERY INPUT', by the rows' own cells (each row's printed sentence says how): Codes: laid · CodeBack: laid · CodeForms: laid · CodeParts: laid.
  DERIVED. THE GIVEN ROWS OF THIS SEAT. 4 by the template 'for every input the law returns true; each argument reads behind the call as it read before'; 0 by the template 'total and deterministic' (their statements: YtdgdoiigcdlpaaaDoorTotals.lean).
  GIVEN WITH THE SEED: the statements are not yours to turn. If you find one false, say at which input.
  Laid BY PROGRAM, IN A SANDBOX (cutbox-rows.mjs): the forced cells as the released guide's own fill.sh prints them over the translation 9486e708298e5409… (all of the seat's roots in one cut). By AI agents, Wed Nov 11 2026. No macro, syntax, notation, axiom, sorry.
-/
import Derived.Test.YtdgdoiigcdlpaaaDoorChecked
import GoSem.Claim
import GoSem.ClaimJoined
import GoSem.ClaimMapViews
import Derived.JoinedTies
import Derived.KernelRfl
namespace Go.Proofs.YtdgdoiigcdlpaaaDoor
/- THE CELL 'sum', in the pinned program and in every row, IS THE sha256 OF THE DUMP (.gsa) THAT YtdgdoiigcdlpaaaDoorProg.lean LOADS. Nothing in Lean hashes anything: it is a label: what it is worth is what the hold of that sum in a sandbox is worth. -/
noncomputable def Tryd.pinned : Pinned := { name := "ytdgdoiigcdlpaaadoor", sum := "9486e708298e5409ab89bcb721d4d78d0bc8483e8bffaf92d52e7c6eb64a6983", checked := Tryd.checked }
namespace Rows
def none {H : Type} : Left H := { results := [], args := [] }

/- WHAT THE LISTED PACKAGE-LEVEL VARIABLES READ AS WHEN THE CALL BEGINS. Each datum BY PROGRAM (the guide's laid-datum.mjs) off the statement by which the dump's own 'gosem.cut.vars' lays the variable. In a bare row this is a premise. The card (YtdgdoiigcdlpaaaDoorCards.lean) ties it to the program's text. -/
def laid_nocturn_code_operations {H : Type} : DataW H := .agg [.agg [.lit (.string [110, 111, 112]), .lit (.int .i64 1)], .agg [.lit (.string [99, 111, 110, 115, 116]), .lit (.int .i64 256)], .agg [.lit (.string [108, 111, 97, 100]), .lit (.int .i64 16)], .agg [.lit (.string [115, 116, 111, 114, 101]), .lit (.int .i64 16)], .agg [.lit (.string [97, 100, 100]), .lit (.int .i64 16)], .agg [.lit (.string [115, 117, 98]), .lit (.int .i64 16)], .agg [.lit (.string [106, 117, 109, 112]), .lit (.int .i64 (-1))], .agg [.lit (.string [122, 101, 114, 111]), .lit (.int .i64 (-1))], .agg [.lit (.string [105, 110]), .lit (.int .i64 1)], .agg [.lit (.string [111, 117, 116]), .lit (.int .i64 8)], .agg [.lit (.string [103, 101, 116]), .lit (.int .i64 8)], .agg [.lit (.string [104, 97, 108, 116]), .lit (.int .i64 1)]]

/-- 'nocturnlaw4.Codes': WHATEVER THE INPUT: true; the input reads as it did. -/
def codesSpec : ChangeSpec := { name := "codes", fn := fun _ => fun
  | [d1, d2] => { results := [.lit (.bool true)], args := [d1, d2] }
  | _ => none }
def codesRow : OpenClaim := { program := "ytdgdoiigcdlpaaadoor", sum := "9486e708298e5409ab89bcb721d4d78d0bc8483e8bffaf92d52e7c6eb64a6983", func := "nocturn/nocturnlaw4.Codes", spec := "codes", unfollowed := true, recurses := true, named := ["nocturn/code.operations"], apart := false, laid := [("nocturn/code.operations", laid_nocturn_code_operations)] }
def CodesSaid : Prop := codesRow.holds Tryd.pinned (OpenSpec.ofChange codesSpec)

/-- ITS FALSE NEIGHBOUR: 'it returns false'. Refute it at one input. -/
def codesWrong : ChangeSpec := { name := "codes", fn := fun _ => fun
  | [d1, d2] => { results := [.lit (.bool false)], args := [d1, d2] }
  | _ => none }
def CodesWrongFalsely : Prop := codesRow.holds Tryd.pinned (OpenSpec.ofChange codesWrong)

/-- 'nocturnlaw4.CodeBack': WHATEVER THE INPUT: true; the input reads as it did. -/
def codeBackSpec : ChangeSpec := { name := "codeBack", fn := fun _ => fun
  | [d1, d2] => { results := [.lit (.bool true)], args := [d1, d2] }
  | _ => none }
def codeBackRow : OpenClaim := { program := "ytdgdoiigcdlpaaadoor", sum := "9486e708298e5409ab89bcb721d4d78d0bc8483e8bffaf92d52e7c6eb64a6983", func := "nocturn/nocturnlaw4.CodeBack", spec := "codeBack", unfollowed := true, recurses := true, named := ["nocturn/code.operations"], apart := false, laid := [("nocturn/code.operations", laid_nocturn_code_operations)] }
def CodeBackSaid : Prop := codeBackRow.holds Tryd.pinned (OpenSpec.ofChange codeBackSpec)

/-- ITS FALSE NEIGHBOUR: 'it returns false'. Refute it at one input. -/
def codeBackWrong : ChangeSpec := { name := "codeBack", fn := fun _ => fun
  | [d1, d2] => { results := [.lit (.bool false)], args := [d1, d2] }
  | _ => none }
def CodeBackWrongFalsely : Prop := codeBackRow.holds Tryd.pinned (OpenSpec.ofChange codeBackWrong)

/-- 'nocturnlaw4.CodeForms': WHATEVER THE INPUT: true; the input reads as it did. -/
def codeFormsSpec : ChangeSpec := { name := "codeForms", fn := fun _ => fun
  | [d1, d2] => { results := [.lit (.bool true)], args := [d1, d2] }
  | _ => none }
def codeFormsRow : OpenClaim := { program := "ytdgdoiigcdlpaaadoor", sum := "9486e708298e5409ab89bcb721d4d78d0bc8483e8bffaf92d52e7c6eb64a6983", func := "nocturn/nocturnlaw4.CodeForms", spec := "codeForms", unfollowed := true, recurses := true, named := ["nocturn/code.operations"], apart := false, laid := [("nocturn/code.operations", laid_nocturn_code_operations)] }
def CodeFormsSaid : Prop := codeFormsRow.holds Tryd.pinned (OpenSpec.ofChange codeFormsSpec)

/-- ITS FALSE NEIGHBOUR: 'it returns false'. Refute it at one input. -/
def codeFormsWrong : ChangeSpec := { name := "codeForms", fn := fun _ => fun
  | [d1, d2] => { results := [.lit (.bool false)], args := [d1, d2] }
  | _ => none }
def CodeFormsWrongFalsely : Prop := codeFormsRow.holds Tryd.pinned (OpenSpec.ofChange codeFormsWrong)

/-- 'nocturnlaw4.CodeParts': WHATEVER THE INPUT: true; the input reads as it did. -/
def codePartsSpec : ChangeSpec := { name := "codeParts", fn := fun _ => fun
  | [d1, d2] => { results := [.lit (.bool true)], args := [d1, d2] }
  | _ => none }
def codePartsRow : OpenClaim := { program := "ytdgdoiigcdlpaaadoor", sum := "9486e708298e5409ab89bcb721d4d78d0bc8483e8bffaf92d52e7c6eb64a6983", func := "nocturn/nocturnlaw4.CodeParts", spec := "codeParts", unfollowed := true, recurses := true, named := ["nocturn/code.operations"], apart := false, laid := [("nocturn/code.operations", laid_nocturn_code_operations)] }
def CodePartsSaid : Prop := codePartsRow.holds Tryd.pinned (OpenSpec.ofChange codePartsSpec)

/-- ITS FALSE NEIGHBOUR: 'it returns false'. Refute it at one input. -/
def codePartsWrong : ChangeSpec := { name := "codeParts", fn := fun _ => fun
  | [d1, d2] => { results := [.lit (.bool false)], args := [d1, d2] }
  | _ => none }
def CodePartsWrongFalsely : Prop := codePartsRow.holds Tryd.pinned (OpenSpec.ofChange codePartsWrong)

/- THE SECOND FORM. 'bulk': how many values and letters a reading holds, each counted each time it is reached (what is shared counts as often as it is met; a slice's spare places count too). A statement '..UptoSaid' is the law's where the arguments, and the package variables that the reading takes, are together of bulk at most 1048576: NARROWER than '..Said'. Prove '..Said' where nothing that the law and all that it calls make is longer than what came in: it says more and counts as full. Else prove '..UptoSaid'. A law counts once. -/
mutual
def uptoBulk {H : Type} : DataW H → Nat
  | .lit (.string bytes) => bytes.length + 1
  | .lit _ => 1
  | .nil => 1
  | .ptr d => uptoBulk d + 1
  | .slice elems spare => uptoBulkAll elems + uptoBulkAll spare + 1
  | .agg parts => uptoBulkAll parts + 1
  | .iface _ d => uptoBulk d + 1
  | .map entries => uptoBulkEntries entries + 1
  | .held _ => 1
def uptoBulkAll {H : Type} : List (DataW H) → Nat
  | [] => 0
  | d :: r => uptoBulk d + uptoBulkAll r
def uptoBulkEntries {H : Type} : List (Lit × DataW H) → Nat
  | [] => 0
  | x :: r => uptoBulkEntry x + uptoBulkEntries r
def uptoBulkEntry {H : Type} : Lit × DataW H → Nat
  | (.string bytes, d) => bytes.length + uptoBulk d + 1
  | (_, d) => uptoBulk d + 1
 end
def uptoSmall : (H : Type) → List (DataW H) → Bool := fun _ ds => decide (uptoBulkAll ds ≤ 1048576)
def OpenSpec.upto (s : _root_.Go.ChangeSpec) : _root_.Go.OpenSpec := { _root_.Go.OpenSpec.ofChange s with cond := some uptoSmall }

/-- 'nocturnlaw4.Codes', WHERE WHAT IT READS IS OF BULK AT MOST 1048576: true; the input reads as it did. -/
def codesUptoRow : OpenClaim := { program := "ytdgdoiigcdlpaaadoor", sum := "9486e708298e5409ab89bcb721d4d78d0bc8483e8bffaf92d52e7c6eb64a6983", func := "nocturn/nocturnlaw4.Codes", spec := "codes", unfollowed := true, recurses := true, named := ["nocturn/code.operations"], apart := false, laid := [("nocturn/code.operations", laid_nocturn_code_operations)], narrowed := true }
def CodesUptoSaid : Prop := codesUptoRow.holds Tryd.pinned (OpenSpec.upto codesSpec)

/-- 'nocturnlaw4.CodeBack', WHERE WHAT IT READS IS OF BULK AT MOST 1048576: true; the input reads as it did. -/
def codeBackUptoRow : OpenClaim := { program := "ytdgdoiigcdlpaaadoor", sum := "9486e708298e5409ab89bcb721d4d78d0bc8483e8bffaf92d52e7c6eb64a6983", func := "nocturn/nocturnlaw4.CodeBack", spec := "codeBack", unfollowed := true, recurses := true, named := ["nocturn/code.operations"], apart := false, laid := [("nocturn/code.operations", laid_nocturn_code_operations)], narrowed := true }
def CodeBackUptoSaid : Prop := codeBackUptoRow.holds Tryd.pinned (OpenSpec.upto codeBackSpec)

/-- 'nocturnlaw4.CodeForms', WHERE WHAT IT READS IS OF BULK AT MOST 1048576: true; the input reads as it did. -/
def codeFormsUptoRow : OpenClaim := { program := "ytdgdoiigcdlpaaadoor", sum := "9486e708298e5409ab89bcb721d4d78d0bc8483e8bffaf92d52e7c6eb64a6983", func := "nocturn/nocturnlaw4.CodeForms", spec := "codeForms", unfollowed := true, recurses := true, named := ["nocturn/code.operations"], apart := false, laid := [("nocturn/code.operations", laid_nocturn_code_operations)], narrowed := true }
def CodeFormsUptoSaid : Prop := codeFormsUptoRow.holds Tryd.pinned (OpenSpec.upto codeFormsSpec)

/-- 'nocturnlaw4.CodeParts', WHERE WHAT IT READS IS OF BULK AT MOST 1048576: true; the input reads as it did. -/
def codePartsUptoRow : OpenClaim := { program := "ytdgdoiigcdlpaaadoor", sum := "9486e708298e5409ab89bcb721d4d78d0bc8483e8bffaf92d52e7c6eb64a6983", func := "nocturn/nocturnlaw4.CodeParts", spec := "codeParts", unfollowed := true, recurses := true, named := ["nocturn/code.operations"], apart := false, laid := [("nocturn/code.operations", laid_nocturn_code_operations)], narrowed := true }
def CodePartsUptoSaid : Prop := codePartsUptoRow.holds Tryd.pinned (OpenSpec.upto codePartsSpec)

end Rows
end Go.Proofs.YtdgdoiigcdlpaaaDoor
