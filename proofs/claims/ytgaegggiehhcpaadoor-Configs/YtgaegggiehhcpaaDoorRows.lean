/-
  NARROWER THAN 'FOR EVERY INPUT', by the rows' own cells (each row's printed sentence says how): Configs: laid · ConfigBack: laid · ConfigForms: laid · ConfigFirst: laid · ConfigWindows: laid · ConfigLaid: laid.
  DERIVED. THE GIVEN ROWS OF THIS SEAT. 6 by the template 'for every input the law returns true; each argument reads behind the call as it read before'; 0 by the template 'total and deterministic' (their statements: YtgaegggiehhcpaaDoorTotals.lean).
  GIVEN WITH THE SEED: the statements are not yours to turn. If you find one false, say at which input.
  Laid BY PROGRAM, IN A SANDBOX (cutbox-rows.mjs): the forced cells as the released guide's own fill.sh prints them over the translation 0bdae90c30c6fd1e… (all of the seat's roots in one cut). By AI agents, Wed Nov 11 2026. No macro, syntax, notation, axiom, sorry.
-/
import Derived.Test.YtgaegggiehhcpaaDoorChecked
import GoSem.Claim
import GoSem.ClaimJoined
import GoSem.ClaimMapViews
import Derived.JoinedTies
import Derived.KernelRfl
namespace Go.Proofs.YtgaegggiehhcpaaDoor
/- THE CELL 'sum', in the pinned program and in every row, IS THE sha256 OF THE DUMP (.gsa) THAT YtgaegggiehhcpaaDoorProg.lean LOADS. Nothing in Lean hashes anything: it is a label: what it is worth is what the hold of that sum in a sandbox is worth. -/
noncomputable def Tryd.pinned : Pinned := { name := "ytgaegggiehhcpaadoor", sum := "0bdae90c30c6fd1e3f563916508cca3c7f285ed27c209b2da83273b3f9f2ff45", checked := Tryd.checked }
namespace Rows
def none {H : Type} : Left H := { results := [], args := [] }

/- WHAT THE LISTED PACKAGE-LEVEL VARIABLES READ AS WHEN THE CALL BEGINS. Each datum BY PROGRAM (the guide's laid-datum.mjs) off the statement by which the dump's own 'gosem.cut.vars' lays the variable. In a bare row this is a premise. The card (YtgaegggiehhcpaaDoorCards.lean) ties it to the program's text. -/
def laid_nocturn_code_operations {H : Type} : DataW H := .agg [.agg [.lit (.string [110, 111, 112]), .lit (.int .i64 1)], .agg [.lit (.string [99, 111, 110, 115, 116]), .lit (.int .i64 256)], .agg [.lit (.string [108, 111, 97, 100]), .lit (.int .i64 16)], .agg [.lit (.string [115, 116, 111, 114, 101]), .lit (.int .i64 16)], .agg [.lit (.string [97, 100, 100]), .lit (.int .i64 16)], .agg [.lit (.string [115, 117, 98]), .lit (.int .i64 16)], .agg [.lit (.string [106, 117, 109, 112]), .lit (.int .i64 (-1))], .agg [.lit (.string [122, 101, 114, 111]), .lit (.int .i64 (-1))], .agg [.lit (.string [105, 110]), .lit (.int .i64 1)], .agg [.lit (.string [111, 117, 116]), .lit (.int .i64 8)], .agg [.lit (.string [103, 101, 116]), .lit (.int .i64 8)], .agg [.lit (.string [104, 97, 108, 116]), .lit (.int .i64 1)]]

/-- 'nocturnlaw5.Configs': WHATEVER THE INPUT: true; the input reads as it did. -/
def configsSpec : ChangeSpec := { name := "configs", fn := fun _ => fun
  | [d1, d2] => { results := [.lit (.bool true)], args := [d1, d2] }
  | _ => none }
def configsRow : OpenClaim := { program := "ytgaegggiehhcpaadoor", sum := "0bdae90c30c6fd1e3f563916508cca3c7f285ed27c209b2da83273b3f9f2ff45", func := "nocturn/nocturnlaw5.Configs", spec := "configs", unfollowed := true, recurses := true, named := ["nocturn/code.operations"], apart := false, laid := [("nocturn/code.operations", laid_nocturn_code_operations)] }
def ConfigsSaid : Prop := configsRow.holds Tryd.pinned (OpenSpec.ofChange configsSpec)

/-- ITS FALSE NEIGHBOUR: 'it returns false'. Refute it at one input. -/
def configsWrong : ChangeSpec := { name := "configs", fn := fun _ => fun
  | [d1, d2] => { results := [.lit (.bool false)], args := [d1, d2] }
  | _ => none }
def ConfigsWrongFalsely : Prop := configsRow.holds Tryd.pinned (OpenSpec.ofChange configsWrong)

/-- 'nocturnlaw5.ConfigBack': WHATEVER THE INPUT: true; the input reads as it did. -/
def configBackSpec : ChangeSpec := { name := "configBack", fn := fun _ => fun
  | [d1, d2, d3] => { results := [.lit (.bool true)], args := [d1, d2, d3] }
  | _ => none }
def configBackRow : OpenClaim := { program := "ytgaegggiehhcpaadoor", sum := "0bdae90c30c6fd1e3f563916508cca3c7f285ed27c209b2da83273b3f9f2ff45", func := "nocturn/nocturnlaw5.ConfigBack", spec := "configBack", unfollowed := true, recurses := true, named := ["nocturn/code.operations"], apart := false, laid := [("nocturn/code.operations", laid_nocturn_code_operations)] }
def ConfigBackSaid : Prop := configBackRow.holds Tryd.pinned (OpenSpec.ofChange configBackSpec)

/-- ITS FALSE NEIGHBOUR: 'it returns false'. Refute it at one input. -/
def configBackWrong : ChangeSpec := { name := "configBack", fn := fun _ => fun
  | [d1, d2, d3] => { results := [.lit (.bool false)], args := [d1, d2, d3] }
  | _ => none }
def ConfigBackWrongFalsely : Prop := configBackRow.holds Tryd.pinned (OpenSpec.ofChange configBackWrong)

/-- 'nocturnlaw5.ConfigForms': WHATEVER THE INPUT: true; the input reads as it did. -/
def configFormsSpec : ChangeSpec := { name := "configForms", fn := fun _ => fun
  | [d1, d2] => { results := [.lit (.bool true)], args := [d1, d2] }
  | _ => none }
def configFormsRow : OpenClaim := { program := "ytgaegggiehhcpaadoor", sum := "0bdae90c30c6fd1e3f563916508cca3c7f285ed27c209b2da83273b3f9f2ff45", func := "nocturn/nocturnlaw5.ConfigForms", spec := "configForms", unfollowed := true, recurses := true, named := ["nocturn/code.operations"], apart := false, laid := [("nocturn/code.operations", laid_nocturn_code_operations)] }
def ConfigFormsSaid : Prop := configFormsRow.holds Tryd.pinned (OpenSpec.ofChange configFormsSpec)

/-- ITS FALSE NEIGHBOUR: 'it returns false'. Refute it at one input. -/
def configFormsWrong : ChangeSpec := { name := "configForms", fn := fun _ => fun
  | [d1, d2] => { results := [.lit (.bool false)], args := [d1, d2] }
  | _ => none }
def ConfigFormsWrongFalsely : Prop := configFormsRow.holds Tryd.pinned (OpenSpec.ofChange configFormsWrong)

/-- 'nocturnlaw5.ConfigFirst': WHATEVER THE INPUT: true; the input reads as it did. -/
def configFirstSpec : ChangeSpec := { name := "configFirst", fn := fun _ => fun
  | [d] => { results := [.lit (.bool true)], args := [d] }
  | _ => none }
def configFirstRow : OpenClaim := { program := "ytgaegggiehhcpaadoor", sum := "0bdae90c30c6fd1e3f563916508cca3c7f285ed27c209b2da83273b3f9f2ff45", func := "nocturn/nocturnlaw5.ConfigFirst", spec := "configFirst", unfollowed := true, recurses := true, named := ["nocturn/code.operations"], apart := false, laid := [("nocturn/code.operations", laid_nocturn_code_operations)] }
def ConfigFirstSaid : Prop := configFirstRow.holds Tryd.pinned (OpenSpec.ofChange configFirstSpec)

/-- ITS FALSE NEIGHBOUR: 'it returns false'. Refute it at one input. -/
def configFirstWrong : ChangeSpec := { name := "configFirst", fn := fun _ => fun
  | [d] => { results := [.lit (.bool false)], args := [d] }
  | _ => none }
def ConfigFirstWrongFalsely : Prop := configFirstRow.holds Tryd.pinned (OpenSpec.ofChange configFirstWrong)

/-- 'nocturnlaw5.ConfigWindows': WHATEVER THE INPUT: true; the input reads as it did. -/
def configWindowsSpec : ChangeSpec := { name := "configWindows", fn := fun _ => fun
  | [d1, d2] => { results := [.lit (.bool true)], args := [d1, d2] }
  | _ => none }
def configWindowsRow : OpenClaim := { program := "ytgaegggiehhcpaadoor", sum := "0bdae90c30c6fd1e3f563916508cca3c7f285ed27c209b2da83273b3f9f2ff45", func := "nocturn/nocturnlaw5.ConfigWindows", spec := "configWindows", unfollowed := true, recurses := true, named := ["nocturn/code.operations"], apart := false, laid := [("nocturn/code.operations", laid_nocturn_code_operations)] }
def ConfigWindowsSaid : Prop := configWindowsRow.holds Tryd.pinned (OpenSpec.ofChange configWindowsSpec)

/-- ITS FALSE NEIGHBOUR: 'it returns false'. Refute it at one input. -/
def configWindowsWrong : ChangeSpec := { name := "configWindows", fn := fun _ => fun
  | [d1, d2] => { results := [.lit (.bool false)], args := [d1, d2] }
  | _ => none }
def ConfigWindowsWrongFalsely : Prop := configWindowsRow.holds Tryd.pinned (OpenSpec.ofChange configWindowsWrong)

/-- 'nocturnlaw5.ConfigLaid': WHATEVER THE INPUT: true; the input reads as it did. -/
def configLaidSpec : ChangeSpec := { name := "configLaid", fn := fun _ => fun
  | [d1, d2, d3, d4] => { results := [.lit (.bool true)], args := [d1, d2, d3, d4] }
  | _ => none }
def configLaidRow : OpenClaim := { program := "ytgaegggiehhcpaadoor", sum := "0bdae90c30c6fd1e3f563916508cca3c7f285ed27c209b2da83273b3f9f2ff45", func := "nocturn/nocturnlaw5.ConfigLaid", spec := "configLaid", unfollowed := true, recurses := true, named := ["nocturn/code.operations"], apart := false, laid := [("nocturn/code.operations", laid_nocturn_code_operations)] }
def ConfigLaidSaid : Prop := configLaidRow.holds Tryd.pinned (OpenSpec.ofChange configLaidSpec)

/-- ITS FALSE NEIGHBOUR: 'it returns false'. Refute it at one input. -/
def configLaidWrong : ChangeSpec := { name := "configLaid", fn := fun _ => fun
  | [d1, d2, d3, d4] => { results := [.lit (.bool false)], args := [d1, d2, d3, d4] }
  | _ => none }
def ConfigLaidWrongFalsely : Prop := configLaidRow.holds Tryd.pinned (OpenSpec.ofChange configLaidWrong)

/- THE SECOND FORM. 'bulk': how many values and letters a reading holds, each counted each time it is reached (what is shared counts as often as it is met; a slice's spare places count too). A statement '..UptoSaid' is the law's where the arguments, and the package variables that the reading takes, are together of bulk at most 1048576: NARROWER than '..Said'. Prove '..Said' where nothing that the law and all that it calls make is longer than what came in: it says more and counts as full. Else prove '..UptoSaid'. A law counts once. -/
mutual
def uptoBulk {H : Type} : DataW H → Nat
  | .lit (.string bytes) => bytes.length + 1
  | .lit _ => 1
  | .nil => 1
  | .ptr d => uptoBulk d + 1
  | .slice elems spare => uptoBulkAll elems + uptoBulkAll spare + 1
  | .agg parts => uptoBulkAll parts + 1
  | .iface _ d => uptoBulk d + 1
  | .map entries => uptoBulkEntries entries + 1
  | .held _ => 1
def uptoBulkAll {H : Type} : List (DataW H) → Nat
  | [] => 0
  | d :: r => uptoBulk d + uptoBulkAll r
def uptoBulkEntries {H : Type} : List (Lit × DataW H) → Nat
  | [] => 0
  | x :: r => uptoBulkEntry x + uptoBulkEntries r
def uptoBulkEntry {H : Type} : Lit × DataW H → Nat
  | (.string bytes, d) => bytes.length + uptoBulk d + 1
  | (_, d) => uptoBulk d + 1
 end
def uptoSmall : (H : Type) → List (DataW H) → Bool := fun _ ds => decide (uptoBulkAll ds ≤ 1048576)
def OpenSpec.upto (s : _root_.Go.ChangeSpec) : _root_.Go.OpenSpec := { _root_.Go.OpenSpec.ofChange s with cond := some uptoSmall }

/-- 'nocturnlaw5.Configs', WHERE WHAT IT READS IS OF BULK AT MOST 1048576: true; the input reads as it did. -/
def configsUptoRow : OpenClaim := { program := "ytgaegggiehhcpaadoor", sum := "0bdae90c30c6fd1e3f563916508cca3c7f285ed27c209b2da83273b3f9f2ff45", func := "nocturn/nocturnlaw5.Configs", spec := "configs", unfollowed := true, recurses := true, named := ["nocturn/code.operations"], apart := false, laid := [("nocturn/code.operations", laid_nocturn_code_operations)], narrowed := true }
def ConfigsUptoSaid : Prop := configsUptoRow.holds Tryd.pinned (OpenSpec.upto configsSpec)

/-- 'nocturnlaw5.ConfigBack', WHERE WHAT IT READS IS OF BULK AT MOST 1048576: true; the input reads as it did. -/
def configBackUptoRow : OpenClaim := { program := "ytgaegggiehhcpaadoor", sum := "0bdae90c30c6fd1e3f563916508cca3c7f285ed27c209b2da83273b3f9f2ff45", func := "nocturn/nocturnlaw5.ConfigBack", spec := "configBack", unfollowed := true, recurses := true, named := ["nocturn/code.operations"], apart := false, laid := [("nocturn/code.operations", laid_nocturn_code_operations)], narrowed := true }
def ConfigBackUptoSaid : Prop := configBackUptoRow.holds Tryd.pinned (OpenSpec.upto configBackSpec)

/-- 'nocturnlaw5.ConfigForms', WHERE WHAT IT READS IS OF BULK AT MOST 1048576: true; the input reads as it did. -/
def configFormsUptoRow : OpenClaim := { program := "ytgaegggiehhcpaadoor", sum := "0bdae90c30c6fd1e3f563916508cca3c7f285ed27c209b2da83273b3f9f2ff45", func := "nocturn/nocturnlaw5.ConfigForms", spec := "configForms", unfollowed := true, recurses := true, named := ["nocturn/code.operations"], apart := false, laid := [("nocturn/code.operations", laid_nocturn_code_operations)], narrowed := true }
def ConfigFormsUptoSaid : Prop := configFormsUptoRow.holds Tryd.pinned (OpenSpec.upto configFormsSpec)

/-- 'nocturnlaw5.ConfigFirst', WHERE WHAT IT READS IS OF BULK AT MOST 1048576: true; the input reads as it did. -/
def configFirstUptoRow : OpenClaim := { program := "ytgaegggiehhcpaadoor", sum := "0bdae90c30c6fd1e3f563916508cca3c7f285ed27c209b2da83273b3f9f2ff45", func := "nocturn/nocturnlaw5.ConfigFirst", spec := "configFirst", unfollowed := true, recurses := true, named := ["nocturn/code.operations"], apart := false, laid := [("nocturn/code.operations", laid_nocturn_code_operations)], narrowed := true }
def ConfigFirstUptoSaid : Prop := configFirstUptoRow.holds Tryd.pinned (OpenSpec.upto configFirstSpec)

/-- 'nocturnlaw5.ConfigWindows', WHERE WHAT IT READS IS OF BULK AT MOST 1048576: true; the input reads as it did. -/
def configWindowsUptoRow : OpenClaim := { program := "ytgaegggiehhcpaadoor", sum := "0bdae90c30c6fd1e3f563916508cca3c7f285ed27c209b2da83273b3f9f2ff45", func := "nocturn/nocturnlaw5.ConfigWindows", spec := "configWindows", unfollowed := true, recurses := true, named := ["nocturn/code.operations"], apart := false, laid := [("nocturn/code.operations", laid_nocturn_code_operations)], narrowed := true }
def ConfigWindowsUptoSaid : Prop := configWindowsUptoRow.holds Tryd.pinned (OpenSpec.upto configWindowsSpec)

/-- 'nocturnlaw5.ConfigLaid', WHERE WHAT IT READS IS OF BULK AT MOST 1048576: true; the input reads as it did. -/
def configLaidUptoRow : OpenClaim := { program := "ytgaegggiehhcpaadoor", sum := "0bdae90c30c6fd1e3f563916508cca3c7f285ed27c209b2da83273b3f9f2ff45", func := "nocturn/nocturnlaw5.ConfigLaid", spec := "configLaid", unfollowed := true, recurses := true, named := ["nocturn/code.operations"], apart := false, laid := [("nocturn/code.operations", laid_nocturn_code_operations)], narrowed := true }
def ConfigLaidUptoSaid : Prop := configLaidUptoRow.holds Tryd.pinned (OpenSpec.upto configLaidSpec)

end Rows
end Go.Proofs.YtgaegggiehhcpaaDoor
