/-
  NARROWER THAN 'FOR EVERY INPUT', by the rows' own cells (each row's printed sentence says how): Steps: laid · StepRows: laid · StepSums: laid · StepForms: laid · StepJumps: laid · StepPorts: laid.
  DERIVED. THE GIVEN ROWS OF THIS SEAT. 6 by the template 'for every input the law returns true; each argument reads behind the call as it read before'; 0 by the template 'total and deterministic' (their statements: YthdpdnibgmjdaaaDoorTotals.lean).
  GIVEN WITH THE SEED: the statements are not yours to turn. If you find one false, say at which input.
  Laid BY PROGRAM, IN A SANDBOX (cutbox-rows.mjs): the forced cells as the released guide's own fill.sh prints them over the translation e70da44c8ca3709d… (all of the seat's roots in one cut). By AI agents, Wed Nov 11 2026. No macro, syntax, notation, axiom, sorry.
-/
import Derived.Test.YthdpdnibgmjdaaaDoorChecked
import GoSem.Claim
import GoSem.ClaimJoined
import GoSem.ClaimMapViews
import Derived.JoinedTies
import Derived.KernelRfl
namespace Go.Proofs.YthdpdnibgmjdaaaDoor
/- THE CELL 'sum', in the pinned program and in every row, IS THE sha256 OF THE DUMP (.gsa) THAT YthdpdnibgmjdaaaDoorProg.lean LOADS. Nothing in Lean hashes anything: it is a label: what it is worth is what the hold of that sum in a sandbox is worth. -/
noncomputable def Tryd.pinned : Pinned := { name := "ythdpdnibgmjdaaadoor", sum := "e70da44c8ca3709d48d1f08be26d7a2e3fe1a0b167b725dbe7da5b75e59f8e02", checked := Tryd.checked }
namespace Rows
def none {H : Type} : Left H := { results := [], args := [] }

/- WHAT THE LISTED PACKAGE-LEVEL VARIABLES READ AS WHEN THE CALL BEGINS. Each datum BY PROGRAM (the guide's laid-datum.mjs) off the statement by which the dump's own 'gosem.cut.vars' lays the variable. In a bare row this is a premise. The card (YthdpdnibgmjdaaaDoorCards.lean) ties it to the program's text. -/
def laid_nocturn_code_operations {H : Type} : DataW H := .agg [.agg [.lit (.string [110, 111, 112]), .lit (.int .i64 1)], .agg [.lit (.string [99, 111, 110, 115, 116]), .lit (.int .i64 256)], .agg [.lit (.string [108, 111, 97, 100]), .lit (.int .i64 16)], .agg [.lit (.string [115, 116, 111, 114, 101]), .lit (.int .i64 16)], .agg [.lit (.string [97, 100, 100]), .lit (.int .i64 16)], .agg [.lit (.string [115, 117, 98]), .lit (.int .i64 16)], .agg [.lit (.string [106, 117, 109, 112]), .lit (.int .i64 (-1))], .agg [.lit (.string [122, 101, 114, 111]), .lit (.int .i64 (-1))], .agg [.lit (.string [105, 110]), .lit (.int .i64 1)], .agg [.lit (.string [111, 117, 116]), .lit (.int .i64 8)], .agg [.lit (.string [103, 101, 116]), .lit (.int .i64 8)], .agg [.lit (.string [104, 97, 108, 116]), .lit (.int .i64 1)]]

/-- 'nocturnlaw10.Steps': WHATEVER THE INPUT: true; the input reads as it did. -/
def stepsSpec : ChangeSpec := { name := "steps", fn := fun _ => fun
  | [d1, d2, d3, d4, d5] => { results := [.lit (.bool true)], args := [d1, d2, d3, d4, d5] }
  | _ => none }
def stepsRow : OpenClaim := { program := "ythdpdnibgmjdaaadoor", sum := "e70da44c8ca3709d48d1f08be26d7a2e3fe1a0b167b725dbe7da5b75e59f8e02", func := "nocturn/nocturnlaw10.Steps", spec := "steps", unfollowed := true, recurses := true, named := ["nocturn/code.operations"], apart := false, laid := [("nocturn/code.operations", laid_nocturn_code_operations)] }
def StepsSaid : Prop := stepsRow.holds Tryd.pinned (OpenSpec.ofChange stepsSpec)

/-- ITS FALSE NEIGHBOUR: 'it returns false'. Refute it at one input. -/
def stepsWrong : ChangeSpec := { name := "steps", fn := fun _ => fun
  | [d1, d2, d3, d4, d5] => { results := [.lit (.bool false)], args := [d1, d2, d3, d4, d5] }
  | _ => none }
def StepsWrongFalsely : Prop := stepsRow.holds Tryd.pinned (OpenSpec.ofChange stepsWrong)

/-- 'nocturnlaw10.StepRows': WHATEVER THE INPUT: true; the input reads as it did. -/
def stepRowsSpec : ChangeSpec := { name := "stepRows", fn := fun _ => fun
  | [d1, d2, d3, d4] => { results := [.lit (.bool true)], args := [d1, d2, d3, d4] }
  | _ => none }
def stepRowsRow : OpenClaim := { program := "ythdpdnibgmjdaaadoor", sum := "e70da44c8ca3709d48d1f08be26d7a2e3fe1a0b167b725dbe7da5b75e59f8e02", func := "nocturn/nocturnlaw10.StepRows", spec := "stepRows", unfollowed := true, recurses := true, named := ["nocturn/code.operations"], apart := false, laid := [("nocturn/code.operations", laid_nocturn_code_operations)] }
def StepRowsSaid : Prop := stepRowsRow.holds Tryd.pinned (OpenSpec.ofChange stepRowsSpec)

/-- ITS FALSE NEIGHBOUR: 'it returns false'. Refute it at one input. -/
def stepRowsWrong : ChangeSpec := { name := "stepRows", fn := fun _ => fun
  | [d1, d2, d3, d4] => { results := [.lit (.bool false)], args := [d1, d2, d3, d4] }
  | _ => none }
def StepRowsWrongFalsely : Prop := stepRowsRow.holds Tryd.pinned (OpenSpec.ofChange stepRowsWrong)

/-- 'nocturnlaw10.StepSums': WHATEVER THE INPUT: true; the input reads as it did. -/
def stepSumsSpec : ChangeSpec := { name := "stepSums", fn := fun _ => fun
  | [d1, d2, d3] => { results := [.lit (.bool true)], args := [d1, d2, d3] }
  | _ => none }
def stepSumsRow : OpenClaim := { program := "ythdpdnibgmjdaaadoor", sum := "e70da44c8ca3709d48d1f08be26d7a2e3fe1a0b167b725dbe7da5b75e59f8e02", func := "nocturn/nocturnlaw10.StepSums", spec := "stepSums", unfollowed := true, recurses := true, named := ["nocturn/code.operations"], apart := false, laid := [("nocturn/code.operations", laid_nocturn_code_operations)] }
def StepSumsSaid : Prop := stepSumsRow.holds Tryd.pinned (OpenSpec.ofChange stepSumsSpec)

/-- ITS FALSE NEIGHBOUR: 'it returns false'. Refute it at one input. -/
def stepSumsWrong : ChangeSpec := { name := "stepSums", fn := fun _ => fun
  | [d1, d2, d3] => { results := [.lit (.bool false)], args := [d1, d2, d3] }
  | _ => none }
def StepSumsWrongFalsely : Prop := stepSumsRow.holds Tryd.pinned (OpenSpec.ofChange stepSumsWrong)

/-- 'nocturnlaw10.StepForms': WHATEVER THE INPUT: true; the input reads as it did. -/
def stepFormsSpec : ChangeSpec := { name := "stepForms", fn := fun _ => fun
  | [d1, d2] => { results := [.lit (.bool true)], args := [d1, d2] }
  | _ => none }
def stepFormsRow : OpenClaim := { program := "ythdpdnibgmjdaaadoor", sum := "e70da44c8ca3709d48d1f08be26d7a2e3fe1a0b167b725dbe7da5b75e59f8e02", func := "nocturn/nocturnlaw10.StepForms", spec := "stepForms", unfollowed := true, recurses := true, named := ["nocturn/code.operations"], apart := false, laid := [("nocturn/code.operations", laid_nocturn_code_operations)] }
def StepFormsSaid : Prop := stepFormsRow.holds Tryd.pinned (OpenSpec.ofChange stepFormsSpec)

/-- ITS FALSE NEIGHBOUR: 'it returns false'. Refute it at one input. -/
def stepFormsWrong : ChangeSpec := { name := "stepForms", fn := fun _ => fun
  | [d1, d2] => { results := [.lit (.bool false)], args := [d1, d2] }
  | _ => none }
def StepFormsWrongFalsely : Prop := stepFormsRow.holds Tryd.pinned (OpenSpec.ofChange stepFormsWrong)

/-- 'nocturnlaw10.StepJumps': WHATEVER THE INPUT: true; the input reads as it did. -/
def stepJumpsSpec : ChangeSpec := { name := "stepJumps", fn := fun _ => fun
  | [d1, d2, d3] => { results := [.lit (.bool true)], args := [d1, d2, d3] }
  | _ => none }
def stepJumpsRow : OpenClaim := { program := "ythdpdnibgmjdaaadoor", sum := "e70da44c8ca3709d48d1f08be26d7a2e3fe1a0b167b725dbe7da5b75e59f8e02", func := "nocturn/nocturnlaw10.StepJumps", spec := "stepJumps", unfollowed := true, recurses := true, named := ["nocturn/code.operations"], apart := false, laid := [("nocturn/code.operations", laid_nocturn_code_operations)] }
def StepJumpsSaid : Prop := stepJumpsRow.holds Tryd.pinned (OpenSpec.ofChange stepJumpsSpec)

/-- ITS FALSE NEIGHBOUR: 'it returns false'. Refute it at one input. -/
def stepJumpsWrong : ChangeSpec := { name := "stepJumps", fn := fun _ => fun
  | [d1, d2, d3] => { results := [.lit (.bool false)], args := [d1, d2, d3] }
  | _ => none }
def StepJumpsWrongFalsely : Prop := stepJumpsRow.holds Tryd.pinned (OpenSpec.ofChange stepJumpsWrong)

/-- 'nocturnlaw10.StepPorts': WHATEVER THE INPUT: true; the input reads as it did. -/
def stepPortsSpec : ChangeSpec := { name := "stepPorts", fn := fun _ => fun
  | [d1, d2, d3, d4] => { results := [.lit (.bool true)], args := [d1, d2, d3, d4] }
  | _ => none }
def stepPortsRow : OpenClaim := { program := "ythdpdnibgmjdaaadoor", sum := "e70da44c8ca3709d48d1f08be26d7a2e3fe1a0b167b725dbe7da5b75e59f8e02", func := "nocturn/nocturnlaw10.StepPorts", spec := "stepPorts", unfollowed := true, recurses := true, named := ["nocturn/code.operations"], apart := false, laid := [("nocturn/code.operations", laid_nocturn_code_operations)] }
def StepPortsSaid : Prop := stepPortsRow.holds Tryd.pinned (OpenSpec.ofChange stepPortsSpec)

/-- ITS FALSE NEIGHBOUR: 'it returns false'. Refute it at one input. -/
def stepPortsWrong : ChangeSpec := { name := "stepPorts", fn := fun _ => fun
  | [d1, d2, d3, d4] => { results := [.lit (.bool false)], args := [d1, d2, d3, d4] }
  | _ => none }
def StepPortsWrongFalsely : Prop := stepPortsRow.holds Tryd.pinned (OpenSpec.ofChange stepPortsWrong)

/- THE SECOND FORM. 'bulk': how many values and letters a reading holds, each counted each time it is reached (what is shared counts as often as it is met; a slice's spare places count too). A statement '..UptoSaid' is the law's where the arguments, and the package variables that the reading takes, are together of bulk at most 1048576: NARROWER than '..Said'. Prove '..Said' where nothing that the law and all that it calls make is longer than what came in: it says more and counts as full. Else prove '..UptoSaid'. A law counts once. -/
mutual
def uptoBulk {H : Type} : DataW H → Nat
  | .lit (.string bytes) => bytes.length + 1
  | .lit _ => 1
  | .nil => 1
  | .ptr d => uptoBulk d + 1
  | .slice elems spare => uptoBulkAll elems + uptoBulkAll spare + 1
  | .agg parts => uptoBulkAll parts + 1
  | .iface _ d => uptoBulk d + 1
  | .map entries => uptoBulkEntries entries + 1
  | .held _ => 1
def uptoBulkAll {H : Type} : List (DataW H) → Nat
  | [] => 0
  | d :: r => uptoBulk d + uptoBulkAll r
def uptoBulkEntries {H : Type} : List (Lit × DataW H) → Nat
  | [] => 0
  | x :: r => uptoBulkEntry x + uptoBulkEntries r
def uptoBulkEntry {H : Type} : Lit × DataW H → Nat
  | (.string bytes, d) => bytes.length + uptoBulk d + 1
  | (_, d) => uptoBulk d + 1
 end
def uptoSmall : (H : Type) → List (DataW H) → Bool := fun _ ds => decide (uptoBulkAll ds ≤ 1048576)
def OpenSpec.upto (s : _root_.Go.ChangeSpec) : _root_.Go.OpenSpec := { _root_.Go.OpenSpec.ofChange s with cond := some uptoSmall }

/-- 'nocturnlaw10.Steps', WHERE WHAT IT READS IS OF BULK AT MOST 1048576: true; the input reads as it did. -/
def stepsUptoRow : OpenClaim := { program := "ythdpdnibgmjdaaadoor", sum := "e70da44c8ca3709d48d1f08be26d7a2e3fe1a0b167b725dbe7da5b75e59f8e02", func := "nocturn/nocturnlaw10.Steps", spec := "steps", unfollowed := true, recurses := true, named := ["nocturn/code.operations"], apart := false, laid := [("nocturn/code.operations", laid_nocturn_code_operations)], narrowed := true }
def StepsUptoSaid : Prop := stepsUptoRow.holds Tryd.pinned (OpenSpec.upto stepsSpec)

/-- 'nocturnlaw10.StepRows', WHERE WHAT IT READS IS OF BULK AT MOST 1048576: true; the input reads as it did. -/
def stepRowsUptoRow : OpenClaim := { program := "ythdpdnibgmjdaaadoor", sum := "e70da44c8ca3709d48d1f08be26d7a2e3fe1a0b167b725dbe7da5b75e59f8e02", func := "nocturn/nocturnlaw10.StepRows", spec := "stepRows", unfollowed := true, recurses := true, named := ["nocturn/code.operations"], apart := false, laid := [("nocturn/code.operations", laid_nocturn_code_operations)], narrowed := true }
def StepRowsUptoSaid : Prop := stepRowsUptoRow.holds Tryd.pinned (OpenSpec.upto stepRowsSpec)

/-- 'nocturnlaw10.StepSums', WHERE WHAT IT READS IS OF BULK AT MOST 1048576: true; the input reads as it did. -/
def stepSumsUptoRow : OpenClaim := { program := "ythdpdnibgmjdaaadoor", sum := "e70da44c8ca3709d48d1f08be26d7a2e3fe1a0b167b725dbe7da5b75e59f8e02", func := "nocturn/nocturnlaw10.StepSums", spec := "stepSums", unfollowed := true, recurses := true, named := ["nocturn/code.operations"], apart := false, laid := [("nocturn/code.operations", laid_nocturn_code_operations)], narrowed := true }
def StepSumsUptoSaid : Prop := stepSumsUptoRow.holds Tryd.pinned (OpenSpec.upto stepSumsSpec)

/-- 'nocturnlaw10.StepForms', WHERE WHAT IT READS IS OF BULK AT MOST 1048576: true; the input reads as it did. -/
def stepFormsUptoRow : OpenClaim := { program := "ythdpdnibgmjdaaadoor", sum := "e70da44c8ca3709d48d1f08be26d7a2e3fe1a0b167b725dbe7da5b75e59f8e02", func := "nocturn/nocturnlaw10.StepForms", spec := "stepForms", unfollowed := true, recurses := true, named := ["nocturn/code.operations"], apart := false, laid := [("nocturn/code.operations", laid_nocturn_code_operations)], narrowed := true }
def StepFormsUptoSaid : Prop := stepFormsUptoRow.holds Tryd.pinned (OpenSpec.upto stepFormsSpec)

/-- 'nocturnlaw10.StepJumps', WHERE WHAT IT READS IS OF BULK AT MOST 1048576: true; the input reads as it did. -/
def stepJumpsUptoRow : OpenClaim := { program := "ythdpdnibgmjdaaadoor", sum := "e70da44c8ca3709d48d1f08be26d7a2e3fe1a0b167b725dbe7da5b75e59f8e02", func := "nocturn/nocturnlaw10.StepJumps", spec := "stepJumps", unfollowed := true, recurses := true, named := ["nocturn/code.operations"], apart := false, laid := [("nocturn/code.operations", laid_nocturn_code_operations)], narrowed := true }
def StepJumpsUptoSaid : Prop := stepJumpsUptoRow.holds Tryd.pinned (OpenSpec.upto stepJumpsSpec)

/-- 'nocturnlaw10.StepPorts', WHERE WHAT IT READS IS OF BULK AT MOST 1048576: true; the input reads as it did. -/
def stepPortsUptoRow : OpenClaim := { program := "ythdpdnibgmjdaaadoor", sum := "e70da44c8ca3709d48d1f08be26d7a2e3fe1a0b167b725dbe7da5b75e59f8e02", func := "nocturn/nocturnlaw10.StepPorts", spec := "stepPorts", unfollowed := true, recurses := true, named := ["nocturn/code.operations"], apart := false, laid := [("nocturn/code.operations", laid_nocturn_code_operations)], narrowed := true }
def StepPortsUptoSaid : Prop := stepPortsUptoRow.holds Tryd.pinned (OpenSpec.upto stepPortsSpec)

end Rows
end Go.Proofs.YthdpdnibgmjdaaaDoor
