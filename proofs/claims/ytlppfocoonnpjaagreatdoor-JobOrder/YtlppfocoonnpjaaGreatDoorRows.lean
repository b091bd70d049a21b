/-
  NARROWER THAN 'FOR EVERY INPUT', by the rows' own cells (each row's printed sentence says how): JobActs: laid · JobTicks: laid · JobKills: laid · JobOrder: laid · JobForms: laid · JobMissed: laid.
  DERIVED. THE GIVEN ROWS OF THIS SEAT. 6 by the template 'for every input the law returns true; each argument reads behind the call as it read before'; 0 by the template 'total and deterministic' (their statements: YtlppfocoonnpjaaGreatDoorTotals.lean).
  GIVEN WITH THE SEED: the statements are not yours to turn. If you find one false, say at which input.
  Laid BY PROGRAM, IN A SANDBOX (cutbox-rows.mjs): the forced cells as the released guide's own fill.sh prints them over the translation b82c272cc9223eca… (all of the seat's roots in one cut). By AI agents, Wed Nov 11 2026. No macro, syntax, notation, axiom, sorry.
-/
import Derived.Test.YtlppfocoonnpjaaGreatDoorChecked
import GoSem.Claim
import GoSem.ClaimJoined
import GoSem.ClaimMapViews
import Derived.JoinedTies
import Derived.KernelRfl
namespace Go.Proofs.YtlppfocoonnpjaaGreatDoor
/- THE CELL 'sum', in the pinned program and in every row, IS THE sha256 OF THE DUMP (.gsa) THAT YtlppfocoonnpjaaGreatDoorProg.lean LOADS. Nothing in Lean hashes anything: it is a label: what it is worth is what the hold of that sum in a sandbox is worth. -/
noncomputable def Tryz.pinned : Pinned := { name := "ytlppfocoonnpjaagreatdoor", sum := "b82c272cc9223ecaf8b4aa223531e362f047b4296ba7eaf56cc1b350b2f93c63", checked := Tryz.checked }
namespace Rows
def none {H : Type} : Left H := { results := [], args := [] }

/- WHAT THE LISTED PACKAGE-LEVEL VARIABLES READ AS WHEN THE CALL BEGINS. Each datum BY PROGRAM (the guide's laid-datum.mjs) off the statement by which the dump's own 'gosem.cut.vars' lays the variable. In a bare row this is a premise. The card (YtlppfocoonnpjaaGreatDoorCards.lean) ties it to the program's text. -/
def laid_nocturn_code_operations {H : Type} : DataW H := .agg [.agg [.lit (.string [110, 111, 112]), .lit (.int .i64 1)], .agg [.lit (.string [99, 111, 110, 115, 116]), .lit (.int .i64 256)], .agg [.lit (.string [108, 111, 97, 100]), .lit (.int .i64 16)], .agg [.lit (.string [115, 116, 111, 114, 101]), .lit (.int .i64 16)], .agg [.lit (.string [97, 100, 100]), .lit (.int .i64 16)], .agg [.lit (.string [115, 117, 98]), .lit (.int .i64 16)], .agg [.lit (.string [106, 117, 109, 112]), .lit (.int .i64 (-1))], .agg [.lit (.string [122, 101, 114, 111]), .lit (.int .i64 (-1))], .agg [.lit (.string [105, 110]), .lit (.int .i64 1)], .agg [.lit (.string [111, 117, 116]), .lit (.int .i64 8)], .agg [.lit (.string [103, 101, 116]), .lit (.int .i64 8)], .agg [.lit (.string [104, 97, 108, 116]), .lit (.int .i64 1)]]

/-- 'nocturnlaw14.JobActs': WHATEVER THE INPUT: true; the input reads as it did. -/
def jobActsSpec : ChangeSpec := { name := "jobActs", fn := fun _ => fun
  | [d1, d2, d3] => { results := [.lit (.bool true)], args := [d1, d2, d3] }
  | _ => none }
def jobActsRow : OpenClaim := { program := "ytlppfocoonnpjaagreatdoor", sum := "b82c272cc9223ecaf8b4aa223531e362f047b4296ba7eaf56cc1b350b2f93c63", func := "nocturn/nocturnlaw14.JobActs", spec := "jobActs", unfollowed := true, recurses := true, named := ["nocturn/code.operations"], apart := false, laid := [("nocturn/code.operations", laid_nocturn_code_operations)] }
def JobActsSaid : Prop := jobActsRow.holds Tryz.pinned (OpenSpec.ofChange jobActsSpec)

/-- ITS FALSE NEIGHBOUR: 'it returns false'. Refute it at one input. -/
def jobActsWrong : ChangeSpec := { name := "jobActs", fn := fun _ => fun
  | [d1, d2, d3] => { results := [.lit (.bool false)], args := [d1, d2, d3] }
  | _ => none }
def JobActsWrongFalsely : Prop := jobActsRow.holds Tryz.pinned (OpenSpec.ofChange jobActsWrong)

/-- 'nocturnlaw14.JobTicks': WHATEVER THE INPUT: true; the input reads as it did. -/
def jobTicksSpec : ChangeSpec := { name := "jobTicks", fn := fun _ => fun
  | [d1, d2, d3] => { results := [.lit (.bool true)], args := [d1, d2, d3] }
  | _ => none }
def jobTicksRow : OpenClaim := { program := "ytlppfocoonnpjaagreatdoor", sum := "b82c272cc9223ecaf8b4aa223531e362f047b4296ba7eaf56cc1b350b2f93c63", func := "nocturn/nocturnlaw14.JobTicks", spec := "jobTicks", unfollowed := true, recurses := true, named := ["nocturn/code.operations"], apart := false, laid := [("nocturn/code.operations", laid_nocturn_code_operations)] }
def JobTicksSaid : Prop := jobTicksRow.holds Tryz.pinned (OpenSpec.ofChange jobTicksSpec)

/-- ITS FALSE NEIGHBOUR: 'it returns false'. Refute it at one input. -/
def jobTicksWrong : ChangeSpec := { name := "jobTicks", fn := fun _ => fun
  | [d1, d2, d3] => { results := [.lit (.bool false)], args := [d1, d2, d3] }
  | _ => none }
def JobTicksWrongFalsely : Prop := jobTicksRow.holds Tryz.pinned (OpenSpec.ofChange jobTicksWrong)

/-- 'nocturnlaw14.JobKills': WHATEVER THE INPUT: true; the input reads as it did. -/
def jobKillsSpec : ChangeSpec := { name := "jobKills", fn := fun _ => fun
  | [d1, d2, d3, d4] => { results := [.lit (.bool true)], args := [d1, d2, d3, d4] }
  | _ => none }
def jobKillsRow : OpenClaim := { program := "ytlppfocoonnpjaagreatdoor", sum := "b82c272cc9223ecaf8b4aa223531e362f047b4296ba7eaf56cc1b350b2f93c63", func := "nocturn/nocturnlaw14.JobKills", spec := "jobKills", unfollowed := true, recurses := true, named := ["nocturn/code.operations"], apart := false, laid := [("nocturn/code.operations", laid_nocturn_code_operations)] }
def JobKillsSaid : Prop := jobKillsRow.holds Tryz.pinned (OpenSpec.ofChange jobKillsSpec)

/-- ITS FALSE NEIGHBOUR: 'it returns false'. Refute it at one input. -/
def jobKillsWrong : ChangeSpec := { name := "jobKills", fn := fun _ => fun
  | [d1, d2, d3, d4] => { results := [.lit (.bool false)], args := [d1, d2, d3, d4] }
  | _ => none }
def JobKillsWrongFalsely : Prop := jobKillsRow.holds Tryz.pinned (OpenSpec.ofChange jobKillsWrong)

/-- 'nocturnlaw14.JobOrder': WHATEVER THE INPUT: true; the input reads as it did. -/
def jobOrderSpec : ChangeSpec := { name := "jobOrder", fn := fun _ => fun
  | [d1, d2] => { results := [.lit (.bool true)], args := [d1, d2] }
  | _ => none }
def jobOrderRow : OpenClaim := { program := "ytlppfocoonnpjaagreatdoor", sum := "b82c272cc9223ecaf8b4aa223531e362f047b4296ba7eaf56cc1b350b2f93c63", func := "nocturn/nocturnlaw14.JobOrder", spec := "jobOrder", unfollowed := true, recurses := true, named := ["nocturn/code.operations"], apart := false, laid := [("nocturn/code.operations", laid_nocturn_code_operations)] }
def JobOrderSaid : Prop := jobOrderRow.holds Tryz.pinned (OpenSpec.ofChange jobOrderSpec)

/-- ITS FALSE NEIGHBOUR: 'it returns false'. Refute it at one input. -/
def jobOrderWrong : ChangeSpec := { name := "jobOrder", fn := fun _ => fun
  | [d1, d2] => { results := [.lit (.bool false)], args := [d1, d2] }
  | _ => none }
def JobOrderWrongFalsely : Prop := jobOrderRow.holds Tryz.pinned (OpenSpec.ofChange jobOrderWrong)

/-- 'nocturnlaw14.JobForms': WHATEVER THE INPUT: true; the input reads as it did. -/
def jobFormsSpec : ChangeSpec := { name := "jobForms", fn := fun _ => fun
  | [d1, d2] => { results := [.lit (.bool true)], args := [d1, d2] }
  | _ => none }
def jobFormsRow : OpenClaim := { program := "ytlppfocoonnpjaagreatdoor", sum := "b82c272cc9223ecaf8b4aa223531e362f047b4296ba7eaf56cc1b350b2f93c63", func := "nocturn/nocturnlaw14.JobForms", spec := "jobForms", unfollowed := true, recurses := true, named := ["nocturn/code.operations"], apart := false, laid := [("nocturn/code.operations", laid_nocturn_code_operations)] }
def JobFormsSaid : Prop := jobFormsRow.holds Tryz.pinned (OpenSpec.ofChange jobFormsSpec)

/-- ITS FALSE NEIGHBOUR: 'it returns false'. Refute it at one input. -/
def jobFormsWrong : ChangeSpec := { name := "jobForms", fn := fun _ => fun
  | [d1, d2] => { results := [.lit (.bool false)], args := [d1, d2] }
  | _ => none }
def JobFormsWrongFalsely : Prop := jobFormsRow.holds Tryz.pinned (OpenSpec.ofChange jobFormsWrong)

/-- 'nocturnlaw14.JobMissed': WHATEVER THE INPUT: true; the input reads as it did. -/
def jobMissedSpec : ChangeSpec := { name := "jobMissed", fn := fun _ => fun
  | [d1, d2, d3, d4] => { results := [.lit (.bool true)], args := [d1, d2, d3, d4] }
  | _ => none }
def jobMissedRow : OpenClaim := { program := "ytlppfocoonnpjaagreatdoor", sum := "b82c272cc9223ecaf8b4aa223531e362f047b4296ba7eaf56cc1b350b2f93c63", func := "nocturn/nocturnlaw14.JobMissed", spec := "jobMissed", unfollowed := true, recurses := true, named := ["nocturn/code.operations"], apart := false, laid := [("nocturn/code.operations", laid_nocturn_code_operations)] }
def JobMissedSaid : Prop := jobMissedRow.holds Tryz.pinned (OpenSpec.ofChange jobMissedSpec)

/-- ITS FALSE NEIGHBOUR: 'it returns false'. Refute it at one input. -/
def jobMissedWrong : ChangeSpec := { name := "jobMissed", fn := fun _ => fun
  | [d1, d2, d3, d4] => { results := [.lit (.bool false)], args := [d1, d2, d3, d4] }
  | _ => none }
def JobMissedWrongFalsely : Prop := jobMissedRow.holds Tryz.pinned (OpenSpec.ofChange jobMissedWrong)

/- THE SECOND FORM. 'bulk': how many values and letters a reading holds, each counted each time it is reached (what is shared counts as often as it is met; a slice's spare places count too). A statement '..UptoSaid' is the law's where the arguments, and the package variables that the reading takes, are together of bulk at most 1048576: NARROWER than '..Said'. Prove '..Said' where nothing that the law and all that it calls make is longer than what came in: it says more and counts as full. Else prove '..UptoSaid'. A law counts once. -/
mutual
def uptoBulk {H : Type} : DataW H → Nat
  | .lit (.string bytes) => bytes.length + 1
  | .lit _ => 1
  | .nil => 1
  | .ptr d => uptoBulk d + 1
  | .slice elems spare => uptoBulkAll elems + uptoBulkAll spare + 1
  | .agg parts => uptoBulkAll parts + 1
  | .iface _ d => uptoBulk d + 1
  | .map entries => uptoBulkEntries entries + 1
  | .held _ => 1
def uptoBulkAll {H : Type} : List (DataW H) → Nat
  | [] => 0
  | d :: r => uptoBulk d + uptoBulkAll r
def uptoBulkEntries {H : Type} : List (Lit × DataW H) → Nat
  | [] => 0
  | x :: r => uptoBulkEntry x + uptoBulkEntries r
def uptoBulkEntry {H : Type} : Lit × DataW H → Nat
  | (.string bytes, d) => bytes.length + uptoBulk d + 1
  | (_, d) => uptoBulk d + 1
 end
def uptoSmall : (H : Type) → List (DataW H) → Bool := fun _ ds => decide (uptoBulkAll ds ≤ 1048576)
def OpenSpec.upto (s : _root_.Go.ChangeSpec) : _root_.Go.OpenSpec := { _root_.Go.OpenSpec.ofChange s with cond := some uptoSmall }

/-- 'nocturnlaw14.JobActs', WHERE WHAT IT READS IS OF BULK AT MOST 1048576: true; the input reads as it did. -/
def jobActsUptoRow : OpenClaim := { program := "ytlppfocoonnpjaagreatdoor", sum := "b82c272cc9223ecaf8b4aa223531e362f047b4296ba7eaf56cc1b350b2f93c63", func := "nocturn/nocturnlaw14.JobActs", spec := "jobActs", unfollowed := true, recurses := true, named := ["nocturn/code.operations"], apart := false, laid := [("nocturn/code.operations", laid_nocturn_code_operations)], narrowed := true }
def JobActsUptoSaid : Prop := jobActsUptoRow.holds Tryz.pinned (OpenSpec.upto jobActsSpec)

/-- 'nocturnlaw14.JobTicks', WHERE WHAT IT READS IS OF BULK AT MOST 1048576: true; the input reads as it did. -/
def jobTicksUptoRow : OpenClaim := { program := "ytlppfocoonnpjaagreatdoor", sum := "b82c272cc9223ecaf8b4aa223531e362f047b4296ba7eaf56cc1b350b2f93c63", func := "nocturn/nocturnlaw14.JobTicks", spec := "jobTicks", unfollowed := true, recurses := true, named := ["nocturn/code.operations"], apart := false, laid := [("nocturn/code.operations", laid_nocturn_code_operations)], narrowed := true }
def JobTicksUptoSaid : Prop := jobTicksUptoRow.holds Tryz.pinned (OpenSpec.upto jobTicksSpec)

/-- 'nocturnlaw14.JobKills', WHERE WHAT IT READS IS OF BULK AT MOST 1048576: true; the input reads as it did. -/
def jobKillsUptoRow : OpenClaim := { program := "ytlppfocoonnpjaagreatdoor", sum := "b82c272cc9223ecaf8b4aa223531e362f047b4296ba7eaf56cc1b350b2f93c63", func := "nocturn/nocturnlaw14.JobKills", spec := "jobKills", unfollowed := true, recurses := true, named := ["nocturn/code.operations"], apart := false, laid := [("nocturn/code.operations", laid_nocturn_code_operations)], narrowed := true }
def JobKillsUptoSaid : Prop := jobKillsUptoRow.holds Tryz.pinned (OpenSpec.upto jobKillsSpec)

/-- 'nocturnlaw14.JobOrder', WHERE WHAT IT READS IS OF BULK AT MOST 1048576: true; the input reads as it did. -/
def jobOrderUptoRow : OpenClaim := { program := "ytlppfocoonnpjaagreatdoor", sum := "b82c272cc9223ecaf8b4aa223531e362f047b4296ba7eaf56cc1b350b2f93c63", func := "nocturn/nocturnlaw14.JobOrder", spec := "jobOrder", unfollowed := true, recurses := true, named := ["nocturn/code.operations"], apart := false, laid := [("nocturn/code.operations", laid_nocturn_code_operations)], narrowed := true }
def JobOrderUptoSaid : Prop := jobOrderUptoRow.holds Tryz.pinned (OpenSpec.upto jobOrderSpec)

/-- 'nocturnlaw14.JobForms', WHERE WHAT IT READS IS OF BULK AT MOST 1048576: true; the input reads as it did. -/
def jobFormsUptoRow : OpenClaim := { program := "ytlppfocoonnpjaagreatdoor", sum := "b82c272cc9223ecaf8b4aa223531e362f047b4296ba7eaf56cc1b350b2f93c63", func := "nocturn/nocturnlaw14.JobForms", spec := "jobForms", unfollowed := true, recurses := true, named := ["nocturn/code.operations"], apart := false, laid := [("nocturn/code.operations", laid_nocturn_code_operations)], narrowed := true }
def JobFormsUptoSaid : Prop := jobFormsUptoRow.holds Tryz.pinned (OpenSpec.upto jobFormsSpec)

/-- 'nocturnlaw14.JobMissed', WHERE WHAT IT READS IS OF BULK AT MOST 1048576: true; the input reads as it did. -/
def jobMissedUptoRow : OpenClaim := { program := "ytlppfocoonnpjaagreatdoor", sum := "b82c272cc9223ecaf8b4aa223531e362f047b4296ba7eaf56cc1b350b2f93c63", func := "nocturn/nocturnlaw14.JobMissed", spec := "jobMissed", unfollowed := true, recurses := true, named := ["nocturn/code.operations"], apart := false, laid := [("nocturn/code.operations", laid_nocturn_code_operations)], narrowed := true }
def JobMissedUptoSaid : Prop := jobMissedUptoRow.holds Tryz.pinned (OpenSpec.upto jobMissedSpec)

end Rows
end Go.Proofs.YtlppfocoonnpjaaGreatDoor
