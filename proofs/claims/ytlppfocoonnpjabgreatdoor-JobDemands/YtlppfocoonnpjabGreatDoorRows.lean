/-
  NARROWER THAN 'FOR EVERY INPUT', by the rows' own cells (each row's printed sentence says how): JobDemands: laid.
  DERIVED. THE GIVEN ROWS OF THIS SEAT. 1 by the template 'for every input the law returns true; each argument reads behind the call as it read before'; 0 by the template 'total and deterministic' (their statements: YtlppfocoonnpjabGreatDoorTotals.lean).
  GIVEN WITH THE SEED: the statements are not yours to turn. If you find one false, say at which input.
  Laid BY PROGRAM, IN A SANDBOX (cutbox-rows.mjs): the forced cells as the released guide's own fill.sh prints them over the translation 092746e6524b0e49… (all of the seat's roots in one cut). By AI agents, Wed Nov 11 2026. No macro, syntax, notation, axiom, sorry.
-/
import Derived.Test.YtlppfocoonnpjabGreatDoorChecked
import GoSem.Claim
import GoSem.ClaimJoined
import GoSem.ClaimMapViews
import Derived.JoinedTies
import Derived.KernelRfl
namespace Go.Proofs.YtlppfocoonnpjabGreatDoor
/- THE CELL 'sum', in the pinned program and in every row, IS THE sha256 OF THE DUMP (.gsa) THAT YtlppfocoonnpjabGreatDoorProg.lean LOADS. Nothing in Lean hashes anything: it is a label: what it is worth is what the hold of that sum in a sandbox is worth. -/
noncomputable def Tryz.pinned : Pinned := { name := "ytlppfocoonnpjabgreatdoor", sum := "092746e6524b0e49828bfc3111b3e5847c75b732bf383b08a968bda2f46c8193", checked := Tryz.checked }
namespace Rows
def none {H : Type} : Left H := { results := [], args := [] }

/- WHAT THE LISTED PACKAGE-LEVEL VARIABLES READ AS WHEN THE CALL BEGINS. Each datum BY PROGRAM (the guide's laid-datum.mjs) off the statement by which the dump's own 'gosem.cut.vars' lays the variable. In a bare row this is a premise. The card (YtlppfocoonnpjabGreatDoorCards.lean) ties it to the program's text. -/
def laid_nocturn_code_operations {H : Type} : DataW H := .agg [.agg [.lit (.string [110, 111, 112]), .lit (.int .i64 1)], .agg [.lit (.string [99, 111, 110, 115, 116]), .lit (.int .i64 256)], .agg [.lit (.string [108, 111, 97, 100]), .lit (.int .i64 16)], .agg [.lit (.string [115, 116, 111, 114, 101]), .lit (.int .i64 16)], .agg [.lit (.string [97, 100, 100]), .lit (.int .i64 16)], .agg [.lit (.string [115, 117, 98]), .lit (.int .i64 16)], .agg [.lit (.string [106, 117, 109, 112]), .lit (.int .i64 (-1))], .agg [.lit (.string [122, 101, 114, 111]), .lit (.int .i64 (-1))], .agg [.lit (.string [105, 110]), .lit (.int .i64 1)], .agg [.lit (.string [111, 117, 116]), .lit (.int .i64 8)], .agg [.lit (.string [103, 101, 116]), .lit (.int .i64 8)], .agg [.lit (.string [104, 97, 108, 116]), .lit (.int .i64 1)]]

/-- 'nocturnlaw14.JobDemands': WHATEVER THE INPUT: true; the input reads as it did. -/
def jobDemandsSpec : ChangeSpec := { name := "jobDemands", fn := fun _ => fun
  | [d1, d2] => { results := [.lit (.bool true)], args := [d1, d2] }
  | _ => none }
def jobDemandsRow : OpenClaim := { program := "ytlppfocoonnpjabgreatdoor", sum := "092746e6524b0e49828bfc3111b3e5847c75b732bf383b08a968bda2f46c8193", func := "nocturn/nocturnlaw14.JobDemands", spec := "jobDemands", unfollowed := true, recurses := true, named := ["nocturn/code.operations"], apart := false, laid := [("nocturn/code.operations", laid_nocturn_code_operations)] }
def JobDemandsSaid : Prop := jobDemandsRow.holds Tryz.pinned (OpenSpec.ofChange jobDemandsSpec)

/-- ITS FALSE NEIGHBOUR: 'it returns false'. Refute it at one input. -/
def jobDemandsWrong : ChangeSpec := { name := "jobDemands", fn := fun _ => fun
  | [d1, d2] => { results := [.lit (.bool false)], args := [d1, d2] }
  | _ => none }
def JobDemandsWrongFalsely : Prop := jobDemandsRow.holds Tryz.pinned (OpenSpec.ofChange jobDemandsWrong)

/- THE SECOND FORM. 'bulk': how many values and letters a reading holds, each counted each time it is reached (what is shared counts as often as it is met; a slice's spare places count too). A statement '..UptoSaid' is the law's where the arguments, and the package variables that the reading takes, are together of bulk at most 1048576: NARROWER than '..Said'. Prove '..Said' where nothing that the law and all that it calls make is longer than what came in: it says more and counts as full. Else prove '..UptoSaid'. A law counts once. -/
mutual
def uptoBulk {H : Type} : DataW H → Nat
  | .lit (.string bytes) => bytes.length + 1
  | .lit _ => 1
  | .nil => 1
  | .ptr d => uptoBulk d + 1
  | .slice elems spare => uptoBulkAll elems + uptoBulkAll spare + 1
  | .agg parts => uptoBulkAll parts + 1
  | .iface _ d => uptoBulk d + 1
  | .map entries => uptoBulkEntries entries + 1
  | .held _ => 1
def uptoBulkAll {H : Type} : List (DataW H) → Nat
  | [] => 0
  | d :: r => uptoBulk d + uptoBulkAll r
def uptoBulkEntries {H : Type} : List (Lit × DataW H) → Nat
  | [] => 0
  | x :: r => uptoBulkEntry x + uptoBulkEntries r
def uptoBulkEntry {H : Type} : Lit × DataW H → Nat
  | (.string bytes, d) => bytes.length + uptoBulk d + 1
  | (_, d) => uptoBulk d + 1
 end
def uptoSmall : (H : Type) → List (DataW H) → Bool := fun _ ds => decide (uptoBulkAll ds ≤ 1048576)
def OpenSpec.upto (s : _root_.Go.ChangeSpec) : _root_.Go.OpenSpec := { _root_.Go.OpenSpec.ofChange s with cond := some uptoSmall }

/-- 'nocturnlaw14.JobDemands', WHERE WHAT IT READS IS OF BULK AT MOST 1048576: true; the input reads as it did. -/
def jobDemandsUptoRow : OpenClaim := { program := "ytlppfocoonnpjabgreatdoor", sum := "092746e6524b0e49828bfc3111b3e5847c75b732bf383b08a968bda2f46c8193", func := "nocturn/nocturnlaw14.JobDemands", spec := "jobDemands", unfollowed := true, recurses := true, named := ["nocturn/code.operations"], apart := false, laid := [("nocturn/code.operations", laid_nocturn_code_operations)], narrowed := true }
def JobDemandsUptoSaid : Prop := jobDemandsUptoRow.holds Tryz.pinned (OpenSpec.upto jobDemandsSpec)

end Rows
end Go.Proofs.YtlppfocoonnpjabGreatDoor
