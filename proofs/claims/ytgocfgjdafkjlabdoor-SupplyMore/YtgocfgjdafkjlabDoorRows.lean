/-
  NARROWER THAN 'FOR EVERY INPUT', by the rows' own cells (each row's printed sentence says how): SupplyForms: laid · SupplyMore: laid · SupplyOne: laid.
  DERIVED. THE GIVEN ROWS OF THIS SEAT. 3 by the template 'for every input the law returns true; each argument reads behind the call as it read before'; 0 by the template 'total and deterministic' (their statements: YtgocfgjdafkjlabDoorTotals.lean).
  GIVEN WITH THE SEED: the statements are not yours to turn. If you find one false, say at which input.
  Laid BY PROGRAM, IN A SANDBOX (cutbox-rows.mjs): the forced cells as the released guide's own fill.sh prints them over the translation d8f653f2e74a906e… (all of the seat's roots in one cut). By AI agents, Wed Nov 11 2026. No macro, syntax, notation, axiom, sorry.
-/
import Derived.Test.YtgocfgjdafkjlabDoorChecked
import GoSem.Claim
import GoSem.ClaimJoined
import GoSem.ClaimMapViews
import Derived.JoinedTies
import Derived.KernelRfl
namespace Go.Proofs.YtgocfgjdafkjlabDoor
/- THE CELL 'sum', in the pinned program and in every row, IS THE sha256 OF THE DUMP (.gsa) THAT YtgocfgjdafkjlabDoorProg.lean LOADS. Nothing in Lean hashes anything: it is a label: what it is worth is what the hold of that sum in a sandbox is worth. -/
noncomputable def Tryd.pinned : Pinned := { name := "ytgocfgjdafkjlabdoor", sum := "d8f653f2e74a906ee4b9c851a4fde735cbd4b1f5caf9e9381496408a806f8d03", checked := Tryd.checked }
namespace Rows
def none {H : Type} : Left H := { results := [], args := [] }

/- WHAT THE LISTED PACKAGE-LEVEL VARIABLES READ AS WHEN THE CALL BEGINS. Each datum BY PROGRAM (the guide's laid-datum.mjs) off the statement by which the dump's own 'gosem.cut.vars' lays the variable. In a bare row this is a premise. The card (YtgocfgjdafkjlabDoorCards.lean) ties it to the program's text. -/
def laid_nocturn_code_operations {H : Type} : DataW H := .agg [.agg [.lit (.string [110, 111, 112]), .lit (.int .i64 1)], .agg [.lit (.string [99, 111, 110, 115, 116]), .lit (.int .i64 256)], .agg [.lit (.string [108, 111, 97, 100]), .lit (.int .i64 16)], .agg [.lit (.string [115, 116, 111, 114, 101]), .lit (.int .i64 16)], .agg [.lit (.string [97, 100, 100]), .lit (.int .i64 16)], .agg [.lit (.string [115, 117, 98]), .lit (.int .i64 16)], .agg [.lit (.string [106, 117, 109, 112]), .lit (.int .i64 (-1))], .agg [.lit (.string [122, 101, 114, 111]), .lit (.int .i64 (-1))], .agg [.lit (.string [105, 110]), .lit (.int .i64 1)], .agg [.lit (.string [111, 117, 116]), .lit (.int .i64 8)], .agg [.lit (.string [103, 101, 116]), .lit (.int .i64 8)], .agg [.lit (.string [104, 97, 108, 116]), .lit (.int .i64 1)]]

/-- 'nocturnlaw7.SupplyForms': WHATEVER THE INPUT: true; the input reads as it did. -/
def supplyFormsSpec : ChangeSpec := { name := "supplyForms", fn := fun _ => fun
  | [d1, d2] => { results := [.lit (.bool true)], args := [d1, d2] }
  | _ => none }
def supplyFormsRow : OpenClaim := { program := "ytgocfgjdafkjlabdoor", sum := "d8f653f2e74a906ee4b9c851a4fde735cbd4b1f5caf9e9381496408a806f8d03", func := "nocturn/nocturnlaw7.SupplyForms", spec := "supplyForms", unfollowed := true, recurses := true, named := ["nocturn/code.operations"], apart := false, laid := [("nocturn/code.operations", laid_nocturn_code_operations)] }
def SupplyFormsSaid : Prop := supplyFormsRow.holds Tryd.pinned (OpenSpec.ofChange supplyFormsSpec)

/-- ITS FALSE NEIGHBOUR: 'it returns false'. Refute it at one input. -/
def supplyFormsWrong : ChangeSpec := { name := "supplyForms", fn := fun _ => fun
  | [d1, d2] => { results := [.lit (.bool false)], args := [d1, d2] }
  | _ => none }
def SupplyFormsWrongFalsely : Prop := supplyFormsRow.holds Tryd.pinned (OpenSpec.ofChange supplyFormsWrong)

/-- 'nocturnlaw7.SupplyMore': WHATEVER THE INPUT: true; the input reads as it did. -/
def supplyMoreSpec : ChangeSpec := { name := "supplyMore", fn := fun _ => fun
  | [d1, d2, d3, d4] => { results := [.lit (.bool true)], args := [d1, d2, d3, d4] }
  | _ => none }
def supplyMoreRow : OpenClaim := { program := "ytgocfgjdafkjlabdoor", sum := "d8f653f2e74a906ee4b9c851a4fde735cbd4b1f5caf9e9381496408a806f8d03", func := "nocturn/nocturnlaw7.SupplyMore", spec := "supplyMore", unfollowed := true, recurses := true, named := ["nocturn/code.operations"], apart := false, laid := [("nocturn/code.operations", laid_nocturn_code_operations)] }
def SupplyMoreSaid : Prop := supplyMoreRow.holds Tryd.pinned (OpenSpec.ofChange supplyMoreSpec)

/-- ITS FALSE NEIGHBOUR: 'it returns false'. Refute it at one input. -/
def supplyMoreWrong : ChangeSpec := { name := "supplyMore", fn := fun _ => fun
  | [d1, d2, d3, d4] => { results := [.lit (.bool false)], args := [d1, d2, d3, d4] }
  | _ => none }
def SupplyMoreWrongFalsely : Prop := supplyMoreRow.holds Tryd.pinned (OpenSpec.ofChange supplyMoreWrong)

/-- 'nocturnlaw7.SupplyOne': WHATEVER THE INPUT: true; the input reads as it did. -/
def supplyOneSpec : ChangeSpec := { name := "supplyOne", fn := fun _ => fun
  | [d1, d2, d3, d4] => { results := [.lit (.bool true)], args := [d1, d2, d3, d4] }
  | _ => none }
def supplyOneRow : OpenClaim := { program := "ytgocfgjdafkjlabdoor", sum := "d8f653f2e74a906ee4b9c851a4fde735cbd4b1f5caf9e9381496408a806f8d03", func := "nocturn/nocturnlaw7.SupplyOne", spec := "supplyOne", unfollowed := true, recurses := true, named := ["nocturn/code.operations"], apart := false, laid := [("nocturn/code.operations", laid_nocturn_code_operations)] }
def SupplyOneSaid : Prop := supplyOneRow.holds Tryd.pinned (OpenSpec.ofChange supplyOneSpec)

/-- ITS FALSE NEIGHBOUR: 'it returns false'. Refute it at one input. -/
def supplyOneWrong : ChangeSpec := { name := "supplyOne", fn := fun _ => fun
  | [d1, d2, d3, d4] => { results := [.lit (.bool false)], args := [d1, d2, d3, d4] }
  | _ => none }
def SupplyOneWrongFalsely : Prop := supplyOneRow.holds Tryd.pinned (OpenSpec.ofChange supplyOneWrong)

/- THE SECOND FORM. 'bulk': how many values and letters a reading holds, each counted each time it is reached (what is shared counts as often as it is met; a slice's spare places count too). A statement '..UptoSaid' is the law's where the arguments, and the package variables that the reading takes, are together of bulk at most 1048576: NARROWER than '..Said'. Prove '..Said' where nothing that the law and all that it calls make is longer than what came in: it says more and counts as full. Else prove '..UptoSaid'. A law counts once. -/
mutual
def uptoBulk {H : Type} : DataW H → Nat
  | .lit (.string bytes) => bytes.length + 1
  | .lit _ => 1
  | .nil => 1
  | .ptr d => uptoBulk d + 1
  | .slice elems spare => uptoBulkAll elems + uptoBulkAll spare + 1
  | .agg parts => uptoBulkAll parts + 1
  | .iface _ d => uptoBulk d + 1
  | .map entries => uptoBulkEntries entries + 1
  | .held _ => 1
def uptoBulkAll {H : Type} : List (DataW H) → Nat
  | [] => 0
  | d :: r => uptoBulk d + uptoBulkAll r
def uptoBulkEntries {H : Type} : List (Lit × DataW H) → Nat
  | [] => 0
  | x :: r => uptoBulkEntry x + uptoBulkEntries r
def uptoBulkEntry {H : Type} : Lit × DataW H → Nat
  | (.string bytes, d) => bytes.length + uptoBulk d + 1
  | (_, d) => uptoBulk d + 1
 end
def uptoSmall : (H : Type) → List (DataW H) → Bool := fun _ ds => decide (uptoBulkAll ds ≤ 1048576)
def OpenSpec.upto (s : _root_.Go.ChangeSpec) : _root_.Go.OpenSpec := { _root_.Go.OpenSpec.ofChange s with cond := some uptoSmall }

/-- 'nocturnlaw7.SupplyForms', WHERE WHAT IT READS IS OF BULK AT MOST 1048576: true; the input reads as it did. -/
def supplyFormsUptoRow : OpenClaim := { program := "ytgocfgjdafkjlabdoor", sum := "d8f653f2e74a906ee4b9c851a4fde735cbd4b1f5caf9e9381496408a806f8d03", func := "nocturn/nocturnlaw7.SupplyForms", spec := "supplyForms", unfollowed := true, recurses := true, named := ["nocturn/code.operations"], apart := false, laid := [("nocturn/code.operations", laid_nocturn_code_operations)], narrowed := true }
def SupplyFormsUptoSaid : Prop := supplyFormsUptoRow.holds Tryd.pinned (OpenSpec.upto supplyFormsSpec)

/-- 'nocturnlaw7.SupplyMore', WHERE WHAT IT READS IS OF BULK AT MOST 1048576: true; the input reads as it did. -/
def supplyMoreUptoRow : OpenClaim := { program := "ytgocfgjdafkjlabdoor", sum := "d8f653f2e74a906ee4b9c851a4fde735cbd4b1f5caf9e9381496408a806f8d03", func := "nocturn/nocturnlaw7.SupplyMore", spec := "supplyMore", unfollowed := true, recurses := true, named := ["nocturn/code.operations"], apart := false, laid := [("nocturn/code.operations", laid_nocturn_code_operations)], narrowed := true }
def SupplyMoreUptoSaid : Prop := supplyMoreUptoRow.holds Tryd.pinned (OpenSpec.upto supplyMoreSpec)

/-- 'nocturnlaw7.SupplyOne', WHERE WHAT IT READS IS OF BULK AT MOST 1048576: true; the input reads as it did. -/
def supplyOneUptoRow : OpenClaim := { program := "ytgocfgjdafkjlabdoor", sum := "d8f653f2e74a906ee4b9c851a4fde735cbd4b1f5caf9e9381496408a806f8d03", func := "nocturn/nocturnlaw7.SupplyOne", spec := "supplyOne", unfollowed := true, recurses := true, named := ["nocturn/code.operations"], apart := false, laid := [("nocturn/code.operations", laid_nocturn_code_operations)], narrowed := true }
def SupplyOneUptoSaid : Prop := supplyOneUptoRow.holds Tryd.pinned (OpenSpec.upto supplyOneSpec)

end Rows
end Go.Proofs.YtgocfgjdafkjlabDoor
