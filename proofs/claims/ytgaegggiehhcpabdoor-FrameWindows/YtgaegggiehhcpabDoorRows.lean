/-
  NARROWER THAN 'FOR EVERY INPUT', by the rows' own cells (each row's printed sentence says how): Frames: laid · FrameCounts: laid · FrameHyper: laid · FrameForms: laid · FrameWindows: laid.
  DERIVED. THE GIVEN ROWS OF THIS SEAT. 5 by the template 'for every input the law returns true; each argument reads behind the call as it read before'; 0 by the template 'total and deterministic' (their statements: YtgaegggiehhcpabDoorTotals.lean).
  GIVEN WITH THE SEED: the statements are not yours to turn. If you find one false, say at which input.
  Laid BY PROGRAM, IN A SANDBOX (cutbox-rows.mjs): the forced cells as the released guide's own fill.sh prints them over the translation 1b2386fa6adf865f… (all of the seat's roots in one cut). By AI agents, Wed Nov 11 2026. No macro, syntax, notation, axiom, sorry.
-/
import Derived.Test.YtgaegggiehhcpabDoorChecked
import GoSem.Claim
import GoSem.ClaimJoined
import GoSem.ClaimMapViews
import Derived.JoinedTies
import Derived.KernelRfl
namespace Go.Proofs.YtgaegggiehhcpabDoor
/- THE CELL 'sum', in the pinned program and in every row, IS THE sha256 OF THE DUMP (.gsa) THAT YtgaegggiehhcpabDoorProg.lean LOADS. Nothing in Lean hashes anything: it is a label: what it is worth is what the hold of that sum in a sandbox is worth. -/
noncomputable def Tryd.pinned : Pinned := { name := "ytgaegggiehhcpabdoor", sum := "1b2386fa6adf865f1eb69ca23aacacc7c91dd3c4e656711dbe3358a47b20a99d", checked := Tryd.checked }
namespace Rows
def none {H : Type} : Left H := { results := [], args := [] }

/- WHAT THE LISTED PACKAGE-LEVEL VARIABLES READ AS WHEN THE CALL BEGINS. Each datum BY PROGRAM (the guide's laid-datum.mjs) off the statement by which the dump's own 'gosem.cut.vars' lays the variable. In a bare row this is a premise. The card (YtgaegggiehhcpabDoorCards.lean) ties it to the program's text. -/
def laid_nocturn_code_operations {H : Type} : DataW H := .agg [.agg [.lit (.string [110, 111, 112]), .lit (.int .i64 1)], .agg [.lit (.string [99, 111, 110, 115, 116]), .lit (.int .i64 256)], .agg [.lit (.string [108, 111, 97, 100]), .lit (.int .i64 16)], .agg [.lit (.string [115, 116, 111, 114, 101]), .lit (.int .i64 16)], .agg [.lit (.string [97, 100, 100]), .lit (.int .i64 16)], .agg [.lit (.string [115, 117, 98]), .lit (.int .i64 16)], .agg [.lit (.string [106, 117, 109, 112]), .lit (.int .i64 (-1))], .agg [.lit (.string [122, 101, 114, 111]), .lit (.int .i64 (-1))], .agg [.lit (.string [105, 110]), .lit (.int .i64 1)], .agg [.lit (.string [111, 117, 116]), .lit (.int .i64 8)], .agg [.lit (.string [103, 101, 116]), .lit (.int .i64 8)], .agg [.lit (.string [104, 97, 108, 116]), .lit (.int .i64 1)]]

/-- 'nocturnlaw6.Frames': WHATEVER THE INPUT: true; the input reads as it did. -/
def framesSpec : ChangeSpec := { name := "frames", fn := fun _ => fun
  | [d1, d2, d3] => { results := [.lit (.bool true)], args := [d1, d2, d3] }
  | _ => none }
def framesRow : OpenClaim := { program := "ytgaegggiehhcpabdoor", sum := "1b2386fa6adf865f1eb69ca23aacacc7c91dd3c4e656711dbe3358a47b20a99d", func := "nocturn/nocturnlaw6.Frames", spec := "frames", unfollowed := true, recurses := true, named := ["nocturn/code.operations"], apart := false, laid := [("nocturn/code.operations", laid_nocturn_code_operations)] }
def FramesSaid : Prop := framesRow.holds Tryd.pinned (OpenSpec.ofChange framesSpec)

/-- ITS FALSE NEIGHBOUR: 'it returns false'. Refute it at one input. -/
def framesWrong : ChangeSpec := { name := "frames", fn := fun _ => fun
  | [d1, d2, d3] => { results := [.lit (.bool false)], args := [d1, d2, d3] }
  | _ => none }
def FramesWrongFalsely : Prop := framesRow.holds Tryd.pinned (OpenSpec.ofChange framesWrong)

/-- 'nocturnlaw6.FrameCounts': WHATEVER THE INPUT: true; the input reads as it did. -/
def frameCountsSpec : ChangeSpec := { name := "frameCounts", fn := fun _ => fun
  | [d1, d2] => { results := [.lit (.bool true)], args := [d1, d2] }
  | _ => none }
def frameCountsRow : OpenClaim := { program := "ytgaegggiehhcpabdoor", sum := "1b2386fa6adf865f1eb69ca23aacacc7c91dd3c4e656711dbe3358a47b20a99d", func := "nocturn/nocturnlaw6.FrameCounts", spec := "frameCounts", unfollowed := true, recurses := true, named := ["nocturn/code.operations"], apart := false, laid := [("nocturn/code.operations", laid_nocturn_code_operations)] }
def FrameCountsSaid : Prop := frameCountsRow.holds Tryd.pinned (OpenSpec.ofChange frameCountsSpec)

/-- ITS FALSE NEIGHBOUR: 'it returns false'. Refute it at one input. -/
def frameCountsWrong : ChangeSpec := { name := "frameCounts", fn := fun _ => fun
  | [d1, d2] => { results := [.lit (.bool false)], args := [d1, d2] }
  | _ => none }
def FrameCountsWrongFalsely : Prop := frameCountsRow.holds Tryd.pinned (OpenSpec.ofChange frameCountsWrong)

/-- 'nocturnlaw6.FrameHyper': WHATEVER THE INPUT: true; the input reads as it did. -/
def frameHyperSpec : ChangeSpec := { name := "frameHyper", fn := fun _ => fun
  | [d] => { results := [.lit (.bool true)], args := [d] }
  | _ => none }
def frameHyperRow : OpenClaim := { program := "ytgaegggiehhcpabdoor", sum := "1b2386fa6adf865f1eb69ca23aacacc7c91dd3c4e656711dbe3358a47b20a99d", func := "nocturn/nocturnlaw6.FrameHyper", spec := "frameHyper", unfollowed := true, recurses := true, named := ["nocturn/code.operations"], apart := false, laid := [("nocturn/code.operations", laid_nocturn_code_operations)] }
def FrameHyperSaid : Prop := frameHyperRow.holds Tryd.pinned (OpenSpec.ofChange frameHyperSpec)

/-- ITS FALSE NEIGHBOUR: 'it returns false'. Refute it at one input. -/
def frameHyperWrong : ChangeSpec := { name := "frameHyper", fn := fun _ => fun
  | [d] => { results := [.lit (.bool false)], args := [d] }
  | _ => none }
def FrameHyperWrongFalsely : Prop := frameHyperRow.holds Tryd.pinned (OpenSpec.ofChange frameHyperWrong)

/-- 'nocturnlaw6.FrameForms': WHATEVER THE INPUT: true; the input reads as it did. -/
def frameFormsSpec : ChangeSpec := { name := "frameForms", fn := fun _ => fun
  | [d1, d2] => { results := [.lit (.bool true)], args := [d1, d2] }
  | _ => none }
def frameFormsRow : OpenClaim := { program := "ytgaegggiehhcpabdoor", sum := "1b2386fa6adf865f1eb69ca23aacacc7c91dd3c4e656711dbe3358a47b20a99d", func := "nocturn/nocturnlaw6.FrameForms", spec := "frameForms", unfollowed := true, recurses := true, named := ["nocturn/code.operations"], apart := false, laid := [("nocturn/code.operations", laid_nocturn_code_operations)] }
def FrameFormsSaid : Prop := frameFormsRow.holds Tryd.pinned (OpenSpec.ofChange frameFormsSpec)

/-- ITS FALSE NEIGHBOUR: 'it returns false'. Refute it at one input. -/
def frameFormsWrong : ChangeSpec := { name := "frameForms", fn := fun _ => fun
  | [d1, d2] => { results := [.lit (.bool false)], args := [d1, d2] }
  | _ => none }
def FrameFormsWrongFalsely : Prop := frameFormsRow.holds Tryd.pinned (OpenSpec.ofChange frameFormsWrong)

/-- 'nocturnlaw6.FrameWindows': WHATEVER THE INPUT: true; the input reads as it did. -/
def frameWindowsSpec : ChangeSpec := { name := "frameWindows", fn := fun _ => fun
  | [d1, d2, d3] => { results := [.lit (.bool true)], args := [d1, d2, d3] }
  | _ => none }
def frameWindowsRow : OpenClaim := { program := "ytgaegggiehhcpabdoor", sum := "1b2386fa6adf865f1eb69ca23aacacc7c91dd3c4e656711dbe3358a47b20a99d", func := "nocturn/nocturnlaw6.FrameWindows", spec := "frameWindows", unfollowed := true, recurses := true, named := ["nocturn/code.operations"], apart := false, laid := [("nocturn/code.operations", laid_nocturn_code_operations)] }
def FrameWindowsSaid : Prop := frameWindowsRow.holds Tryd.pinned (OpenSpec.ofChange frameWindowsSpec)

/-- ITS FALSE NEIGHBOUR: 'it returns false'. Refute it at one input. -/
def frameWindowsWrong : ChangeSpec := { name := "frameWindows", fn := fun _ => fun
  | [d1, d2, d3] => { results := [.lit (.bool false)], args := [d1, d2, d3] }
  | _ => none }
def FrameWindowsWrongFalsely : Prop := frameWindowsRow.holds Tryd.pinned (OpenSpec.ofChange frameWindowsWrong)

/- THE SECOND FORM. 'bulk': how many values and letters a reading holds, each counted each time it is reached (what is shared counts as often as it is met; a slice's spare places count too). A statement '..UptoSaid' is the law's where the arguments, and the package variables that the reading takes, are together of bulk at most 1048576: NARROWER than '..Said'. Prove '..Said' where nothing that the law and all that it calls make is longer than what came in: it says more and counts as full. Else prove '..UptoSaid'. A law counts once. -/
mutual
def uptoBulk {H : Type} : DataW H → Nat
  | .lit (.string bytes) => bytes.length + 1
  | .lit _ => 1
  | .nil => 1
  | .ptr d => uptoBulk d + 1
  | .slice elems spare => uptoBulkAll elems + uptoBulkAll spare + 1
  | .agg parts => uptoBulkAll parts + 1
  | .iface _ d => uptoBulk d + 1
  | .map entries => uptoBulkEntries entries + 1
  | .held _ => 1
def uptoBulkAll {H : Type} : List (DataW H) → Nat
  | [] => 0
  | d :: r => uptoBulk d + uptoBulkAll r
def uptoBulkEntries {H : Type} : List (Lit × DataW H) → Nat
  | [] => 0
  | x :: r => uptoBulkEntry x + uptoBulkEntries r
def uptoBulkEntry {H : Type} : Lit × DataW H → Nat
  | (.string bytes, d) => bytes.length + uptoBulk d + 1
  | (_, d) => uptoBulk d + 1
 end
def uptoSmall : (H : Type) → List (DataW H) → Bool := fun _ ds => decide (uptoBulkAll ds ≤ 1048576)
def OpenSpec.upto (s : _root_.Go.ChangeSpec) : _root_.Go.OpenSpec := { _root_.Go.OpenSpec.ofChange s with cond := some uptoSmall }

/-- 'nocturnlaw6.Frames', WHERE WHAT IT READS IS OF BULK AT MOST 1048576: true; the input reads as it did. -/
def framesUptoRow : OpenClaim := { program := "ytgaegggiehhcpabdoor", sum := "1b2386fa6adf865f1eb69ca23aacacc7c91dd3c4e656711dbe3358a47b20a99d", func := "nocturn/nocturnlaw6.Frames", spec := "frames", unfollowed := true, recurses := true, named := ["nocturn/code.operations"], apart := false, laid := [("nocturn/code.operations", laid_nocturn_code_operations)], narrowed := true }
def FramesUptoSaid : Prop := framesUptoRow.holds Tryd.pinned (OpenSpec.upto framesSpec)

/-- 'nocturnlaw6.FrameCounts', WHERE WHAT IT READS IS OF BULK AT MOST 1048576: true; the input reads as it did. -/
def frameCountsUptoRow : OpenClaim := { program := "ytgaegggiehhcpabdoor", sum := "1b2386fa6adf865f1eb69ca23aacacc7c91dd3c4e656711dbe3358a47b20a99d", func := "nocturn/nocturnlaw6.FrameCounts", spec := "frameCounts", unfollowed := true, recurses := true, named := ["nocturn/code.operations"], apart := false, laid := [("nocturn/code.operations", laid_nocturn_code_operations)], narrowed := true }
def FrameCountsUptoSaid : Prop := frameCountsUptoRow.holds Tryd.pinned (OpenSpec.upto frameCountsSpec)

/-- 'nocturnlaw6.FrameHyper', WHERE WHAT IT READS IS OF BULK AT MOST 1048576: true; the input reads as it did. -/
def frameHyperUptoRow : OpenClaim := { program := "ytgaegggiehhcpabdoor", sum := "1b2386fa6adf865f1eb69ca23aacacc7c91dd3c4e656711dbe3358a47b20a99d", func := "nocturn/nocturnlaw6.FrameHyper", spec := "frameHyper", unfollowed := true, recurses := true, named := ["nocturn/code.operations"], apart := false, laid := [("nocturn/code.operations", laid_nocturn_code_operations)], narrowed := true }
def FrameHyperUptoSaid : Prop := frameHyperUptoRow.holds Tryd.pinned (OpenSpec.upto frameHyperSpec)

/-- 'nocturnlaw6.FrameForms', WHERE WHAT IT READS IS OF BULK AT MOST 1048576: true; the input reads as it did. -/
def frameFormsUptoRow : OpenClaim := { program := "ytgaegggiehhcpabdoor", sum := "1b2386fa6adf865f1eb69ca23aacacc7c91dd3c4e656711dbe3358a47b20a99d", func := "nocturn/nocturnlaw6.FrameForms", spec := "frameForms", unfollowed := true, recurses := true, named := ["nocturn/code.operations"], apart := false, laid := [("nocturn/code.operations", laid_nocturn_code_operations)], narrowed := true }
def FrameFormsUptoSaid : Prop := frameFormsUptoRow.holds Tryd.pinned (OpenSpec.upto frameFormsSpec)

/-- 'nocturnlaw6.FrameWindows', WHERE WHAT IT READS IS OF BULK AT MOST 1048576: true; the input reads as it did. -/
def frameWindowsUptoRow : OpenClaim := { program := "ytgaegggiehhcpabdoor", sum := "1b2386fa6adf865f1eb69ca23aacacc7c91dd3c4e656711dbe3358a47b20a99d", func := "nocturn/nocturnlaw6.FrameWindows", spec := "frameWindows", unfollowed := true, recurses := true, named := ["nocturn/code.operations"], apart := false, laid := [("nocturn/code.operations", laid_nocturn_code_operations)], narrowed := true }
def FrameWindowsUptoSaid : Prop := frameWindowsUptoRow.holds Tryd.pinned (OpenSpec.upto frameWindowsSpec)

end Rows
end Go.Proofs.YtgaegggiehhcpabDoor
