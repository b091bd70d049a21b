/-
  NARROWER THAN 'FOR EVERY INPUT', by the rows' own cells (each row's printed sentence says how): Configs: laid · Frames: laid · FrameWindows: laid · Supplies: laid · SupplyLeast: laid · SupplyWhole: laid.
  DERIVED. THE GIVEN ROWS OF THIS SEAT. 6 by the template 'for every input the law returns true; each argument reads behind the call as it read before'; 0 by the template 'total and deterministic' (their statements: YtgocfgjdafkjlaaDoorTotals.lean).
  GIVEN WITH THE SEED: the statements are not yours to turn. If you find one false, say at which input.
  Laid BY PROGRAM, IN A SANDBOX (cutbox-rows.mjs): the forced cells as the released guide's own fill.sh prints them over the translation 0ebeb1a71d70bf26… (all of the seat's roots in one cut). By AI agents, Wed Nov 11 2026. No macro, syntax, notation, axiom, sorry.
-/
import Derived.Test.YtgocfgjdafkjlaaDoorChecked
import GoSem.Claim
import GoSem.ClaimJoined
import GoSem.ClaimMapViews
import Derived.JoinedTies
import Derived.KernelRfl
namespace Go.Proofs.YtgocfgjdafkjlaaDoor
/- THE CELL 'sum', in the pinned program and in every row, IS THE sha256 OF THE DUMP (.gsa) THAT YtgocfgjdafkjlaaDoorProg.lean LOADS. Nothing in Lean hashes anything: it is a label: what it is worth is what the hold of that sum in a sandbox is worth. -/
noncomputable def Tryd.pinned : Pinned := { name := "ytgocfgjdafkjlaadoor", sum := "0ebeb1a71d70bf26ad7633219e671460944c0615cc4682837bced9f3934798fc", checked := Tryd.checked }
namespace Rows
def none {H : Type} : Left H := { results := [], args := [] }

/- WHAT THE LISTED PACKAGE-LEVEL VARIABLES READ AS WHEN THE CALL BEGINS. Each datum BY PROGRAM (the guide's laid-datum.mjs) off the statement by which the dump's own 'gosem.cut.vars' lays the variable. In a bare row this is a premise. The card (YtgocfgjdafkjlaaDoorCards.lean) ties it to the program's text. -/
def laid_nocturn_code_operations {H : Type} : DataW H := .agg [.agg [.lit (.string [110, 111, 112]), .lit (.int .i64 1)], .agg [.lit (.string [99, 111, 110, 115, 116]), .lit (.int .i64 256)], .agg [.lit (.string [108, 111, 97, 100]), .lit (.int .i64 16)], .agg [.lit (.string [115, 116, 111, 114, 101]), .lit (.int .i64 16)], .agg [.lit (.string [97, 100, 100]), .lit (.int .i64 16)], .agg [.lit (.string [115, 117, 98]), .lit (.int .i64 16)], .agg [.lit (.string [106, 117, 109, 112]), .lit (.int .i64 (-1))], .agg [.lit (.string [122, 101, 114, 111]), .lit (.int .i64 (-1))], .agg [.lit (.string [105, 110]), .lit (.int .i64 1)], .agg [.lit (.string [111, 117, 116]), .lit (.int .i64 8)], .agg [.lit (.string [103, 101, 116]), .lit (.int .i64 8)], .agg [.lit (.string [104, 97, 108, 116]), .lit (.int .i64 1)]]

/-- 'nocturnlaw5.Configs': WHATEVER THE INPUT: true; the input reads as it did. -/
def configsSpec : ChangeSpec := { name := "configs", fn := fun _ => fun
  | [d1, d2] => { results := [.lit (.bool true)], args := [d1, d2] }
  | _ => none }
def configsRow : OpenClaim := { program := "ytgocfgjdafkjlaadoor", sum := "0ebeb1a71d70bf26ad7633219e671460944c0615cc4682837bced9f3934798fc", func := "nocturn/nocturnlaw5.Configs", spec := "configs", unfollowed := true, recurses := true, named := ["nocturn/code.operations"], apart := false, laid := [("nocturn/code.operations", laid_nocturn_code_operations)] }
def ConfigsSaid : Prop := configsRow.holds Tryd.pinned (OpenSpec.ofChange configsSpec)

/-- ITS FALSE NEIGHBOUR: 'it returns false'. Refute it at one input. -/
def configsWrong : ChangeSpec := { name := "configs", fn := fun _ => fun
  | [d1, d2] => { results := [.lit (.bool false)], args := [d1, d2] }
  | _ => none }
def ConfigsWrongFalsely : Prop := configsRow.holds Tryd.pinned (OpenSpec.ofChange configsWrong)

/-- 'nocturnlaw6.Frames': WHATEVER THE INPUT: true; the input reads as it did. -/
def framesSpec : ChangeSpec := { name := "frames", fn := fun _ => fun
  | [d1, d2, d3] => { results := [.lit (.bool true)], args := [d1, d2, d3] }
  | _ => none }
def framesRow : OpenClaim := { program := "ytgocfgjdafkjlaadoor", sum := "0ebeb1a71d70bf26ad7633219e671460944c0615cc4682837bced9f3934798fc", func := "nocturn/nocturnlaw6.Frames", spec := "frames", unfollowed := true, recurses := true, named := ["nocturn/code.operations"], apart := false, laid := [("nocturn/code.operations", laid_nocturn_code_operations)] }
def FramesSaid : Prop := framesRow.holds Tryd.pinned (OpenSpec.ofChange framesSpec)

/-- ITS FALSE NEIGHBOUR: 'it returns false'. Refute it at one input. -/
def framesWrong : ChangeSpec := { name := "frames", fn := fun _ => fun
  | [d1, d2, d3] => { results := [.lit (.bool false)], args := [d1, d2, d3] }
  | _ => none }
def FramesWrongFalsely : Prop := framesRow.holds Tryd.pinned (OpenSpec.ofChange framesWrong)

/-- 'nocturnlaw6.FrameWindows': WHATEVER THE INPUT: true; the input reads as it did. -/
def frameWindowsSpec : ChangeSpec := { name := "frameWindows", fn := fun _ => fun
  | [d1, d2, d3] => { results := [.lit (.bool true)], args := [d1, d2, d3] }
  | _ => none }
def frameWindowsRow : OpenClaim := { program := "ytgocfgjdafkjlaadoor", sum := "0ebeb1a71d70bf26ad7633219e671460944c0615cc4682837bced9f3934798fc", func := "nocturn/nocturnlaw6.FrameWindows", spec := "frameWindows", unfollowed := true, recurses := true, named := ["nocturn/code.operations"], apart := false, laid := [("nocturn/code.operations", laid_nocturn_code_operations)] }
def FrameWindowsSaid : Prop := frameWindowsRow.holds Tryd.pinned (OpenSpec.ofChange frameWindowsSpec)

/-- ITS FALSE NEIGHBOUR: 'it returns false'. Refute it at one input. -/
def frameWindowsWrong : ChangeSpec := { name := "frameWindows", fn := fun _ => fun
  | [d1, d2, d3] => { results := [.lit (.bool false)], args := [d1, d2, d3] }
  | _ => none }
def FrameWindowsWrongFalsely : Prop := frameWindowsRow.holds Tryd.pinned (OpenSpec.ofChange frameWindowsWrong)

/-- 'nocturnlaw7.Supplies': WHATEVER THE INPUT: true; the input reads as it did. -/
def suppliesSpec : ChangeSpec := { name := "supplies", fn := fun _ => fun
  | [d1, d2, d3] => { results := [.lit (.bool true)], args := [d1, d2, d3] }
  | _ => none }
def suppliesRow : OpenClaim := { program := "ytgocfgjdafkjlaadoor", sum := "0ebeb1a71d70bf26ad7633219e671460944c0615cc4682837bced9f3934798fc", func := "nocturn/nocturnlaw7.Supplies", spec := "supplies", unfollowed := true, recurses := true, named := ["nocturn/code.operations"], apart := false, laid := [("nocturn/code.operations", laid_nocturn_code_operations)] }
def SuppliesSaid : Prop := suppliesRow.holds Tryd.pinned (OpenSpec.ofChange suppliesSpec)

/-- ITS FALSE NEIGHBOUR: 'it returns false'. Refute it at one input. -/
def suppliesWrong : ChangeSpec := { name := "supplies", fn := fun _ => fun
  | [d1, d2, d3] => { results := [.lit (.bool false)], args := [d1, d2, d3] }
  | _ => none }
def SuppliesWrongFalsely : Prop := suppliesRow.holds Tryd.pinned (OpenSpec.ofChange suppliesWrong)

/-- 'nocturnlaw7.SupplyLeast': WHATEVER THE INPUT: true; the input reads as it did. -/
def supplyLeastSpec : ChangeSpec := { name := "supplyLeast", fn := fun _ => fun
  | [d1, d2, d3, d4] => { results := [.lit (.bool true)], args := [d1, d2, d3, d4] }
  | _ => none }
def supplyLeastRow : OpenClaim := { program := "ytgocfgjdafkjlaadoor", sum := "0ebeb1a71d70bf26ad7633219e671460944c0615cc4682837bced9f3934798fc", func := "nocturn/nocturnlaw7.SupplyLeast", spec := "supplyLeast", unfollowed := true, recurses := true, named := ["nocturn/code.operations"], apart := false, laid := [("nocturn/code.operations", laid_nocturn_code_operations)] }
def SupplyLeastSaid : Prop := supplyLeastRow.holds Tryd.pinned (OpenSpec.ofChange supplyLeastSpec)

/-- ITS FALSE NEIGHBOUR: 'it returns false'. Refute it at one input. -/
def supplyLeastWrong : ChangeSpec := { name := "supplyLeast", fn := fun _ => fun
  | [d1, d2, d3, d4] => { results := [.lit (.bool false)], args := [d1, d2, d3, d4] }
  | _ => none }
def SupplyLeastWrongFalsely : Prop := supplyLeastRow.holds Tryd.pinned (OpenSpec.ofChange supplyLeastWrong)

/-- 'nocturnlaw7.SupplyWhole': WHATEVER THE INPUT: true; the input reads as it did. -/
def supplyWholeSpec : ChangeSpec := { name := "supplyWhole", fn := fun _ => fun
  | [d1, d2, d3, d4] => { results := [.lit (.bool true)], args := [d1, d2, d3, d4] }
  | _ => none }
def supplyWholeRow : OpenClaim := { program := "ytgocfgjdafkjlaadoor", sum := "0ebeb1a71d70bf26ad7633219e671460944c0615cc4682837bced9f3934798fc", func := "nocturn/nocturnlaw7.SupplyWhole", spec := "supplyWhole", unfollowed := true, recurses := true, named := ["nocturn/code.operations"], apart := false, laid := [("nocturn/code.operations", laid_nocturn_code_operations)] }
def SupplyWholeSaid : Prop := supplyWholeRow.holds Tryd.pinned (OpenSpec.ofChange supplyWholeSpec)

/-- ITS FALSE NEIGHBOUR: 'it returns false'. Refute it at one input. -/
def supplyWholeWrong : ChangeSpec := { name := "supplyWhole", fn := fun _ => fun
  | [d1, d2, d3, d4] => { results := [.lit (.bool false)], args := [d1, d2, d3, d4] }
  | _ => none }
def SupplyWholeWrongFalsely : Prop := supplyWholeRow.holds Tryd.pinned (OpenSpec.ofChange supplyWholeWrong)

/- THE SECOND FORM. 'bulk': how many values and letters a reading holds, each counted each time it is reached (what is shared counts as often as it is met; a slice's spare places count too). A statement '..UptoSaid' is the law's where the arguments, and the package variables that the reading takes, are together of bulk at most 1048576: NARROWER than '..Said'. Prove '..Said' where nothing that the law and all that it calls make is longer than what came in: it says more and counts as full. Else prove '..UptoSaid'. A law counts once. -/
mutual
def uptoBulk {H : Type} : DataW H → Nat
  | .lit (.string bytes) => bytes.length + 1
  | .lit _ => 1
  | .nil => 1
  | .ptr d => uptoBulk d + 1
  | .slice elems spare => uptoBulkAll elems + uptoBulkAll spare + 1
  | .agg parts => uptoBulkAll parts + 1
  | .iface _ d => uptoBulk d + 1
  | .map entries => uptoBulkEntries entries + 1
  | .held _ => 1
def uptoBulkAll {H : Type} : List (DataW H) → Nat
  | [] => 0
  | d :: r => uptoBulk d + uptoBulkAll r
def uptoBulkEntries {H : Type} : List (Lit × DataW H) → Nat
  | [] => 0
  | x :: r => uptoBulkEntry x + uptoBulkEntries r
def uptoBulkEntry {H : Type} : Lit × DataW H → Nat
  | (.string bytes, d) => bytes.length + uptoBulk d + 1
  | (_, d) => uptoBulk d + 1
 end
def uptoSmall : (H : Type) → List (DataW H) → Bool := fun _ ds => decide (uptoBulkAll ds ≤ 1048576)
def OpenSpec.upto (s : _root_.Go.ChangeSpec) : _root_.Go.OpenSpec := { _root_.Go.OpenSpec.ofChange s with cond := some uptoSmall }

/-- 'nocturnlaw5.Configs', WHERE WHAT IT READS IS OF BULK AT MOST 1048576: true; the input reads as it did. -/
def configsUptoRow : OpenClaim := { program := "ytgocfgjdafkjlaadoor", sum := "0ebeb1a71d70bf26ad7633219e671460944c0615cc4682837bced9f3934798fc", func := "nocturn/nocturnlaw5.Configs", spec := "configs", unfollowed := true, recurses := true, named := ["nocturn/code.operations"], apart := false, laid := [("nocturn/code.operations", laid_nocturn_code_operations)], narrowed := true }
def ConfigsUptoSaid : Prop := configsUptoRow.holds Tryd.pinned (OpenSpec.upto configsSpec)

/-- 'nocturnlaw6.Frames', WHERE WHAT IT READS IS OF BULK AT MOST 1048576: true; the input reads as it did. -/
def framesUptoRow : OpenClaim := { program := "ytgocfgjdafkjlaadoor", sum := "0ebeb1a71d70bf26ad7633219e671460944c0615cc4682837bced9f3934798fc", func := "nocturn/nocturnlaw6.Frames", spec := "frames", unfollowed := true, recurses := true, named := ["nocturn/code.operations"], apart := false, laid := [("nocturn/code.operations", laid_nocturn_code_operations)], narrowed := true }
def FramesUptoSaid : Prop := framesUptoRow.holds Tryd.pinned (OpenSpec.upto framesSpec)

/-- 'nocturnlaw6.FrameWindows', WHERE WHAT IT READS IS OF BULK AT MOST 1048576: true; the input reads as it did. -/
def frameWindowsUptoRow : OpenClaim := { program := "ytgocfgjdafkjlaadoor", sum := "0ebeb1a71d70bf26ad7633219e671460944c0615cc4682837bced9f3934798fc", func := "nocturn/nocturnlaw6.FrameWindows", spec := "frameWindows", unfollowed := true, recurses := true, named := ["nocturn/code.operations"], apart := false, laid := [("nocturn/code.operations", laid_nocturn_code_operations)], narrowed := true }
def FrameWindowsUptoSaid : Prop := frameWindowsUptoRow.holds Tryd.pinned (OpenSpec.upto frameWindowsSpec)

/-- 'nocturnlaw7.Supplies', WHERE WHAT IT READS IS OF BULK AT MOST 1048576: true; the input reads as it did. -/
def suppliesUptoRow : OpenClaim := { program := "ytgocfgjdafkjlaadoor", sum := "0ebeb1a71d70bf26ad7633219e671460944c0615cc4682837bced9f3934798fc", func := "nocturn/nocturnlaw7.Supplies", spec := "supplies", unfollowed := true, recurses := true, named := ["nocturn/code.operations"], apart := false, laid := [("nocturn/code.operations", laid_nocturn_code_operations)], narrowed := true }
def SuppliesUptoSaid : Prop := suppliesUptoRow.holds Tryd.pinned (OpenSpec.upto suppliesSpec)

/-- 'nocturnlaw7.SupplyLeast', WHERE WHAT IT READS IS OF BULK AT MOST 1048576: true; the input reads as it did. -/
def supplyLeastUptoRow : OpenClaim := { program := "ytgocfgjdafkjlaadoor", sum := "0ebeb1a71d70bf26ad7633219e671460944c0615cc4682837bced9f3934798fc", func := "nocturn/nocturnlaw7.SupplyLeast", spec := "supplyLeast", unfollowed := true, recurses := true, named := ["nocturn/code.operations"], apart := false, laid := [("nocturn/code.operations", laid_nocturn_code_operations)], narrowed := true }
def SupplyLeastUptoSaid : Prop := supplyLeastUptoRow.holds Tryd.pinned (OpenSpec.upto supplyLeastSpec)

/-- 'nocturnlaw7.SupplyWhole', WHERE WHAT IT READS IS OF BULK AT MOST 1048576: true; the input reads as it did. -/
def supplyWholeUptoRow : OpenClaim := { program := "ytgocfgjdafkjlaadoor", sum := "0ebeb1a71d70bf26ad7633219e671460944c0615cc4682837bced9f3934798fc", func := "nocturn/nocturnlaw7.SupplyWhole", spec := "supplyWhole", unfollowed := true, recurses := true, named := ["nocturn/code.operations"], apart := false, laid := [("nocturn/code.operations", laid_nocturn_code_operations)], narrowed := true }
def SupplyWholeUptoSaid : Prop := supplyWholeUptoRow.holds Tryd.pinned (OpenSpec.upto supplyWholeSpec)

end Rows
end Go.Proofs.YtgocfgjdafkjlaaDoor
