/- The walk of the statement ChargeRun, at both levels; proved over the translation. -/
import Derived.Test.YtabnkmghgkmbmaaLRunHi
import Derived.Test.YtabnkmghgkmbmaaLRunLo
namespace Go.Proofs.Ytabnkmghgkmbmaa
open Go.RowKit

theorem run_law (t : TaskV) (x : Int) (b : Bool) (w : World) : Calls Try.prog 4 #[taskVal t, .int .i64 x, .bool b] w fun e w' => e = .returned (.bool true) ∧ w.grownBy w' none := by
  cases b with
  | true => exact runHigh t x w w (grownBy_refl _ _)
  | false => exact runLow t x w w (grownBy_refl _ _)
#print axioms run_law
end Go.Proofs.Ytabnkmghgkmbmaa
