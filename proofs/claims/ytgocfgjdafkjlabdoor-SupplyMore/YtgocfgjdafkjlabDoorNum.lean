/- Contracts of the statements' own Num, SameTasks, SameInstrs, SamePart and SameConfig where the two are alike, proved over the translation. -/
import Derived.Test.YtgocfgjdafkjlabDoorCheck
namespace Go.Proofs.YtgocfgjdafkjlabDoor
open Go.RowKit
attribute [local go_sem] alloc_drewN setCell_drewN

theorem num_any (e : Int) (w : World) :
    Calls Tryd.prog 9 #[.int .i64 e] w fun r w' => r = .returned (.int .i64 e) ∧ w' = w := by
  go_enter Tryd.func9, Tryd.ntmps9
  go_wp2
  go_ret
  exact ⟨rfl, rfl⟩

#print axioms num_any
end Go.Proofs.YtgocfgjdafkjlabDoor
