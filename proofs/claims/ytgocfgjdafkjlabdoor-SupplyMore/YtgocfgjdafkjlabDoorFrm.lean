/- Contracts of package frame's At and Share, proved over the translation. -/
import Derived.Test.YtgocfgjdafkjlabDoorFmath
namespace Go.Proofs.YtgocfgjdafkjlabDoor
open Go.RowKit
attribute [local go_sem] alloc_drewN setCell_drewN

theorem nothing_more : True := trivial
#print axioms nothing_more
end Go.Proofs.YtgocfgjdafkjlabDoor
