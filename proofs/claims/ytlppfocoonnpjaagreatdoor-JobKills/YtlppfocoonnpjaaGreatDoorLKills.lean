/- The walk of the statement JobKills: a job alone, tick by tick; proved over the translation. -/
import Derived.Test.YtlppfocoonnpjaaGreatDoorLKillsLo
import Derived.Test.YtlppfocoonnpjaaGreatDoorLKillsHi
namespace Go.Proofs.YtlppfocoonnpjaaGreatDoor.L
open Go.RowKit
open Go.Proofs.YtlppfocoonnpjaaGreatDoor.J (JobV jobAt jobVal shJ blk_cell box_lt box_grown type_box type_own own_type own_mono row_cell)
attribute [local go_sem] alloc_drewN setCell_drewN

theorem kills_any (a0 a1 a2 : Int) (a3 : Bool) (w : World) (hT : Tab w) : Calls Tryz.prog 5 #[.int .i64 a0, .int .i64 a1, .int .i64 a2, .bool a3] w fun e w' => e = .returned (.bool true) ∧ w.grownBy w' none := by
  cases a3 with
  | true => exact kills_hi a0 a1 a2 w hT
  | false => exact kills_lo a0 a1 a2 w hT
#print axioms kills_any
end Go.Proofs.YtlppfocoonnpjaaGreatDoor.L
