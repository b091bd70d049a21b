/- The walk of the statement SupplyLeast: from no begin on are there fewer; proved over the translation. -/
import Derived.Test.YtgocfgjdafkjlabDoorAw7
import Derived.Test.YtgocfgjdafkjlabDoorLCnt0
namespace Go.Proofs.YtgocfgjdafkjlabDoor.P7
open Go.RowKit
attribute [local go_sem] alloc_drewN setCell_drewN

theorem and9 (z : Int) : ∃ c : Nat, c ≤ 511 ∧ bits .and .i64 z 511 = (c : Int) := ⟨(z % 512).toNat, by omega, by rw [and_low z 9 (by decide) 511 (by decide)]; omega⟩
theorem and8 (z : Int) : ∃ c : Nat, c ≤ 255 ∧ bits .and .i64 z 255 = (c : Int) := ⟨(z % 256).toNat, by omega, by rw [and_low z 8 (by decide) 255 (by decide)]; omega⟩
theorem at_own {C : ConfV} (hc : checkN C = 0) (P F : Nat) (hF : (F : Int) = C.frame) (t : Nat) (ht : t ≤ 1099511627776) : atE C t = 0 ∧ own1 C P F t = if atV C t = P then 1 else 0 := by
  have ok : atOK C t = true := by unfold atOK; rw [hc]; simp; omega
  unfold atE atV own1
  rw [if_pos ok, if_pos ok, ← hF]
  exact ⟨rfl, rfl⟩
#print axioms at_own
end Go.Proofs.YtgocfgjdafkjlabDoor.P7
