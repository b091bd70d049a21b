/- Two machines with the same words are equal, by the language's own equality. -/
import Derived.Test.YthdpdnibgmjdaaaDoorVmbox
import Derived.ChangeKeysEq
namespace Go.Proofs.YthdpdnibgmjdaaaDoor
open Go.RowKit

theorem infoInt : ∃ i, Tryd.prog.info? 3 = some i := by
  cases h : Tryd.prog.info? 3 with
  | some i => exact ⟨i, rfl⟩
  | none =>
    have : (Tryd.prog.info? 3).isSome = true := by kernel_rfl
    rw [h] at this
    cases this
theorem cellsInt : Tryd.prog.cellsOf 3 = 1 := by kernel_rfl
theorem range16 : List.range 16 = [0, 1, 2, 3, 4, 5, 6, 7, 8, 9, 10, 11, 12, 13, 14, 15] := rfl
set_option maxRecDepth 100000 in
set_option maxHeartbeats 4000000 in
theorem arr_self (z0 z1 z2 z3 z4 z5 z6 z7 z8 z9 z10 z11 z12 z13 z14 z15 : Int) (d : Nat) (W : World) : (Op.equalIn (d + 2) 23 (.agg #[.int .i64 z0, .int .i64 z1, .int .i64 z2, .int .i64 z3, .int .i64 z4, .int .i64 z5, .int .i64 z6, .int .i64 z7, .int .i64 z8, .int .i64 z9, .int .i64 z10, .int .i64 z11, .int .i64 z12, .int .i64 z13, .int .i64 z14, .int .i64 z15]) (.agg #[.int .i64 z0, .int .i64 z1, .int .i64 z2, .int .i64 z3, .int .i64 z4, .int .i64 z5, .int .i64 z6, .int .i64 z7, .int .i64 z8, .int .i64 z9, .int .i64 z10, .int .i64 z11, .int .i64 z12, .int .i64 z13, .int .i64 z14, .int .i64 z15])).run Tryd.prog W = .ok true W := by
  obtain ⟨i, hi⟩ := infoInt
  rw [run_equalIn_array W (d + 1) _ _ Tryd.underlying23 hi, cellsInt, range16]
  simp [Op.eqItems, go_sem]
#print axioms arr_self
end Go.Proofs.YthdpdnibgmjdaaaDoor
