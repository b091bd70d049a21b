/- Jobs, tasks and levels that are none: plain numbers. -/
import Derived.Test.YtabnkmghgkmbmaaLaw0
namespace Go.Proofs.Ytabnkmghgkmbmaa
open Go.RowKit

theorem conv_uf (x : Int) : ∃ U : Nat, IntKind.u64.wrap x = (U : Int) ∧ U < 18446744073709551616 := ⟨(IntKind.u64.wrap x).toNat, by rw [IntKind.wrap_u64]; omega, by rw [IntKind.wrap_u64]; omega⟩
theorem no_of {j : JobV} {t : TaskV} {l : Int} (h : ¬(jobMay j = true ∧ taskMay t = true ∧ (l = 0 ∨ l = 1))) : chV j t l = .tuple #[jobVal ⟨0, 0, 0, 0, 0, 0, 0⟩, verVal false false false, .int .i64 1300] := by
  refine chV_no ?_
  cases h9 : chMay j t l with
  | false => rfl
  | true =>
    refine absurd ?_ h
    unfold chMay levMay at h9
    simpa only [Bool.and_eq_true, decide_eq_true_eq] using h9
theorem fm0 {d : Int} (h1 : 1 ≤ d) : chV ⟨0, 0, 0, 0, 9, 5, 1⟩ ⟨0, 9, 9, 2, 4, 0⟩ (1 + d) = .tuple #[jobVal ⟨0, 0, 0, 0, 0, 0, 0⟩, verVal false false false, .int .i64 1300] := no_of fun h => by have := h.2.2; omega
theorem fm1 {d : Int} (h1 : 1 ≤ d) : chV ⟨0, 0, 0, 0, 9, 5, 1⟩ ⟨0, 9, 9, 2, 4, 0⟩ (-d) = .tuple #[jobVal ⟨0, 0, 0, 0, 0, 0, 0⟩, verVal false false false, .int .i64 1300] := no_of fun h => by have := h.2.2; omega
theorem fm2 {d : Int} (h1 : 1 ≤ d) : chV ⟨0, 0, 0, 0, 9, 5, 4 + d⟩ ⟨0, 9, 9, 2, 4, 0⟩ 1 = .tuple #[jobVal ⟨0, 0, 0, 0, 0, 0, 0⟩, verVal false false false, .int .i64 1300] := no_of fun h => by have := job_parts h.1; dsimp only at this; omega
theorem fm3 {d : Int} (h1 : 1 ≤ d) : chV ⟨0, 0, 0, 0, 9, 5, -d⟩ ⟨0, 9, 9, 2, 4, 0⟩ 1 = .tuple #[jobVal ⟨0, 0, 0, 0, 0, 0, 0⟩, verVal false false false, .int .i64 1300] := no_of fun h => by have := job_parts h.1; dsimp only at this; omega
theorem fm4 {d : Int} (h1 : 1 ≤ d) : chV ⟨0, 0, 0, 0, 9, 5, 1⟩ ⟨0, 9, 9, 4 + d, 4, 0⟩ 1 = .tuple #[jobVal ⟨0, 0, 0, 0, 0, 0, 0⟩, verVal false false false, .int .i64 1300] := no_of fun h => by have := may_parts h.2.1; dsimp only at this; omega
theorem fm5 {m : Int} (h1 : 1 ≤ m) : chV ⟨0, 0, 0, 0, 9, 5, 1⟩ ⟨0, 9 - m, 9, 2, 4, 0⟩ 1 = .tuple #[jobVal ⟨0, 0, 0, 0, 0, 0, 0⟩, verVal false false false, .int .i64 1300] := no_of fun h => by have := may_parts h.2.1; dsimp only at this; omega
theorem fm6 {d : Int} (h1 : 1 ≤ d) : chV ⟨0, 0, 0, 0, 1 - d, 5, 1⟩ ⟨0, 9, 9, 2, 4, 0⟩ 1 = .tuple #[jobVal ⟨0, 0, 0, 0, 0, 0, 0⟩, verVal false false false, .int .i64 1300] := no_of fun h => by have := job_parts h.1; dsimp only at this; omega
theorem fm7 : chV ⟨0, 0, 0, 0, 9, 5, 1⟩ ⟨0, 1, 9, 2, 4, 0⟩ 1 = .tuple #[jobVal ⟨0, 0, 0, 0, 0, 0, 0⟩, verVal false false false, .int .i64 1300] := no_of fun h => by have := may_parts h.2.1; dsimp only at this; omega
#print axioms fm6
end Go.Proofs.Ytabnkmghgkmbmaa
