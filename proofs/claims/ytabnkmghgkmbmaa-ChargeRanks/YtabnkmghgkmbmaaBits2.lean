/- The low five bits of a number. -/
import Derived.Test.YtabnkmghgkmbmaaBits
namespace Go.Proofs.Ytabnkmghgkmbmaa
open Go.RowKit

theorem and5 (z : Int) : ∃ c : Nat, c ≤ 31 ∧ bits .and .i64 z 31 = (c : Int) := ⟨(z % 32).toNat, by omega, by rw [and_low z 5 (by decide) 31 (by decide)]; omega⟩
theorem conv_ur (x : Int) : ∃ U : Nat, IntKind.u64.wrap x = (U : Int) ∧ U < 18446744073709551616 := ⟨(IntKind.u64.wrap x).toNat, by rw [IntKind.wrap_u64]; omega, by rw [IntKind.wrap_u64]; omega⟩
theorem rem_of (U : Nat) {d : Int} (h : 1 ≤ d) : ∃ r, (U : Int).tmod d = r ∧ 0 ≤ r ∧ r < d := ⟨_, rfl, Int.tmod_nonneg _ (by omega), Int.tmod_lt_of_pos _ (by omega)⟩
#print axioms and5
end Go.Proofs.Ytabnkmghgkmbmaa
