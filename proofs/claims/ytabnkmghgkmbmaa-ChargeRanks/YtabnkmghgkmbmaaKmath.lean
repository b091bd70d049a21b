/- What Charge answers where both budgets are one: plain numbers. -/
import Derived.Test.YtabnkmghgkmbmaaLaw0
namespace Go.Proofs.Ytabnkmghgkmbmaa
open Go.RowKit

theorem rk_may {b d r : Int} (l : Int) (hl : l = 0 ∨ l = 1) (hb1 : 1 ≤ b) (hb2 : b ≤ 32) (hd1 : 1 ≤ d) (hd2 : d ≤ 64) (hr0 : 0 ≤ r) (hrd : r < d) : chMay ⟨0, 0, 0, 0, 9, d, r⟩ ⟨0, 50, 40, b, b, 0⟩ l = true := by
  unfold chMay levMay jobMay taskMay
  simp only [Bool.and_eq_true, decide_eq_true_eq]
  refine ⟨by omega, ⟨.inl trivial, by omega⟩, hl⟩
theorem rk_hi {b d r q : Int} {s bd : Bool} (hb1 : 1 ≤ b) (hb2 : b ≤ 32) (hd1 : 1 ≤ d) (hd2 : d ≤ 64) (hr0 : 0 ≤ r) (hrd : r < d) (hq : r + 1 = q) (hs : (decide (q = b) && decide (q < d)) = s) (hbd : decide (q = d) = bd) :
    chV ⟨0, 0, 0, 0, 9, d, r⟩ ⟨0, 50, 40, b, b, 0⟩ 1 = .tuple #[jobVal ⟨0, 0, 0, 0, 9, d, q⟩, verVal s bd s, .int .i64 0] := by
  subst hq hs hbd
  rw [chV_hi (rk_may 1 (.inr rfl) hb1 hb2 hd1 hd2 hr0 hrd)]
  rfl
theorem rk_lo {b d r q : Int} {s bd : Bool} (hb1 : 1 ≤ b) (hb2 : b ≤ 32) (hd1 : 1 ≤ d) (hd2 : d ≤ 64) (hr0 : 0 ≤ r) (hrd : r < d) (hq : r + 1 = q) (hs : (decide (q = b) && decide (q < d)) = s) (hbd : decide (q = d) = bd) :
    chV ⟨0, 0, 0, 0, 9, d, r⟩ ⟨0, 50, 40, b, b, 0⟩ 0 = .tuple #[jobVal ⟨0, 0, 0, 0, 9, d, q⟩, verVal false bd s, .int .i64 0] := by
  subst hq hs hbd
  rw [chV_lo (rk_may 0 (.inl rfl) hb1 hb2 hd1 hd2 hr0 hrd)]
  rfl
#print axioms rk_lo
end Go.Proofs.Ytabnkmghgkmbmaa
