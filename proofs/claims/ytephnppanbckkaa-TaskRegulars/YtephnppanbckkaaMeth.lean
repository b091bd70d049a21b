/- Which function a kind's method is: closed facts over the translation. -/
import Derived.Test.YtephnppanbckkaaRel
import Derived.Test.YtephnppanbckkaaMayAt
namespace Go.Proofs.Ytephnppanbckkaa
open Go.RowKit

theorem m_late_p (v0 v1 v2 v3 v4 v5 v6 v7 : Value) (w : World) : (method 178 58 (.agg #[v0, v1, v2, v3, v4, v5, v6, v7]) "nocturn/task.late").run Try.prog w = .ok (58, .agg #[v0, v1, v2, v3, v4, v5, v6, v7]) w := by kernel_rfl
theorem m_late_r (v0 v1 v2 v3 v4 v5 v6 v7 : Value) (w : World) : (method 178 59 (.agg #[v0, v1, v2, v3, v4, v5, v6, v7]) "nocturn/task.late").run Try.prog w = .ok (54, .agg #[v0, v1, v2, v3, v4, v5, v6, v7]) w := by kernel_rfl
theorem m_comes_p (v0 v1 v2 v3 v4 v5 v6 v7 : Value) (w : World) : (method 178 58 (.agg #[v0, v1, v2, v3, v4, v5, v6, v7]) "nocturn/task.comes").run Try.prog w = .ok (57, .agg #[v0, v1, v2, v3, v4, v5, v6, v7]) w := by kernel_rfl
theorem m_comes_r (v0 v1 v2 v3 v4 v5 v6 v7 : Value) (w : World) : (method 178 59 (.agg #[v0, v1, v2, v3, v4, v5, v6, v7]) "nocturn/task.comes").run Try.prog w = .ok (59, .agg #[v0, v1, v2, v3, v4, v5, v6, v7]) w := by kernel_rfl
theorem m_kept_p (v0 v1 v2 v3 v4 v5 v6 v7 : Value) (w : World) : (method 178 58 (.agg #[v0, v1, v2, v3, v4, v5, v6, v7]) "nocturn/task.kept").run Try.prog w = .ok (53, .agg #[v0, v1, v2, v3, v4, v5, v6, v7]) w := by kernel_rfl
theorem m_kept_r (v0 v1 v2 v3 v4 v5 v6 v7 : Value) (w : World) : (method 178 59 (.agg #[v0, v1, v2, v3, v4, v5, v6, v7]) "nocturn/task.kept").run Try.prog w = .ok (53, .agg #[v0, v1, v2, v3, v4, v5, v6, v7]) w := by kernel_rfl
theorem m_release_p (v0 v1 v2 v3 v4 v5 v6 v7 : Value) (w : World) : (method 178 58 (.agg #[v0, v1, v2, v3, v4, v5, v6, v7]) "nocturn/task.release").run Try.prog w = .ok (55, .agg #[v0, v1, v2, v3, v4, v5, v6, v7]) w := by kernel_rfl
theorem m_release_r (v0 v1 v2 v3 v4 v5 v6 v7 : Value) (w : World) : (method 178 59 (.agg #[v0, v1, v2, v3, v4, v5, v6, v7]) "nocturn/task.release").run Try.prog w = .ok (55, .agg #[v0, v1, v2, v3, v4, v5, v6, v7]) w := by kernel_rfl

theorem at_parts {t : TaskV} {s : TurnsV} {now : Int} (h : atMay t s now = true) : taskMay t = true ∧ turnsMay s = true ∧ -1 ≤ s.last ∧ s.last ≤ 1099511627776 ∧ s.picks.length ≤ 4 ∧ 0 ≤ now ∧ now ≤ 1099511627776 := by
  unfold atMay at h
  simp only [Bool.and_eq_true, decide_eq_true_eq] at h
  have h2 := h.2.1
  unfold turnsMay at h2
  simp only [Bool.and_eq_true, decide_eq_true_eq] at h2
  exact ⟨h.1, h.2.1, h2.1, h2.2.1, h2.2.2.1, h.2.2.1, h.2.2.2⟩
#print axioms at_parts
end Go.Proofs.Ytephnppanbckkaa
