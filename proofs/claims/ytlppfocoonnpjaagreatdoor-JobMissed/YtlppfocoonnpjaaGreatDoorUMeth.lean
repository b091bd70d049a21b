/- Which function a kind's method is: closed facts over the translation. -/
import Derived.Test.YtlppfocoonnpjaaGreatDoorURel
import Derived.Test.YtlppfocoonnpjaaGreatDoorUMayAt
namespace Go.Proofs.YtlppfocoonnpjaaGreatDoor.U
open Go.RowKit

theorem m_late_p (v0 v1 v2 v3 v4 v5 v6 v7 : Value) (w : World) : (method 178 172 (.agg #[v0, v1, v2, v3, v4, v5, v6, v7]) "nocturn/task.late").run Tryz.prog w = .ok (161, .agg #[v0, v1, v2, v3, v4, v5, v6, v7]) w := by kernel_rfl
theorem m_late_r (v0 v1 v2 v3 v4 v5 v6 v7 : Value) (w : World) : (method 178 173 (.agg #[v0, v1, v2, v3, v4, v5, v6, v7]) "nocturn/task.late").run Tryz.prog w = .ok (157, .agg #[v0, v1, v2, v3, v4, v5, v6, v7]) w := by kernel_rfl
theorem m_comes_p (v0 v1 v2 v3 v4 v5 v6 v7 : Value) (w : World) : (method 178 172 (.agg #[v0, v1, v2, v3, v4, v5, v6, v7]) "nocturn/task.comes").run Tryz.prog w = .ok (160, .agg #[v0, v1, v2, v3, v4, v5, v6, v7]) w := by kernel_rfl
theorem m_comes_r (v0 v1 v2 v3 v4 v5 v6 v7 : Value) (w : World) : (method 178 173 (.agg #[v0, v1, v2, v3, v4, v5, v6, v7]) "nocturn/task.comes").run Tryz.prog w = .ok (162, .agg #[v0, v1, v2, v3, v4, v5, v6, v7]) w := by kernel_rfl
theorem m_kept_p (v0 v1 v2 v3 v4 v5 v6 v7 : Value) (w : World) : (method 178 172 (.agg #[v0, v1, v2, v3, v4, v5, v6, v7]) "nocturn/task.kept").run Tryz.prog w = .ok (156, .agg #[v0, v1, v2, v3, v4, v5, v6, v7]) w := by kernel_rfl
theorem m_kept_r (v0 v1 v2 v3 v4 v5 v6 v7 : Value) (w : World) : (method 178 173 (.agg #[v0, v1, v2, v3, v4, v5, v6, v7]) "nocturn/task.kept").run Tryz.prog w = .ok (156, .agg #[v0, v1, v2, v3, v4, v5, v6, v7]) w := by kernel_rfl
theorem m_release_p (v0 v1 v2 v3 v4 v5 v6 v7 : Value) (w : World) : (method 178 172 (.agg #[v0, v1, v2, v3, v4, v5, v6, v7]) "nocturn/task.release").run Tryz.prog w = .ok (158, .agg #[v0, v1, v2, v3, v4, v5, v6, v7]) w := by kernel_rfl
theorem m_release_r (v0 v1 v2 v3 v4 v5 v6 v7 : Value) (w : World) : (method 178 173 (.agg #[v0, v1, v2, v3, v4, v5, v6, v7]) "nocturn/task.release").run Tryz.prog w = .ok (158, .agg #[v0, v1, v2, v3, v4, v5, v6, v7]) w := by kernel_rfl

theorem at_parts {t : TaskV} {s : TurnsV} {now : Int} (h : atMay t s now = true) : taskMay t = true ∧ turnsMay s = true ∧ -1 ≤ s.last ∧ s.last ≤ 1099511627776 ∧ s.picks.length ≤ 4 ∧ 0 ≤ now ∧ now ≤ 1099511627776 := by
  unfold atMay at h
  simp only [Bool.and_eq_true, decide_eq_true_eq] at h
  have h2 := h.2.1
  unfold turnsMay at h2
  simp only [Bool.and_eq_true, decide_eq_true_eq] at h2
  exact ⟨h.1, h.2.1, h2.1, h2.2.1, h2.2.2.1, h.2.2.1, h.2.2.2⟩
#print axioms at_parts
end Go.Proofs.YtlppfocoonnpjaaGreatDoor.U
