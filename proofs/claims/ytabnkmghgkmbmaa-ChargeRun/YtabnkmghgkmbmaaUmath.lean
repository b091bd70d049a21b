/- What Charge answers of a job that is charged tick by tick: plain numbers. -/
import Derived.Test.YtabnkmghgkmbmaaLaw0
namespace Go.Proofs.Ytabnkmghgkmbmaa
open Go.RowKit

theorem run_may {d u l : Int} {t : TaskV} (hl : l = 0 ∨ l = 1) (hd1 : 1 ≤ d) (hd2 : d ≤ 2048) (hu0 : 0 ≤ u) (hud : u < d) : chMay ⟨0, 0, 0, 0, 1, d, u⟩ t l = taskMay t := by
  have hj : jobMay ⟨0, 0, 0, 0, 1, d, u⟩ = true := by
    unfold jobMay
    simp only [Bool.and_eq_true, decide_eq_true_eq]
    omega
  have hv : levMay l = true := by unfold levMay; exact decide_eq_true hl
  unfold chMay
  rw [hj, hv, Bool.true_and, Bool.and_true]
theorem run_no {d u l : Int} {t : TaskV} (hM : taskMay t = false) (hl : l = 0 ∨ l = 1) (hd1 : 1 ≤ d) (hd2 : d ≤ 2048) (hu0 : 0 ≤ u) (hud : u < d) :
    chV ⟨0, 0, 0, 0, 1, d, u⟩ t l = .tuple #[jobVal ⟨0, 0, 0, 0, 0, 0, 0⟩, verVal false false false, .int .i64 1300] := chV_no ((run_may hl hd1 hd2 hu0 hud).trans hM)
theorem run_hi {d u k : Int} {t : TaskV} {o dn kl : Bool} (hM : taskMay t = true) (hd1 : 1 ≤ d) (hd2 : d ≤ 2048) (hu0 : 0 ≤ u) (hud : u < d) (hk : u + 1 = k) (ho : (decide (k = t.clow) && decide (k < d)) = o) (hdn : decide (k = d) = dn) (hkl : (decide (k = t.chigh) && decide (k < d)) = kl) :
    chV ⟨0, 0, 0, 0, 1, d, u⟩ t 1 = .tuple #[jobVal ⟨0, 0, 0, 0, 1, d, k⟩, verVal o dn kl, .int .i64 0] := by
  subst hk ho hdn hkl
  rw [chV_hi ((run_may (.inr rfl) hd1 hd2 hu0 hud).trans hM)]
  rfl
theorem run_lo {d u k : Int} {t : TaskV} {dn kl : Bool} (hM : taskMay t = true) (hd1 : 1 ≤ d) (hd2 : d ≤ 2048) (hu0 : 0 ≤ u) (hud : u < d) (hk : u + 1 = k) (hdn : decide (k = d) = dn) (hkl : (decide (k = t.clow) && decide (k < d)) = kl) :
    chV ⟨0, 0, 0, 0, 1, d, u⟩ t 0 = .tuple #[jobVal ⟨0, 0, 0, 0, 1, d, k⟩, verVal false dn kl, .int .i64 0] := by
  subst hk hdn hkl
  rw [chV_lo ((run_may (.inl rfl) hd1 hd2 hu0 hud).trans hM)]
  rfl
#print axioms run_lo
end Go.Proofs.Ytabnkmghgkmbmaa
