/- What the document's answers are at a regular task: plain numbers. -/
import Derived.Test.YtephnppanbckkaaFmath
namespace Go.Proofs.Ytephnppanbckkaa
open Go.RowKit

/-- What the statement itself finds of the turns' demands: at most four, each of them one. -/
def picksOk (zs : List Int) : Bool := decide (zs.length ≤ 4) && zs.all demMay
theorem pick_ok_iff {t : TaskV} {L : Int} : pickE t ⟨L, []⟩ 1 = 0 ↔ taskMay t = true ∧ -1 ≤ L ∧ L ≤ 1099511627776 := by
  unfold pickE
  have e : turnsMay ⟨L, []⟩ = (decide (-1 ≤ L) && decide (L ≤ 1099511627776)) := by
    unfold turnsMay
    simp
  rw [e, show demMay 1 = true by decide]
  simp
/-- May the task, the turns, the tick be? As the statement finds it. -/
theorem at_iff {t : TaskV} {L k : Int} {zs : List Int} (h0 : 0 ≤ k) (h1 : k ≤ 1048575) : atMay t ⟨L, zs⟩ k = (picksOk zs && decide (pickE t ⟨L, []⟩ 1 = 0)) := by
  have e : (decide (pickE t ⟨L, []⟩ 1 = 0)) = (taskMay t && (decide (-1 ≤ L) && decide (L ≤ 1099511627776))) := by
    cases h : (taskMay t && (decide (-1 ≤ L) && decide (L ≤ 1099511627776))) with
    | true =>
      simp only [Bool.and_eq_true, decide_eq_true_eq] at h
      exact decide_eq_true (pick_ok_iff.2 h)
    | false =>
      refine decide_eq_false fun h2 => ?_
      have h3 := pick_ok_iff.1 h2
      rw [h3.1, decide_eq_true h3.2.1, decide_eq_true h3.2.2] at h
      cases h
  rw [e]
  unfold atMay turnsMay picksOk
  dsimp only
  rw [decide_eq_true h0, decide_eq_true (show k ≤ 1099511627776 by omega)]
  cases taskMay t <;> cases decide (-1 ≤ L) <;> cases decide (L ≤ 1099511627776) <;> cases decide (zs.length ≤ 4) <;> cases zs.all demMay <;> rfl
theorem reg_comes {t : TaskV} {s : TurnsV} {k : Int} (hk : t.kind = 0) : comesB t s k = decide (k % t.period = 0) := by
  unfold comesB
  rw [if_neg (by omega)]
theorem reg_late {t : TaskV} {s : TurnsV} {k : Int} (hk : t.kind = 0) : lateB t s k = false := by
  unfold lateB
  rw [decide_eq_false (show ¬ t.kind = 1 by omega), Bool.false_and, Bool.and_false]
theorem picks_step {zs : List Int} {j : Nat} {x : Int} (h : zs[j]? = some x) : (zs.take (j + 1)).all demMay = ((zs.take j).all demMay && demMay x) := by
  rw [List.take_add_one, h]
  simp
#print axioms picks_step
end Go.Proofs.Ytephnppanbckkaa
