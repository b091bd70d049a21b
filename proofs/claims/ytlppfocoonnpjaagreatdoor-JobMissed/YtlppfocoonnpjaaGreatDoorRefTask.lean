/- The contract of the document's own TaskMay, proved over the translation: it answers as the program's. -/
import Derived.Test.YtlppfocoonnpjaaGreatDoorCheck
namespace Go.Proofs.YtlppfocoonnpjaaGreatDoor.R6
open Go.RowKit
attribute [local go_sem] alloc_drewN setCell_drewN

set_option maxRecDepth 100000 in
set_option maxHeartbeats 1000000 in
theorem rtask_any (t : TaskV) (w : World) :
    Calls Tryz.prog 62 #[.agg #[.int .i64 t.kind, .int .i64 t.period, .int .i64 t.deadline, .int .i64 t.clow, .int .i64 t.chigh, .int .i64 t.prio]] w fun e w' => e = .returned (.bool (taskMay t)) ∧ w.grownBy w' none := by
  obtain ⟨x0, x1, x2, x3, x4, x5⟩ := t
  unfold taskMay
  dsimp only
  by_cases hk : x0 = 0 ∨ x0 = 1
  · rw [decide_eq_true hk]
    simp only [Bool.true_and]
    rcases hk with rfl | rfl
    · by_cases h0 : 1 ≤ x1
      · rw [decide_eq_true h0]
        simp only [Bool.true_and]
        by_cases h1 : x1 ≤ 1024
        · rw [decide_eq_true h1]
          simp only [Bool.true_and]
          by_cases h2 : 1 ≤ x2
          · rw [decide_eq_true h2]
            simp only [Bool.true_and]
            by_cases h3 : x2 ≤ x1
            · rw [decide_eq_true h3]
              simp only [Bool.true_and]
              by_cases h4 : 1 ≤ x3
              · rw [decide_eq_true h4]
                simp only [Bool.true_and]
                by_cases h5 : x3 ≤ x4
                · rw [decide_eq_true h5]
                  simp only [Bool.true_and]
                  by_cases h6 : x4 ≤ x2
                  · rw [decide_eq_true h6]
                    simp only [Bool.true_and]
                    by_cases h7 : 0 ≤ x5
                    · rw [decide_eq_true h7]
                      simp only [Bool.true_and]
                      by_cases h8 : x5 ≤ 255
                      · rw [decide_eq_true h8]
                        go_enter Tryz.func62, Tryz.ntmps62; go_wp2; go_ret; exact ⟨rfl, World.grownBy_alloc _ _ _⟩
                      · rw [decide_eq_false h8]
                        go_enter Tryz.func62, Tryz.ntmps62; go_wp2; go_ret; exact ⟨rfl, World.grownBy_alloc _ _ _⟩
                    · rw [decide_eq_false h7]
                      simp only [Bool.false_and]
                      go_enter Tryz.func62, Tryz.ntmps62; go_wp2; go_ret; exact ⟨rfl, World.grownBy_alloc _ _ _⟩
                  · rw [decide_eq_false h6]
                    simp only [Bool.false_and]
                    go_enter Tryz.func62, Tryz.ntmps62; go_wp2; go_ret; exact ⟨rfl, World.grownBy_alloc _ _ _⟩
                · rw [decide_eq_false h5]
                  simp only [Bool.false_and]
                  go_enter Tryz.func62, Tryz.ntmps62; go_wp2; go_ret; exact ⟨rfl, World.grownBy_alloc _ _ _⟩
              · rw [decide_eq_false h4]
                simp only [Bool.false_and]
                go_enter Tryz.func62, Tryz.ntmps62; go_wp2; go_ret; exact ⟨rfl, World.grownBy_alloc _ _ _⟩
            · rw [decide_eq_false h3]
              simp only [Bool.false_and]
              go_enter Tryz.func62, Tryz.ntmps62; go_wp2; go_ret; exact ⟨rfl, World.grownBy_alloc _ _ _⟩
          · rw [decide_eq_false h2]
            simp only [Bool.false_and]
            go_enter Tryz.func62, Tryz.ntmps62; go_wp2; go_ret; exact ⟨rfl, World.grownBy_alloc _ _ _⟩
        · rw [decide_eq_false h1]
          simp only [Bool.false_and]
          go_enter Tryz.func62, Tryz.ntmps62; go_wp2; go_ret; exact ⟨rfl, World.grownBy_alloc _ _ _⟩
      · rw [decide_eq_false h0]
        simp only [Bool.false_and]
        go_enter Tryz.func62, Tryz.ntmps62; go_wp2; go_ret; exact ⟨rfl, World.grownBy_alloc _ _ _⟩
    · by_cases h0 : 1 ≤ x1
      · rw [decide_eq_true h0]
        simp only [Bool.true_and]
        by_cases h1 : x1 ≤ 1024
        · rw [decide_eq_true h1]
          simp only [Bool.true_and]
          by_cases h2 : 1 ≤ x2
          · rw [decide_eq_true h2]
            simp only [Bool.true_and]
            by_cases h3 : x2 ≤ x1
            · rw [decide_eq_true h3]
              simp only [Bool.true_and]
              by_cases h4 : 1 ≤ x3
              · rw [decide_eq_true h4]
                simp only [Bool.true_and]
                by_cases h5 : x3 ≤ x4
                · rw [decide_eq_true h5]
                  simp only [Bool.true_and]
                  by_cases h6 : x4 ≤ x2
                  · rw [decide_eq_true h6]
                    simp only [Bool.true_and]
                    by_cases h7 : 0 ≤ x5
                    · rw [decide_eq_true h7]
                      simp only [Bool.true_and]
                      by_cases h8 : x5 ≤ 255
                      · rw [decide_eq_true h8]
                        go_enter Tryz.func62, Tryz.ntmps62; go_wp2; go_ret; exact ⟨rfl, World.grownBy_alloc _ _ _⟩
                      · rw [decide_eq_false h8]
                        go_enter Tryz.func62, Tryz.ntmps62; go_wp2; go_ret; exact ⟨rfl, World.grownBy_alloc _ _ _⟩
                    · rw [decide_eq_false h7]
                      simp only [Bool.false_and]
                      go_enter Tryz.func62, Tryz.ntmps62; go_wp2; go_ret; exact ⟨rfl, World.grownBy_alloc _ _ _⟩
                  · rw [decide_eq_false h6]
                    simp only [Bool.false_and]
                    go_enter Tryz.func62, Tryz.ntmps62; go_wp2; go_ret; exact ⟨rfl, World.grownBy_alloc _ _ _⟩
                · rw [decide_eq_false h5]
                  simp only [Bool.false_and]
                  go_enter Tryz.func62, Tryz.ntmps62; go_wp2; go_ret; exact ⟨rfl, World.grownBy_alloc _ _ _⟩
              · rw [decide_eq_false h4]
                simp only [Bool.false_and]
                go_enter Tryz.func62, Tryz.ntmps62; go_wp2; go_ret; exact ⟨rfl, World.grownBy_alloc _ _ _⟩
            · rw [decide_eq_false h3]
              simp only [Bool.false_and]
              go_enter Tryz.func62, Tryz.ntmps62; go_wp2; go_ret; exact ⟨rfl, World.grownBy_alloc _ _ _⟩
          · rw [decide_eq_false h2]
            simp only [Bool.false_and]
            go_enter Tryz.func62, Tryz.ntmps62; go_wp2; go_ret; exact ⟨rfl, World.grownBy_alloc _ _ _⟩
        · rw [decide_eq_false h1]
          simp only [Bool.false_and]
          go_enter Tryz.func62, Tryz.ntmps62; go_wp2; go_ret; exact ⟨rfl, World.grownBy_alloc _ _ _⟩
      · rw [decide_eq_false h0]
        simp only [Bool.false_and]
        go_enter Tryz.func62, Tryz.ntmps62; go_wp2; go_ret; exact ⟨rfl, World.grownBy_alloc _ _ _⟩
  · rw [decide_eq_false hk]
    simp only [Bool.false_and]
    have h1 : x0 ≠ 0 := fun e => hk (.inl e)
    have h2 : x0 ≠ 1 := fun e => hk (.inr e)
    clear hk
    go_enter Tryz.func62, Tryz.ntmps62; go_wp2; go_ret; exact ⟨rfl, World.grownBy_alloc _ _ _⟩


#print axioms rtask_any
end Go.Proofs.YtlppfocoonnpjaaGreatDoor.R6
