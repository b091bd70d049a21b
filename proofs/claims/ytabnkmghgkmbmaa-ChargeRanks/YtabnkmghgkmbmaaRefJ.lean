/- Contracts of the document's own jobMay, ahead and JobsMay, proved over the translation: they answer as the program's. -/
import Derived.Test.YtabnkmghgkmbmaaData
namespace Go.Proofs.Ytabnkmghgkmbmaa
open Go.RowKit
attribute [local go_sem] alloc_drewN setCell_drewN

set_option maxRecDepth 100000 in
set_option maxHeartbeats 8000000 in
theorem rjob_any (j : JobV) (w : World) : Calls Try.prog 15 #[jobVal j] w fun e w' => e = .returned (.bool (jobMay j)) ∧ w.grownBy w' none := by
  obtain ⟨x0, x1, x2, x3, x4, x5, x6⟩ := j
  unfold jobMay
  dsimp only
  simp only [Bool.and_assoc]
  by_cases h0 : 0 ≤ x0
  · rw [decide_eq_true h0, Bool.true_and]
    by_cases h1 : x0 < 6
    · rw [decide_eq_true h1, Bool.true_and]
      by_cases h2 : 0 ≤ x1
      · rw [decide_eq_true h2, Bool.true_and]
        by_cases h3 : 0 ≤ x2
        · rw [decide_eq_true h3, Bool.true_and]
          by_cases h4 : x2 ≤ 255
          · rw [decide_eq_true h4, Bool.true_and]
            by_cases h5 : 0 ≤ x3
            · rw [decide_eq_true h5, Bool.true_and]
              by_cases h6 : x3 ≤ 1099511627776
              · rw [decide_eq_true h6, Bool.true_and]
                by_cases h7 : x3 < x4
                · rw [decide_eq_true h7, Bool.true_and]
                  by_cases h8 : 1 ≤ x5
                  · rw [decide_eq_true h8, Bool.true_and]
                    by_cases h9 : x5 ≤ 65535
                    · rw [decide_eq_true h9, Bool.true_and]
                      by_cases h10 : 0 ≤ x6
                      · rw [decide_eq_true h10, Bool.true_and]
                        go_enter Try.func15, Try.ntmps15
                        go_wp2
                        go_ret
                        exact ⟨rfl, World.grownBy_alloc _ _ _⟩
                      · rw [decide_eq_false h10, Bool.false_and]
                        go_enter Try.func15, Try.ntmps15
                        go_wp2
                        go_ret
                        exact ⟨rfl, World.grownBy_alloc _ _ _⟩
                    · rw [decide_eq_false h9, Bool.false_and]
                      go_enter Try.func15, Try.ntmps15
                      go_wp2
                      go_ret
                      exact ⟨rfl, World.grownBy_alloc _ _ _⟩
                  · rw [decide_eq_false h8, Bool.false_and]
                    go_enter Try.func15, Try.ntmps15
                    go_wp2
                    go_ret
                    exact ⟨rfl, World.grownBy_alloc _ _ _⟩
                · rw [decide_eq_false h7, Bool.false_and]
                  go_enter Try.func15, Try.ntmps15
                  go_wp2
                  go_ret
                  exact ⟨rfl, World.grownBy_alloc _ _ _⟩
              · rw [decide_eq_false h6, Bool.false_and]
                go_enter Try.func15, Try.ntmps15
                go_wp2
                go_ret
                exact ⟨rfl, World.grownBy_alloc _ _ _⟩
            · rw [decide_eq_false h5, Bool.false_and]
              go_enter Try.func15, Try.ntmps15
              go_wp2
              go_ret
              exact ⟨rfl, World.grownBy_alloc _ _ _⟩
          · rw [decide_eq_false h4, Bool.false_and]
            go_enter Try.func15, Try.ntmps15
            go_wp2
            go_ret
            exact ⟨rfl, World.grownBy_alloc _ _ _⟩
        · rw [decide_eq_false h3, Bool.false_and]
          go_enter Try.func15, Try.ntmps15
          go_wp2
          go_ret
          exact ⟨rfl, World.grownBy_alloc _ _ _⟩
      · rw [decide_eq_false h2, Bool.false_and]
        go_enter Try.func15, Try.ntmps15
        go_wp2
        go_ret
        exact ⟨rfl, World.grownBy_alloc _ _ _⟩
    · rw [decide_eq_false h1, Bool.false_and]
      go_enter Try.func15, Try.ntmps15
      go_wp2
      go_ret
      exact ⟨rfl, World.grownBy_alloc _ _ _⟩
  · rw [decide_eq_false h0, Bool.false_and]
    go_enter Try.func15, Try.ntmps15
    go_wp2
    go_ret
    exact ⟨rfl, World.grownBy_alloc _ _ _⟩
#print axioms rjob_any
end Go.Proofs.Ytabnkmghgkmbmaa
