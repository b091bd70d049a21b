/- Contracts of package may's Task and of the small functions of package config's Check, proved over the translation. -/
import Derived.Test.YtlppfocoonnpjaaGreatDoorAll
namespace Go.Proofs.YtlppfocoonnpjaaGreatDoor
open Go.RowKit
attribute [local go_sem] alloc_drewN setCell_drewN

/-- May a task be? -/
def taskMay (t : TaskV) : Bool := decide (t.kind = 0 ∨ t.kind = 1) && (decide (1 ≤ t.period) && (decide (t.period ≤ 1024) && (decide (1 ≤ t.deadline) && (decide (t.deadline ≤ t.period) && (decide (1 ≤ t.clow) && (decide (t.clow ≤ t.chigh) && (decide (t.chigh ≤ t.deadline) && (decide (0 ≤ t.prio) && (decide (t.prio ≤ 255))))))))))

theorem prio_any (x : Int) (w : World) : Calls Tryz.prog 107 #[.int .i64 x] w fun e w' => e = .returned (.bool (decide (0 ≤ x) && decide (x ≤ 255))) ∧ w = w' := by
  by_cases h0 : 0 ≤ x
  · by_cases h1 : x ≤ 255
    · rw [decide_eq_true h0, decide_eq_true h1]
      go_enter Tryz.func107, Tryz.ntmps107
      go_wp2
      go_ret
      exact ⟨rfl, rfl⟩
    · rw [decide_eq_true h0, decide_eq_false h1]
      go_enter Tryz.func107, Tryz.ntmps107
      go_wp2
      go_ret
      exact ⟨rfl, rfl⟩
  · rw [decide_eq_false h0]
    go_enter Tryz.func107, Tryz.ntmps107
    go_wp2
    go_ret
    exact ⟨rfl, rfl⟩
set_option maxRecDepth 100000 in
set_option maxHeartbeats 1000000 in
theorem task_any (t : TaskV) (w : World) :
    Calls Tryz.prog 85 #[.agg #[.int .i64 t.kind, .int .i64 t.period, .int .i64 t.deadline, .int .i64 t.clow, .int .i64 t.chigh, .int .i64 t.prio]] w fun e w' => e = .returned (.bool (taskMay t)) ∧ w.grownBy w' none := by
  obtain ⟨x0, x1, x2, x3, x4, x5⟩ := t
  unfold taskMay
  dsimp only
  have CP := hide (fun W => prio_any x5 W)
  generalize (decide (0 ≤ x5) && decide (x5 ≤ 255)) = b at *
  by_cases hk : x0 = 0 ∨ x0 = 1
  · rw [decide_eq_true hk]
    simp only [Bool.true_and]
    rcases hk with rfl | rfl
    · by_cases h0 : 1 ≤ x1
      · rw [decide_eq_true h0]
        simp only [Bool.true_and]
        by_cases h1 : x1 ≤ 1024
        · rw [decide_eq_true h1]
          simp only [Bool.true_and]
          by_cases h2 : 1 ≤ x2
          · rw [decide_eq_true h2]
            simp only [Bool.true_and]
            by_cases h3 : x2 ≤ x1
            · rw [decide_eq_true h3]
              simp only [Bool.true_and]
              by_cases h4 : 1 ≤ x3
              · rw [decide_eq_true h4]
                simp only [Bool.true_and]
                by_cases h5 : x3 ≤ x4
                · rw [decide_eq_true h5]
                  simp only [Bool.true_and]
                  by_cases h6 : x4 ≤ x2
                  · rw [decide_eq_true h6]
                    simp only [Bool.true_and]
                    go_enter Tryz.func85, Tryz.ntmps85; go_wp2_with (go_at_call 107; refine (CP.out _).mono ?_; rintro e w' ⟨rfl, rfl⟩); go_ret; exact ⟨rfl, World.grownBy_alloc _ _ _⟩
                  · rw [decide_eq_false h6]
                    simp only [Bool.false_and]
                    go_enter Tryz.func85, Tryz.ntmps85; go_wp2_with (go_at_call 107; refine (CP.out _).mono ?_; rintro e w' ⟨rfl, rfl⟩); go_ret; exact ⟨rfl, World.grownBy_alloc _ _ _⟩
                · rw [decide_eq_false h5]
                  simp only [Bool.false_and]
                  go_enter Tryz.func85, Tryz.ntmps85; go_wp2_with (go_at_call 107; refine (CP.out _).mono ?_; rintro e w' ⟨rfl, rfl⟩); go_ret; exact ⟨rfl, World.grownBy_alloc _ _ _⟩
              · rw [decide_eq_false h4]
                simp only [Bool.false_and]
                go_enter Tryz.func85, Tryz.ntmps85; go_wp2_with (go_at_call 107; refine (CP.out _).mono ?_; rintro e w' ⟨rfl, rfl⟩); go_ret; exact ⟨rfl, World.grownBy_alloc _ _ _⟩
            · rw [decide_eq_false h3]
              simp only [Bool.false_and]
              go_enter Tryz.func85, Tryz.ntmps85; go_wp2_with (go_at_call 107; refine (CP.out _).mono ?_; rintro e w' ⟨rfl, rfl⟩); go_ret; exact ⟨rfl, World.grownBy_alloc _ _ _⟩
          · rw [decide_eq_false h2]
            simp only [Bool.false_and]
            go_enter Tryz.func85, Tryz.ntmps85; go_wp2_with (go_at_call 107; refine (CP.out _).mono ?_; rintro e w' ⟨rfl, rfl⟩); go_ret; exact ⟨rfl, World.grownBy_alloc _ _ _⟩
        · rw [decide_eq_false h1]
          simp only [Bool.false_and]
          go_enter Tryz.func85, Tryz.ntmps85; go_wp2_with (go_at_call 107; refine (CP.out _).mono ?_; rintro e w' ⟨rfl, rfl⟩); go_ret; exact ⟨rfl, World.grownBy_alloc _ _ _⟩
      · rw [decide_eq_false h0]
        simp only [Bool.false_and]
        go_enter Tryz.func85, Tryz.ntmps85; go_wp2_with (go_at_call 107; refine (CP.out _).mono ?_; rintro e w' ⟨rfl, rfl⟩); go_ret; exact ⟨rfl, World.grownBy_alloc _ _ _⟩
    · by_cases h0 : 1 ≤ x1
      · rw [decide_eq_true h0]
        simp only [Bool.true_and]
        by_cases h1 : x1 ≤ 1024
        · rw [decide_eq_true h1]
          simp only [Bool.true_and]
          by_cases h2 : 1 ≤ x2
          · rw [decide_eq_true h2]
            simp only [Bool.true_and]
            by_cases h3 : x2 ≤ x1
            · rw [decide_eq_true h3]
              simp only [Bool.true_and]
              by_cases h4 : 1 ≤ x3
              · rw [decide_eq_true h4]
                simp only [Bool.true_and]
                by_cases h5 : x3 ≤ x4
                · rw [decide_eq_true h5]
                  simp only [Bool.true_and]
                  by_cases h6 : x4 ≤ x2
                  · rw [decide_eq_true h6]
                    simp only [Bool.true_and]
                    go_enter Tryz.func85, Tryz.ntmps85; go_wp2_with (go_at_call 107; refine (CP.out _).mono ?_; rintro e w' ⟨rfl, rfl⟩); go_ret; exact ⟨rfl, World.grownBy_alloc _ _ _⟩
                  · rw [decide_eq_false h6]
                    simp only [Bool.false_and]
                    go_enter Tryz.func85, Tryz.ntmps85; go_wp2_with (go_at_call 107; refine (CP.out _).mono ?_; rintro e w' ⟨rfl, rfl⟩); go_ret; exact ⟨rfl, World.grownBy_alloc _ _ _⟩
                · rw [decide_eq_false h5]
                  simp only [Bool.false_and]
                  go_enter Tryz.func85, Tryz.ntmps85; go_wp2_with (go_at_call 107; refine (CP.out _).mono ?_; rintro e w' ⟨rfl, rfl⟩); go_ret; exact ⟨rfl, World.grownBy_alloc _ _ _⟩
              · rw [decide_eq_false h4]
                simp only [Bool.false_and]
                go_enter Tryz.func85, Tryz.ntmps85; go_wp2_with (go_at_call 107; refine (CP.out _).mono ?_; rintro e w' ⟨rfl, rfl⟩); go_ret; exact ⟨rfl, World.grownBy_alloc _ _ _⟩
            · rw [decide_eq_false h3]
              simp only [Bool.false_and]
              go_enter Tryz.func85, Tryz.ntmps85; go_wp2_with (go_at_call 107; refine (CP.out _).mono ?_; rintro e w' ⟨rfl, rfl⟩); go_ret; exact ⟨rfl, World.grownBy_alloc _ _ _⟩
          · rw [decide_eq_false h2]
            simp only [Bool.false_and]
            go_enter Tryz.func85, Tryz.ntmps85; go_wp2_with (go_at_call 107; refine (CP.out _).mono ?_; rintro e w' ⟨rfl, rfl⟩); go_ret; exact ⟨rfl, World.grownBy_alloc _ _ _⟩
        · rw [decide_eq_false h1]
          simp only [Bool.false_and]
          go_enter Tryz.func85, Tryz.ntmps85; go_wp2_with (go_at_call 107; refine (CP.out _).mono ?_; rintro e w' ⟨rfl, rfl⟩); go_ret; exact ⟨rfl, World.grownBy_alloc _ _ _⟩
      · rw [decide_eq_false h0]
        simp only [Bool.false_and]
        go_enter Tryz.func85, Tryz.ntmps85; go_wp2_with (go_at_call 107; refine (CP.out _).mono ?_; rintro e w' ⟨rfl, rfl⟩); go_ret; exact ⟨rfl, World.grownBy_alloc _ _ _⟩
  · rw [decide_eq_false hk]
    simp only [Bool.false_and]
    have h1 : x0 ≠ 0 := fun e => hk (.inl e)
    have h2 : x0 ≠ 1 := fun e => hk (.inr e)
    clear hk
    go_enter Tryz.func85, Tryz.ntmps85; go_wp2_with (go_at_call 107; refine (CP.out _).mono ?_; rintro e w' ⟨rfl, rfl⟩); go_ret; exact ⟨rfl, World.grownBy_alloc _ _ _⟩


#print axioms task_any
end Go.Proofs.YtlppfocoonnpjaaGreatDoor
