/- Tasks, turns, ticks, demands that may not be: plain numbers. -/
import Derived.Test.YtephnppanbckkaaLmath
namespace Go.Proofs.Ytephnppanbckkaa
open Go.RowKit

theorem conv_uf (x : Int) : ∃ U : Nat, IntKind.u64.wrap x = (U : Int) ∧ U < 18446744073709551616 := ⟨(IntKind.u64.wrap x).toNat, by rw [IntKind.wrap_u64]; omega, by rw [IntKind.wrap_u64]; omega⟩
theorem bad_pick {t : TaskV} {s : TurnsV} {d : Int} (h : (taskMay t && (turnsMay s && demMay d)) = false) : pickS t s d = ⟨0, []⟩ ∧ pickE t s d = 1100 := by
  unfold pickS pickE
  rw [h]
  exact ⟨rfl, rfl⟩
theorem bad_rel {t : TaskV} {s : TurnsV} {now : Int} (h : atMay t s now = false) : relS t s now = ⟨0, []⟩ ∧ relD t s now = 0 ∧ isB t s now = false ∧ lateB t s now = false := by
  unfold relS relD isB lateB
  rw [h]
  exact ⟨rfl, rfl, rfl, rfl⟩
theorem turns_parts {s : TurnsV} (h : turnsMay s = true) : -1 ≤ s.last ∧ s.last ≤ 1099511627776 ∧ s.picks.length ≤ 4 ∧ s.picks.all demMay = true := by
  unfold turnsMay at h
  simp only [Bool.and_eq_true, decide_eq_true_eq] at h
  exact h
/-- What the statement asks of a task, turns, a tick, a demand, one of which may not be. -/
structure FmAns (t : TaskV) (s : TurnsV) (now many : Int) (b : Bool) : Prop where
  may : taskMay t = b
  pick : pickS t s many = ⟨0, []⟩ ∧ pickE t s many = 1100
  rel : relS t s now = ⟨0, []⟩ ∧ relD t s now = 0 ∧ isB t s now = false ∧ lateB t s now = false
theorem fm_task {t : TaskV} {s : TurnsV} {now many : Int} (h : ¬ taskMay t = true) : FmAns t s now many false := by
  have h := Bool.eq_false_iff.2 h
  refine ⟨h, bad_pick (by rw [h]; rfl), bad_rel (by unfold atMay; rw [h]; rfl)⟩
theorem fm_turns {t : TaskV} {s : TurnsV} {now many : Int} (ht : taskMay t = true) (h : ¬ turnsMay s = true) : FmAns t s now many true := by
  have h := Bool.eq_false_iff.2 h
  refine ⟨ht, bad_pick (by rw [h, Bool.false_and, Bool.and_false]), bad_rel (by unfold atMay; rw [h, Bool.false_and, Bool.and_false])⟩
theorem fm_now {t : TaskV} {s : TurnsV} {now many : Int} (ht : taskMay t = true) (h1 : ¬ (0 ≤ now ∧ now ≤ 1099511627776)) (h2 : ¬ (1 ≤ many ∧ many ≤ 65535)) : FmAns t s now many true := by
  have h3 : demMay many = false := by
    cases h : demMay many with
    | false => rfl
    | true => unfold demMay at h; simp only [Bool.and_eq_true, decide_eq_true_eq] at h; exact absurd h h2
  have h4 : (decide (0 ≤ now) && decide (now ≤ 1099511627776)) = false := by
    cases h : (decide (0 ≤ now) && decide (now ≤ 1099511627776)) with
    | false => rfl
    | true => simp only [Bool.and_eq_true, decide_eq_true_eq] at h; exact absurd h h1
  refine ⟨ht, bad_pick (by rw [h3, Bool.and_false, Bool.and_false]), bad_rel (by unfold atMay; rw [h4, Bool.and_false, Bool.and_false])⟩
def fT : TaskV := ⟨1, 9, 8, 2, 3, 4⟩
theorem fT_may : taskMay fT = true := by decide
theorem fm0 {d : Int} (h1 : 1 ≤ d) : FmAns ⟨1 + d, 9, 8, 2, 3, 4⟩ ⟨1, [5]⟩ 20 7 false := fm_task fun h => by have := may_parts h; dsimp only at this; omega
theorem fm1 {d : Int} (h1 : 1 ≤ d) : FmAns ⟨1, 1 - d, 8, 2, 3, 4⟩ ⟨1, [5]⟩ 20 7 false := fm_task fun h => by have := may_parts h; dsimp only at this; omega
theorem fm2 {d : Int} (h1 : 1 ≤ d) : FmAns ⟨1, 1024 + d, 8, 2, 3, 4⟩ ⟨1, [5]⟩ 20 7 false := fm_task fun h => by have := may_parts h; dsimp only at this; omega
theorem fm3 {d : Int} (h1 : 1 ≤ d) : FmAns ⟨1, 9, 9 + d, 2, 3, 4⟩ ⟨1, [5]⟩ 20 7 false := fm_task fun h => by have := may_parts h; dsimp only at this; omega
theorem fm4 {d : Int} (h1 : 1 ≤ d) : FmAns ⟨1, 9, 8, 2, 8 + d, 4⟩ ⟨1, [5]⟩ 20 7 false := fm_task fun h => by have := may_parts h; dsimp only at this; omega
theorem fm5 {d : Int} (h1 : 1 ≤ d) : FmAns ⟨1, 9, 8, 3 + d, 3, 4⟩ ⟨1, [5]⟩ 20 7 false := fm_task fun h => by have := may_parts h; dsimp only at this; omega
theorem fm6 {d : Int} (h1 : 1 ≤ d) : FmAns ⟨1, 9, 8, 1 - d, 3, 4⟩ ⟨1, [5]⟩ 20 7 false := fm_task fun h => by have := may_parts h; dsimp only at this; omega
theorem fm7 {d : Int} (h1 : 1 ≤ d) : FmAns ⟨1, 9, 8, 2, 3, 255 + d⟩ ⟨1, [5]⟩ 20 7 false := fm_task fun h => by have := may_parts h; dsimp only at this; omega
theorem fm8 {d : Int} (h1 : 1 ≤ d) : FmAns ⟨1, 9, 8, 2, 3, -d⟩ ⟨1, [5]⟩ 20 7 false := fm_task fun h => by have := may_parts h; dsimp only at this; omega
theorem fm9 {d : Int} (h1 : 1 ≤ d) : FmAns fT ⟨-1 - d, [5]⟩ 20 7 true := fm_turns fT_may fun h => by have := turns_parts h; dsimp only at this; omega
theorem fm10 {d : Int} (h1 : 1 ≤ d) : FmAns fT ⟨1, [1 - d]⟩ 20 7 true := fm_turns fT_may fun h => by
  have := (turns_parts h).2.2.2
  unfold demMay at this
  simp only [List.all_cons, List.all_nil, Bool.and_true, Bool.and_eq_true, decide_eq_true_eq] at this
  omega
theorem fm12 {d : Int} (h1 : 1 ≤ d) : FmAns fT ⟨1, [5]⟩ (-d) (65535 + d) true := fm_now fT_may (by omega) (by omega)
theorem fm13 {d : Int} (h1 : 1 ≤ d) : FmAns fT ⟨1, [5]⟩ (1099511627776 + d) (1 - d) true := fm_now fT_may (by omega) (by omega)
theorem fm11 : FmAns fT ⟨1, [1, 2, 3, 4, 5]⟩ 20 7 true := fm_turns fT_may (by decide)
#print axioms fm11
end Go.Proofs.Ytephnppanbckkaa
