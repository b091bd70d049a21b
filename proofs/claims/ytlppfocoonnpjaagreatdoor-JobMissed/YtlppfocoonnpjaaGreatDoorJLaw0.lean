/- Contracts for the laws' walks: the statements' own Num, Charge and the document's Charge with what they answer as letters. -/
import Derived.Test.YtlppfocoonnpjaaGreatDoorJRefC
import Derived.Test.YtlppfocoonnpjaaGreatDoorJRefC2
namespace Go.Proofs.YtlppfocoonnpjaaGreatDoor.J
open Go.RowKit
attribute [local go_sem] alloc_drewN setCell_drewN

theorem num_to (e : Int) (w : World) :
    Calls Tryz.prog 13 #[.int .i64 e] w fun r w' => r = .returned (.int .i64 e) ∧ w = w' := by
  go_enter Tryz.func13, Tryz.ntmps13
  go_wp2
  go_ret
  exact ⟨rfl, rfl⟩
/-- What Charge answers, all of it. -/
abbrev chV (j : JobV) (t : TaskV) (l : Int) : Value := .tuple #[jobVal (chJ j t l), verVal (chO j t l) (chD j t l) (chK j t l), .int .i64 (chE j t l)]
theorem chV_no {j : JobV} {t : TaskV} {l : Int} (h : chMay j t l = false) : chV j t l = .tuple #[jobVal jz, verVal false false false, .int .i64 1300] := by
  unfold chV chJ chO chD chK chE
  rw [h]
  rfl
theorem chV_hi {j : JobV} {t : TaskV} (h : chMay j t 1 = true) : chV j t 1 = .tuple #[jobVal (oneMore j), verVal (spentB t.clow (oneMore j)) (decide (j.used + 1 = j.dem)) (spentB t.chigh (oneMore j)), .int .i64 0] := by
  unfold chV chJ chO chD chK chE
  rw [h]
  rfl
theorem chV_lo {j : JobV} {t : TaskV} (h : chMay j t 0 = true) : chV j t 0 = .tuple #[jobVal (oneMore j), verVal false (decide (j.used + 1 = j.dem)) (spentB t.clow (oneMore j)), .int .i64 0] := by
  unfold chV chJ chO chD chK chE
  rw [h]
  rfl
theorem lev_of {j : JobV} {t : TaskV} {l : Int} (h : chMay j t l = true) : l = 0 ∨ l = 1 := by
  unfold chMay levMay at h
  simp only [Bool.and_eq_true, decide_eq_true_eq] at h
  exact h.2.2
theorem ch_any (j : JobV) (t : TaskV) (l : Int) (w : World) : Calls Tryz.prog 51 #[jobVal j, taskVal t, .int .i64 l] w fun e w' => e = .returned (chV j t l) ∧ w.grownBy w' none := by
  cases h : chMay j t l with
  | false => rw [chV_no h]; exact ch_bad j t l w w (grownBy_refl _ _) h
  | true =>
    rcases lev_of h with rfl | rfl
    · rw [chV_lo h]; exact ch_low j t w w (grownBy_refl _ _) h
    · rw [chV_hi h]; exact ch_high j t w w (grownBy_refl _ _) h
/-- The document's. -/
theorem rch_any (j : JobV) (t : TaskV) (l : Int) (w : World) : Calls Tryz.prog 54 #[jobVal j, taskVal t, .int .i64 l] w fun e w' => e = .returned (chV j t l) ∧ w.grownBy w' none := by
  cases hj : jobMay j with
  | false => rw [chV_no (by unfold chMay; rw [hj]; rfl)]; exact rch_j j t l w w (grownBy_refl _ _) hj
  | true =>
    cases ht : taskMay t with
    | false => rw [chV_no (by unfold chMay; rw [ht, Bool.false_and, Bool.and_false])]; exact rch_t j t l w w (grownBy_refl _ _) hj ht
    | true =>
      have hp := job_parts hj
      have hs : ∀ b : Int, ∀ d : Bool, (j.used + 1 == j.dem) = d → spentB b (oneMore j) = ((j.used + 1 == b) && !d) := by
        intro b d hd
        subst hd
        unfold spentB oneMore
        dsimp only
        show (decide (j.used + 1 = b) && decide (j.used + 1 < j.dem)) = (decide (j.used + 1 = b) && !decide (j.used + 1 = j.dem))
        by_cases h : j.used + 1 = j.dem
        · rw [decide_eq_true h, decide_eq_false (show ¬(j.used + 1 < j.dem) by omega)]; rfl
        · rw [decide_eq_false h, decide_eq_true (show j.used + 1 < j.dem by omega)]; rfl
      have hd2 : ∀ d : Bool, (j.used + 1 == j.dem) = d → decide (j.used + 1 = j.dem) = d := fun d h => h
      by_cases h0 : l = 0
      · subst h0
        rw [chV_lo (by unfold chMay; rw [hj, ht]; rfl)]
        cases hd : (j.used + 1 == j.dem) with
        | false => rw [hs _ _ hd, hd2 _ hd, Bool.not_false, Bool.and_true]; exact rch_lo0 j t w w (grownBy_refl _ _) hj ht hd
        | true => rw [hs _ _ hd, hd2 _ hd, Bool.not_true, Bool.and_false]; exact rch_lo1 j t w w (grownBy_refl _ _) hj ht hd
      · by_cases h1 : l = 1
        · subst h1
          rw [chV_hi (by unfold chMay; rw [hj, ht]; rfl)]
          cases hd : (j.used + 1 == j.dem) with
          | false =>
            rw [hs _ _ hd, hs _ _ hd, hd2 _ hd, Bool.not_false, Bool.and_true, Bool.and_true]
            cases hc : (j.used + 1 == t.clow) with
            | false => exact rch_hi00 j t w w (grownBy_refl _ _) hj ht hc hd
            | true => exact rch_hi10 j t w w (grownBy_refl _ _) hj ht hc hd
          | true =>
            rw [hs _ _ hd, hs _ _ hd, hd2 _ hd, Bool.not_true, Bool.and_false, Bool.and_false]
            cases hc : (j.used + 1 == t.clow) with
            | false => exact rch_hi01 j t w w (grownBy_refl _ _) hj ht hc hd
            | true => exact rch_hi11 j t w w (grownBy_refl _ _) hj ht hc hd
        · rw [chV_no (by unfold chMay levMay; rw [hj, ht, decide_eq_false (fun h => h.elim h0 h1)]; rfl)]
          exact rch_l j t l w w (grownBy_refl _ _) hj ht (by simpa using h0) (by simpa using h1)
theorem ch_at {j x : JobV} {t : TaskV} {l E : Int} {bo bd bk : Bool} (w : World) (h : chV j t l = .tuple #[jobVal x, verVal bo bd bk, .int .i64 E]) :
    Calls Tryz.prog 51 #[jobVal j, taskVal t, .int .i64 l] w fun e w' => e = .returned (.tuple #[jobVal x, verVal bo bd bk, .int .i64 E]) ∧ w.grownBy w' none := by
  rw [← h]; exact ch_any j t l w
#print axioms ch_any
#print axioms rch_any
end Go.Proofs.YtlppfocoonnpjaaGreatDoor.J
