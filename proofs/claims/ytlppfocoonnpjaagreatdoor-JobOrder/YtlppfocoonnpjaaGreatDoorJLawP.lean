/- Contracts for the laws' walks: Charge with what it answers as letters. -/
import Derived.Test.YtlppfocoonnpjaaGreatDoorJCha
namespace Go.Proofs.YtlppfocoonnpjaaGreatDoor.J
open Go.RowKit
attribute [local go_sem] alloc_drewN setCell_drewN

theorem num_to (e : Int) (w : World) :
    Calls Tryz.prog 13 #[.int .i64 e] w fun r w' => r = .returned (.int .i64 e) ∧ w = w' := by
  go_enter Tryz.func13, Tryz.ntmps13
  go_wp2
  go_ret
  exact ⟨rfl, rfl⟩
/-- What Charge answers, all of it. -/
abbrev chV (j : JobV) (t : TaskV) (l : Int) : Value := .tuple #[jobVal (chJ j t l), verVal (chO j t l) (chD j t l) (chK j t l), .int .i64 (chE j t l)]
theorem chV_no {j : JobV} {t : TaskV} {l : Int} (h : chMay j t l = false) : chV j t l = .tuple #[jobVal jz, verVal false false false, .int .i64 1300] := by
  unfold chV chJ chO chD chK chE
  rw [h]
  rfl
theorem chV_hi {j : JobV} {t : TaskV} (h : chMay j t 1 = true) : chV j t 1 = .tuple #[jobVal (oneMore j), verVal (spentB t.clow (oneMore j)) (decide (j.used + 1 = j.dem)) (spentB t.chigh (oneMore j)), .int .i64 0] := by
  unfold chV chJ chO chD chK chE
  rw [h]
  rfl
theorem chV_lo {j : JobV} {t : TaskV} (h : chMay j t 0 = true) : chV j t 0 = .tuple #[jobVal (oneMore j), verVal false (decide (j.used + 1 = j.dem)) (spentB t.clow (oneMore j)), .int .i64 0] := by
  unfold chV chJ chO chD chK chE
  rw [h]
  rfl
theorem lev_of {j : JobV} {t : TaskV} {l : Int} (h : chMay j t l = true) : l = 0 ∨ l = 1 := by
  unfold chMay levMay at h
  simp only [Bool.and_eq_true, decide_eq_true_eq] at h
  exact h.2.2
theorem ch_any (j : JobV) (t : TaskV) (l : Int) (w : World) : Calls Tryz.prog 51 #[jobVal j, taskVal t, .int .i64 l] w fun e w' => e = .returned (chV j t l) ∧ w.grownBy w' none := by
  cases h : chMay j t l with
  | false => rw [chV_no h]; exact ch_bad j t l w w (grownBy_refl _ _) h
  | true =>
    rcases lev_of h with rfl | rfl
    · rw [chV_lo h]; exact ch_low j t w w (grownBy_refl _ _) h
    · rw [chV_hi h]; exact ch_high j t w w (grownBy_refl _ _) h
#print axioms ch_any
end Go.Proofs.YtlppfocoonnpjaaGreatDoor.J
