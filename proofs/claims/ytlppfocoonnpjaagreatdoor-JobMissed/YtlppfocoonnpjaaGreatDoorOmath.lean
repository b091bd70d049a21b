/- A schedule of one task, on lists alone: nothing of the program's functions. -/
import Derived.Test.YtlppfocoonnpjaaGreatDoorLmod
namespace Go.Proofs.YtlppfocoonnpjaaGreatDoor.L
open Go.RowKit
open Go.Proofs.YtlppfocoonnpjaaGreatDoor.J (JobV jz jobAt jobMay rowMay putV putE putL okB hasB leftV lateV chMay chJ chO chD chK chE oneMore)
open Go.Proofs.YtlppfocoonnpjaaGreatDoor.U (TurnsV turnsMay atMay isB relS relD pickS pickE lateB)

def one (i l : Int) (t : TaskV) (s : TurnsV) (q : Int) (js : List JobV) : LocV := ⟨i, l, [t], [s], [q], js⟩
section
variable {i l : Int} {t : TaskV} {s : TurnsV} {q : Int} {js : List JobV} {now : Int}
theorem one_begin (h : tickB now = true) : beginL (one i l t s q js) now = stepL now (one i l t s q (leftV js now)) 0 := by
  unfold beginL
  rw [if_pos h]
  rfl
theorem one_beginV (h : tickB now = true) : beginV (one i l t s q js) now = (lateV js now).map (fun j => ⟨3, i, j.task, j.used⟩) ++ stepV now (one i l t s q (leftV js now)) 0 := by
  unfold beginV
  rw [if_pos h]
  rfl
theorem put_nil {j : JobV} (h : jobMay j = true) : putE [] j = 0 ∧ putV [] j = [j] := by
  have e : okB [] j = true := by unfold okB; rw [h]; rfl
  unfold putE putV
  rw [e]
  exact ⟨rfl, rfl⟩
theorem row_one' {j : JobV} (h : jobMay j = true) : rowMay [j] = true := by rw [J.row_one]; exact h
theorem left_one {j : JobV} (h : jobMay j = true) : leftV [j] now = if j.dead ≤ now then [] else [j] := by
  unfold leftV
  rw [if_pos (row_one' h)]
  by_cases h1 : j.dead ≤ now <;> simp [h1]
theorem late_one {j : JobV} (h : jobMay j = true) : lateV [j] now = if j.dead ≤ now then [j] else [] := by
  unfold lateV
  rw [if_pos (row_one' h)]
  by_cases h1 : j.dead ≤ now <;> simp [h1]
theorem late_nil : lateV [] now = [] := by unfold lateV; rw [if_pos row_nil]; rfl
theorem left_nil : leftV [] now = [] := by unfold leftV; rw [if_pos row_nil]; rfl
theorem step_no (h : isB t s now = false) : stepL now (one i l t s q js) 0 = one i l t s q js ∧ stepV now (one i l t s q js) 0 = [] := by
  unfold stepL stepV
  rw [show isB ((one i l t s q js).taskAt 0) ((one i l t s q js).turnAt 0) now = false from h]
  exact ⟨rfl, rfl⟩
theorem step_yes {D : Int} {s' : TurnsV} (h : isB t s now = true) (hD : relD t s now = D) (hS : relS t s now = s') (hj : jobMay ⟨0, q, t.prio, now, now + t.deadline, D, 0⟩ = true) : stepL now (one i l t s q []) 0 = one i l t s' (q + 1) [⟨0, q, t.prio, now, now + t.deadline, D, 0⟩] ∧ stepV now (one i l t s q []) 0 = [⟨1, i, 0, D⟩] := by
  have hp := put_nil hj
  have e : newJob (one i l t s q []) now 0 = ⟨0, q, t.prio, now, now + t.deadline, D, 0⟩ := by unfold newJob; rw [show relD ((one i l t s q []).taskAt 0) ((one i l t s q []).turnAt 0) now = D from hD]; rfl
  have e2 : (one i l t s q []).jobs = [] := rfl
  unfold stepL stepV
  rw [show isB ((one i l t s q []).taskAt 0) ((one i l t s q []).turnAt 0) now = true from h, if_pos rfl, if_pos rfl, e, e2, hp.1, hp.2, if_pos rfl, if_pos rfl]
  refine ⟨?_, ?_⟩
  · rw [show relS ((one i l t s q []).taskAt 0) ((one i l t s q []).turnAt 0) now = s' from hS]; rfl
  · rw [show relD ((one i l t s q []).taskAt 0) ((one i l t s q []).turnAt 0) now = D from hD]; rfl
/-- A run of a job alone. -/
theorem one_head {j : JobV} : headJ (one i l t s q [j]) = j := rfl
theorem one_runN {j : JobV} : runN (one i l t s q [j]) = 0 := rfl
theorem one_run {j : JobV} (h0 : j.task = 0) (hD : ¬j.used + 1 = j.dem) (hK : ¬j.used + 1 = J.endOf t l) : runL (one i l t s q [j]) = one i l t s q [oneMore j] := by
  have hd : runD (one i l t s q [j]) = false := by
    show chD j ([t][j.task.toNat]?.getD tz) l = false
    rw [h0]
    show chD j t l = false
    unfold chD
    rw [decide_eq_false hD, Bool.and_false]
  have hk : runK (one i l t s q [j]) = false := by
    show chK j ([t][j.task.toNat]?.getD tz) l = false
    rw [h0]
    show chK j t l = false
    unfold chK J.spentB
    rw [show (oneMore j).used = j.used + 1 from rfl, decide_eq_false hK, Bool.false_and, Bool.and_false]
  unfold runL
  rw [hd, hk]
  rfl
theorem one_runO {j : JobV} (h0 : j.task = 0) : runO (one i l t s q [j]) = chO j t l := by
  show chO j ([t][j.task.toNat]?.getD tz) l = _
  rw [h0]; rfl
theorem one_runD {j : JobV} (h0 : j.task = 0) : runD (one i l t s q [j]) = chD j t l := by
  show chD j ([t][j.task.toNat]?.getD tz) l = _
  rw [h0]; rfl
theorem one_runK {j : JobV} (h0 : j.task = 0) : runK (one i l t s q [j]) = chK j t l := by
  show chK j ([t][j.task.toNat]?.getD tz) l = _
  rw [h0]; rfl
theorem one_gone {j : JobV} (h : (runD (one i l t s q [j]) || runK (one i l t s q [j])) = true) : runL (one i l t s q [j]) = one i l t s q [] := by
  unfold runL
  rw [if_neg (by intro e; cases e), if_pos h]
  rfl
end

/-! JobMissed. -/
def tM (p d : Int) : TaskV := ⟨0, p, d, d, d, 0⟩
def misA (p d lv u : Int) : LocV := one 1 lv (tM p d) ⟨0, []⟩ 1 [⟨0, 0, 0, 0, d, d, u⟩]
def misN (p d lv : Int) : LocV := one 1 lv (tM p d) ⟨-1, []⟩ 0 []
theorem tM_may {p d : Int} (h1 : 1 ≤ d) (h2 : d ≤ p) (h3 : p ≤ 33) : taskMay (tM p d) = true := by
  unfold taskMay tM
  simp only [Bool.and_eq_true, decide_eq_true_eq, true_or, true_and]
  omega
theorem turns_no {x : Int} (h : -1 ≤ x) (h2 : x ≤ 1099511627776) : turnsMay ⟨x, []⟩ = true := by
  unfold turnsMay
  simp only [Bool.and_eq_true, decide_eq_true_eq]
  exact ⟨h, h2, by simp, by simp⟩
theorem tick_of {now : Int} (h : 0 ≤ now) (h2 : now ≤ 1099511627776) : tickB now = true := by
  unfold tickB
  simp only [Bool.and_eq_true, decide_eq_true_eq]
  omega
theorem at_of {t : TaskV} {s : TurnsV} {now : Int} (h1 : taskMay t = true) (h2 : turnsMay s = true) (h3 : tickB now = true) : atMay t s now = true := by
  unfold atMay
  rw [h1, h2]
  exact h3
theorem is_reg {t : TaskV} {s : TurnsV} {now : Int} (h : atMay t s now = true) (hk : t.kind = 0) : isB t s now = decide (now % t.period = 0) := by
  unfold isB U.comesB
  rw [h, hk]
  rfl
theorem rel_of {t : TaskV} {s : TurnsV} {now : Int} (h : isB t s now = true) : relS t s now = ⟨now, s.picks.drop 1⟩ ∧ relD t s now = s.picks[0]?.getD t.clow := by
  have h1 := h
  unfold isB at h1
  rw [Bool.and_eq_true] at h1
  unfold relS relD
  rw [if_pos h1.1, if_pos h1.2, if_pos h]
  exact ⟨rfl, rfl⟩
theorem mis0 {p d lv : Int} (h1 : 1 ≤ d) (h2 : d ≤ p) (h3 : p ≤ 33) : beginL (misN p d lv) 0 = misA p d lv 0 ∧ beginV (misN p d lv) 0 = [⟨1, 1, 0, d⟩] := by
  have ht : tickB 0 = true := by decide
  have hi : isB (tM p d) ⟨-1, []⟩ 0 = true := by rw [is_reg (at_of (tM_may h1 h2 h3) (turns_no (by decide) (by decide)) ht) rfl]; simp
  have hr := rel_of hi
  have hs := step_yes (i := 1) (l := lv) (q := 0) hi hr.2 hr.1 (by
    unfold jobMay tM
    simp only [Bool.and_eq_true, decide_eq_true_eq, List.getElem?_nil, Option.getD_none]
    omega)
  unfold misN misA
  rw [one_begin ht, one_beginV ht, left_nil, late_nil, hs.1, hs.2]
  refine ⟨?_, rfl⟩
  simp [tM]
theorem job_mis {p d u : Int} (h1 : 1 ≤ d) (h2 : d ≤ p) (h3 : p ≤ 33) (h4 : 0 ≤ u) (h5 : u < d) : jobMay ⟨0, 0, 0, 0, d, d, u⟩ = true := by
  unfold jobMay
  simp only [Bool.and_eq_true, decide_eq_true_eq]
  omega
theorem misK {p d lv u now : Int} (h1 : 1 ≤ d) (h2 : d ≤ p) (h3 : p ≤ 33) (h4 : 0 ≤ u) (h5 : u < d) (h6 : 1 ≤ now) (h7 : now < d) : beginL (misA p d lv u) now = misA p d lv u ∧ beginV (misA p d lv u) now = [] := by
  have ht : tickB now = true := tick_of (by omega) (by omega)
  have hi : isB (tM p d) ⟨0, []⟩ now = false := by
    rw [is_reg (at_of (tM_may h1 h2 h3) (turns_no (by decide) (by decide)) ht) rfl]
    refine decide_eq_false ?_
    show ¬now % p = 0
    rw [Int.emod_eq_of_lt (by omega) (by omega)]
    omega
  have hj := job_mis h1 h2 h3 h4 h5
  have hs := step_no (i := 1) (l := lv) (q := 1) (js := [⟨0, 0, 0, 0, d, d, u⟩]) hi
  unfold misA
  rw [one_begin ht, one_beginV ht, left_one hj, late_one hj, if_neg (show ¬d ≤ now by omega), if_neg (show ¬d ≤ now by omega), hs.1, hs.2]
  exact ⟨rfl, rfl⟩
theorem misE {p d lv u : Int} (h1 : 1 ≤ d) (h2 : d ≤ p) (h3 : p ≤ 33) (h4 : 0 ≤ u) (h5 : u < d) : beginV (misA p d lv u) d = ⟨3, 1, 0, u⟩ :: (if d % p = 0 then [⟨1, 1, 0, d⟩] else []) ∧ (0 < (beginL (misA p d lv u) d).jobs.length ↔ d = p) := by
  have ht : tickB d = true := tick_of (by omega) (by omega)
  have hi : isB (tM p d) ⟨0, []⟩ d = decide (d % p = 0) := is_reg (at_of (tM_may h1 h2 h3) (turns_no (by decide) (by decide)) ht) rfl
  have hj := job_mis h1 h2 h3 h4 h5
  unfold misA
  rw [one_begin ht, one_beginV ht, left_one hj, late_one hj, if_pos (show d ≤ d by omega), if_pos (show d ≤ d by omega)]
  by_cases hdp : d = p
  · have hm : d % p = 0 := by rw [hdp]; exact Int.emod_self
    rw [decide_eq_true hm] at hi
    have hr := rel_of hi
    have hs := step_yes (i := 1) (l := lv) (q := 1) hi hr.2 hr.1 (by
      unfold jobMay tM
      simp only [Bool.and_eq_true, decide_eq_true_eq, List.getElem?_nil, Option.getD_none]
      omega)
    rw [hs.1, hs.2, if_pos hm]
    exact ⟨rfl, ⟨fun _ => hdp, fun _ => by show 0 < 1; omega⟩⟩
  · have hm : ¬d % p = 0 := by rw [Int.emod_eq_of_lt (by omega) (by omega)]; omega
    rw [decide_eq_false hm] at hi
    have hs := step_no (i := 1) (l := lv) (q := 1) (js := []) hi
    rw [hs.1, hs.2, if_neg hm]
    exact ⟨rfl, ⟨fun h => absurd h (by show ¬0 < 0; omega), fun h => absurd h hdp⟩⟩
theorem lev_may {lv : Int} (h : lv = 0 ∨ lv = 1) : J.levMay lv = true := decide_eq_true h
theorem misR {p d lv u : Int} (h5 : u + 1 < d) : runL (misA p d lv u) = misA p d lv (u + 1) := by
  unfold misA
  rw [one_run rfl (show ¬u + 1 = d by omega) (by unfold J.endOf tM; split <;> (show ¬u + 1 = d) <;> omega)]
  rfl
#print axioms misR
end Go.Proofs.YtlppfocoonnpjaaGreatDoor.L
