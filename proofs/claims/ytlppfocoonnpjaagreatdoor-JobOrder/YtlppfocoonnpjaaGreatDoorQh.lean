/- A schedule of one task, on lists alone: nothing of the program's functions. A part of one task may be: on lists alone. The low bits of a number. -/
import Derived.Test.YtlppfocoonnpjaaGreatDoorQc
import Derived.Test.YtlppfocoonnpjaaGreatDoorPNewt
import Derived.Test.YtlppfocoonnpjaaGreatDoorCommon

namespace Go.Proofs.YtlppfocoonnpjaaGreatDoor.L
open Go.RowKit
open Go.Proofs.YtlppfocoonnpjaaGreatDoor.J (JobV jz jobAt jobMay rowMay putV putE putL okB hasB leftV lateV chMay chJ chO chD chK chE oneMore)
open Go.Proofs.YtlppfocoonnpjaaGreatDoor.U (TurnsV turnsMay atMay isB relS relD pickS pickE lateB)

def one (i l : Int) (t : TaskV) (s : TurnsV) (q : Int) (js : List JobV) : LocV := ⟨i, l, [t], [s], [q], js⟩
section
variable {i l : Int} {t : TaskV} {s : TurnsV} {q : Int} {js : List JobV} {now : Int}
theorem one_begin (h : tickB now = true) : beginL (one i l t s q js) now = stepL now (one i l t s q (leftV js now)) 0 := by
  unfold beginL
  rw [if_pos h]
  rfl
theorem one_beginV (h : tickB now = true) : beginV (one i l t s q js) now = (lateV js now).map (fun j => ⟨3, i, j.task, j.used⟩) ++ stepV now (one i l t s q (leftV js now)) 0 := by
  unfold beginV
  rw [if_pos h]
  rfl
theorem put_nil {j : JobV} (h : jobMay j = true) : putE [] j = 0 ∧ putV [] j = [j] := by
  have e : okB [] j = true := by unfold okB; rw [h]; rfl
  unfold putE putV
  rw [e]
  exact ⟨rfl, rfl⟩
theorem row_one' {j : JobV} (h : jobMay j = true) : rowMay [j] = true := by rw [J.row_one]; exact h
theorem left_one {j : JobV} (h : jobMay j = true) : leftV [j] now = if j.dead ≤ now then [] else [j] := by
  unfold leftV
  rw [if_pos (row_one' h)]
  by_cases h1 : j.dead ≤ now <;> simp [h1]
theorem late_one {j : JobV} (h : jobMay j = true) : lateV [j] now = if j.dead ≤ now then [j] else [] := by
  unfold lateV
  rw [if_pos (row_one' h)]
  by_cases h1 : j.dead ≤ now <;> simp [h1]
theorem late_nil : lateV [] now = [] := by unfold lateV; rw [if_pos row_nil]; rfl
theorem left_nil : leftV [] now = [] := by unfold leftV; rw [if_pos row_nil]; rfl
theorem step_no (h : isB t s now = false) : stepL now (one i l t s q js) 0 = one i l t s q js ∧ stepV now (one i l t s q js) 0 = [] := by
  unfold stepL stepV
  rw [show isB ((one i l t s q js).taskAt 0) ((one i l t s q js).turnAt 0) now = false from h]
  exact ⟨rfl, rfl⟩
theorem step_yes {D : Int} {s' : TurnsV} (h : isB t s now = true) (hD : relD t s now = D) (hS : relS t s now = s') (hj : jobMay ⟨0, q, t.prio, now, now + t.deadline, D, 0⟩ = true) : stepL now (one i l t s q []) 0 = one i l t s' (q + 1) [⟨0, q, t.prio, now, now + t.deadline, D, 0⟩] ∧ stepV now (one i l t s q []) 0 = [⟨1, i, 0, D⟩] := by
  have hp := put_nil hj
  have e : newJob (one i l t s q []) now 0 = ⟨0, q, t.prio, now, now + t.deadline, D, 0⟩ := by unfold newJob; rw [show relD ((one i l t s q []).taskAt 0) ((one i l t s q []).turnAt 0) now = D from hD]; rfl
  have e2 : (one i l t s q []).jobs = [] := rfl
  unfold stepL stepV
  rw [show isB ((one i l t s q []).taskAt 0) ((one i l t s q []).turnAt 0) now = true from h, if_pos rfl, if_pos rfl, e, e2, hp.1, hp.2, if_pos rfl, if_pos rfl]
  refine ⟨?_, ?_⟩
  · rw [show relS ((one i l t s q []).taskAt 0) ((one i l t s q []).turnAt 0) now = s' from hS]; rfl
  · rw [show relD ((one i l t s q []).taskAt 0) ((one i l t s q []).turnAt 0) now = D from hD]; rfl
/-- A run of a job alone. -/
theorem one_head {j : JobV} : headJ (one i l t s q [j]) = j := rfl
theorem one_runN {j : JobV} : runN (one i l t s q [j]) = 0 := rfl
theorem one_run {j : JobV} (h0 : j.task = 0) (hD : ¬j.used + 1 = j.dem) (hK : ¬j.used + 1 = J.endOf t l) : runL (one i l t s q [j]) = one i l t s q [oneMore j] := by
  have hd : runD (one i l t s q [j]) = false := by
    show chD j ([t][j.task.toNat]?.getD tz) l = false
    rw [h0]
    show chD j t l = false
    unfold chD
    rw [decide_eq_false hD, Bool.and_false]
  have hk : runK (one i l t s q [j]) = false := by
    show chK j ([t][j.task.toNat]?.getD tz) l = false
    rw [h0]
    show chK j t l = false
    unfold chK J.spentB
    rw [show (oneMore j).used = j.used + 1 from rfl, decide_eq_false hK, Bool.false_and, Bool.and_false]
  unfold runL
  rw [hd, hk]
  rfl
theorem one_runO {j : JobV} (h0 : j.task = 0) : runO (one i l t s q [j]) = chO j t l := by
  show chO j ([t][j.task.toNat]?.getD tz) l = _
  rw [h0]; rfl
theorem one_runD {j : JobV} (h0 : j.task = 0) : runD (one i l t s q [j]) = chD j t l := by
  show chD j ([t][j.task.toNat]?.getD tz) l = _
  rw [h0]; rfl
theorem one_runK {j : JobV} (h0 : j.task = 0) : runK (one i l t s q [j]) = chK j t l := by
  show chK j ([t][j.task.toNat]?.getD tz) l = _
  rw [h0]; rfl
theorem one_gone {j : JobV} (h : (runD (one i l t s q [j]) || runK (one i l t s q [j])) = true) : runL (one i l t s q [j]) = one i l t s q [] := by
  unfold runL
  rw [if_neg (by intro e; cases e), if_pos h]
  rfl
end

/-! JobMissed. -/
def tM (p d : Int) : TaskV := ⟨0, p, d, d, d, 0⟩
def misA (p d lv u : Int) : LocV := one 1 lv (tM p d) ⟨0, []⟩ 1 [⟨0, 0, 0, 0, d, d, u⟩]
def misN (p d lv : Int) : LocV := one 1 lv (tM p d) ⟨-1, []⟩ 0 []
theorem tM_may {p d : Int} (h1 : 1 ≤ d) (h2 : d ≤ p) (h3 : p ≤ 33) : taskMay (tM p d) = true := by
  unfold taskMay tM
  simp only [Bool.and_eq_true, decide_eq_true_eq, true_or, true_and]
  omega
theorem turns_no {x : Int} (h : -1 ≤ x) (h2 : x ≤ 1099511627776) : turnsMay ⟨x, []⟩ = true := by
  unfold turnsMay
  simp only [Bool.and_eq_true, decide_eq_true_eq]
  exact ⟨h, h2, by simp, by simp⟩
theorem tick_of {now : Int} (h : 0 ≤ now) (h2 : now ≤ 1099511627776) : tickB now = true := by
  unfold tickB
  simp only [Bool.and_eq_true, decide_eq_true_eq]
  omega
theorem at_of {t : TaskV} {s : TurnsV} {now : Int} (h1 : taskMay t = true) (h2 : turnsMay s = true) (h3 : tickB now = true) : atMay t s now = true := by
  unfold atMay
  rw [h1, h2]
  exact h3
theorem is_reg {t : TaskV} {s : TurnsV} {now : Int} (h : atMay t s now = true) (hk : t.kind = 0) : isB t s now = decide (now % t.period = 0) := by
  unfold isB U.comesB
  rw [h, hk]
  rfl
theorem rel_of {t : TaskV} {s : TurnsV} {now : Int} (h : isB t s now = true) : relS t s now = ⟨now, s.picks.drop 1⟩ ∧ relD t s now = s.picks[0]?.getD t.clow := by
  have h1 := h
  unfold isB at h1
  rw [Bool.and_eq_true] at h1
  unfold relS relD
  rw [if_pos h1.1, if_pos h1.2, if_pos h]
  exact ⟨rfl, rfl⟩
theorem mis0 {p d lv : Int} (h1 : 1 ≤ d) (h2 : d ≤ p) (h3 : p ≤ 33) : beginL (misN p d lv) 0 = misA p d lv 0 ∧ beginV (misN p d lv) 0 = [⟨1, 1, 0, d⟩] := by
  have ht : tickB 0 = true := by decide
  have hi : isB (tM p d) ⟨-1, []⟩ 0 = true := by rw [is_reg (at_of (tM_may h1 h2 h3) (turns_no (by decide) (by decide)) ht) rfl]; simp
  have hr := rel_of hi
  have hs := step_yes (i := 1) (l := lv) (q := 0) hi hr.2 hr.1 (by
    unfold jobMay tM
    simp only [Bool.and_eq_true, decide_eq_true_eq, List.getElem?_nil, Option.getD_none]
    omega)
  unfold misN misA
  rw [one_begin ht, one_beginV ht, left_nil, late_nil, hs.1, hs.2]
  refine ⟨?_, rfl⟩
  simp [tM]
theorem job_mis {p d u : Int} (h1 : 1 ≤ d) (h2 : d ≤ p) (h3 : p ≤ 33) (h4 : 0 ≤ u) (h5 : u < d) : jobMay ⟨0, 0, 0, 0, d, d, u⟩ = true := by
  unfold jobMay
  simp only [Bool.and_eq_true, decide_eq_true_eq]
  omega
theorem misK {p d lv u now : Int} (h1 : 1 ≤ d) (h2 : d ≤ p) (h3 : p ≤ 33) (h4 : 0 ≤ u) (h5 : u < d) (h6 : 1 ≤ now) (h7 : now < d) : beginL (misA p d lv u) now = misA p d lv u ∧ beginV (misA p d lv u) now = [] := by
  have ht : tickB now = true := tick_of (by omega) (by omega)
  have hi : isB (tM p d) ⟨0, []⟩ now = false := by
    rw [is_reg (at_of (tM_may h1 h2 h3) (turns_no (by decide) (by decide)) ht) rfl]
    refine decide_eq_false ?_
    show ¬now % p = 0
    rw [Int.emod_eq_of_lt (by omega) (by omega)]
    omega
  have hj := job_mis h1 h2 h3 h4 h5
  have hs := step_no (i := 1) (l := lv) (q := 1) (js := [⟨0, 0, 0, 0, d, d, u⟩]) hi
  unfold misA
  rw [one_begin ht, one_beginV ht, left_one hj, late_one hj, if_neg (show ¬d ≤ now by omega), if_neg (show ¬d ≤ now by omega), hs.1, hs.2]
  exact ⟨rfl, rfl⟩
theorem misE {p d lv u : Int} (h1 : 1 ≤ d) (h2 : d ≤ p) (h3 : p ≤ 33) (h4 : 0 ≤ u) (h5 : u < d) : beginV (misA p d lv u) d = ⟨3, 1, 0, u⟩ :: (if d % p = 0 then [⟨1, 1, 0, d⟩] else []) ∧ (0 < (beginL (misA p d lv u) d).jobs.length ↔ d = p) := by
  have ht : tickB d = true := tick_of (by omega) (by omega)
  have hi : isB (tM p d) ⟨0, []⟩ d = decide (d % p = 0) := is_reg (at_of (tM_may h1 h2 h3) (turns_no (by decide) (by decide)) ht) rfl
  have hj := job_mis h1 h2 h3 h4 h5
  unfold misA
  rw [one_begin ht, one_beginV ht, left_one hj, late_one hj, if_pos (show d ≤ d by omega), if_pos (show d ≤ d by omega)]
  by_cases hdp : d = p
  · have hm : d % p = 0 := by rw [hdp]; exact Int.emod_self
    rw [decide_eq_true hm] at hi
    have hr := rel_of hi
    have hs := step_yes (i := 1) (l := lv) (q := 1) hi hr.2 hr.1 (by
      unfold jobMay tM
      simp only [Bool.and_eq_true, decide_eq_true_eq, List.getElem?_nil, Option.getD_none]
      omega)
    rw [hs.1, hs.2, if_pos hm]
    exact ⟨rfl, ⟨fun _ => hdp, fun _ => by show 0 < 1; omega⟩⟩
  · have hm : ¬d % p = 0 := by rw [Int.emod_eq_of_lt (by omega) (by omega)]; omega
    rw [decide_eq_false hm] at hi
    have hs := step_no (i := 1) (l := lv) (q := 1) (js := []) hi
    rw [hs.1, hs.2, if_neg hm]
    exact ⟨rfl, ⟨fun h => absurd h (by show ¬0 < 0; omega), fun h => absurd h hdp⟩⟩
theorem lev_may {lv : Int} (h : lv = 0 ∨ lv = 1) : J.levMay lv = true := decide_eq_true h
theorem misR {p d lv u : Int} (h5 : u + 1 < d) : runL (misA p d lv u) = misA p d lv (u + 1) := by
  unfold misA
  rw [one_run rfl (show ¬u + 1 = d by omega) (by unfold J.endOf tM; split <;> (show ¬u + 1 = d) <;> omega)]
  rfl
end Go.Proofs.YtlppfocoonnpjaaGreatDoor.L

namespace Go.Proofs.YtlppfocoonnpjaaGreatDoor.L
open Go.RowKit

theorem allB_one {f : Nat → Bool} (h : f 0 = true) : allB 1 f = true := allB_true fun k hk => by
  obtain rfl : k = 0 := by omega
  exact h
/-- A part of one task may be. -/
theorem one_ok {i l : Int} {t : TaskV} (h0 : 0 ≤ i) (h8 : i < 8) (hl : l = 0 ∨ l = 1) (ht : taskMay t = true) (hc : l = 0 → t.chigh = t.clow) : newOk i ⟨l, [t], []⟩ = true := by
  have e0 : levelB l = true := by unfold levelB; rcases hl with rfl | rfl <;> rfl
  have e1 : partsB [⟨l, [t], []⟩] = true := by
    unfold partsB
    rw [show allB [(⟨l, [t], []⟩ : PartV)].length (fun i => levelB (partAt [⟨l, [t], []⟩] i).level) = true from allB_one e0]
    rfl
  have e2 : taskOK l [t] 0 = true := by
    show (taskMay t && (!(decide (l = 0) && !decide (t.chigh = t.clow)) && !anyPrio [] t.prio)) = true
    rw [ht, show anyPrio [] t.prio = false from rfl]
    rcases hl with h | h
    · rw [decide_eq_true (hc h)]; simp
    · rw [decide_eq_false (show ¬l = 0 by omega)]; simp
  have e3 : tasksB ⟨l, [t], []⟩ = true := by
    unfold tasksB
    rw [show allB (⟨l, [t], []⟩ : PartV).tasks.length (taskOK l [t]) = true from allB_one e2]
    rfl
  have e4 : allB [(⟨l, [t], []⟩ : PartV)].length (fun i => tasksB (partAt [⟨l, [t], []⟩] i)) = true := allB_one e3
  have e5 : allB [(⟨l, [t], []⟩ : PartV)].length (fun i => codeMay (partAt [⟨l, [t], []⟩] i).code) = true := allB_one (by show codeMay [] = true; rfl)
  have e6 : checkN (alone ⟨l, [t], []⟩) = 0 := by
    unfold checkN
    rw [show (alone ⟨l, [t], []⟩).parts = [⟨l, [t], []⟩] from rfl, e1, e4, e5]
    rfl
  unfold newOk newB
  rw [e6, decide_eq_true h0, decide_eq_true h8]
  rfl
end Go.Proofs.YtlppfocoonnpjaaGreatDoor.L

namespace Go.Proofs.YtlppfocoonnpjaaGreatDoor.L
open Go.RowKit

theorem and_low (z : Int) (k : Nat) (hk : k < 63) (m : Int) (hm2 : (BitVec.ofInt 64 m).toNat = 2 ^ k - 1) : bits .and .i64 z m = z % 2 ^ k := by
  have key : (BitVec.ofInt 64 z &&& BitVec.ofInt 64 m).toNat = (z % ((2 ^ 64 : Nat) : Int)).toNat % 2 ^ k := by
    rw [BitVec.toNat_and, BitVec.toNat_ofInt, hm2, Nat.and_two_pow_sub_one_eq_mod]
  show IntKind.i64.wrap ((BitVec.ofInt 64 z &&& BitVec.ofInt 64 m).toNat : Nat) = z % 2 ^ k
  rw [key, IntKind.wrap_i64]
  have hp : (2 : Nat) ^ k ∣ 2 ^ 64 := Nat.pow_dvd_pow 2 (by omega)
  have hlt : (2 : Nat) ^ k ≤ 2 ^ 62 := Nat.pow_le_pow_right (by decide) (by omega)
  have hpos : 0 < (2 : Nat) ^ k := Nat.pow_pos (by decide)
  have e1 : (((z % ((2 ^ 64 : Nat) : Int)).toNat % 2 ^ k : Nat) : Int) = z % 2 ^ k := by
    rw [Int.natCast_emod, Int.toNat_of_nonneg (Int.emod_nonneg _ (by decide))]
    have : ((2 ^ k : Nat) : Int) ∣ ((2 ^ 64 : Nat) : Int) := Int.natCast_dvd_natCast.2 hp
    rw [Int.emod_emod_of_dvd _ this]
    simp
  have h2 : (z % ((2 ^ 64 : Nat) : Int)).toNat % 2 ^ k < 2 ^ k := Nat.mod_lt _ hpos
  rw [← e1]
  have h3 : (((z % ((2 ^ 64 : Nat) : Int)).toNat % 2 ^ k : Nat) : Int) < 4611686018427387904 := by
    have : (2 : Nat) ^ 62 = 4611686018427387904 := by decide
    omega
  generalize (z % ((2 ^ 64 : Nat) : Int)).toNat % 2 ^ k = x at *
  omega
theorem and4 (z : Int) : ∃ c : Nat, c ≤ 15 ∧ bits .and .i64 z 15 = (c : Int) := ⟨(z % 16).toNat, by omega, by rw [and_low z 4 (by decide) 15 (by decide)]; omega⟩
theorem and6 (z : Int) : ∃ c : Nat, c ≤ 63 ∧ bits .and .i64 z 63 = (c : Int) := ⟨(z % 64).toNat, by omega, by rw [and_low z 6 (by decide) 63 (by decide)]; omega⟩
theorem and9 (z : Int) : ∃ c : Nat, c ≤ 511 ∧ bits .and .i64 z 511 = (c : Int) := ⟨(z % 512).toNat, by omega, by rw [and_low z 9 (by decide) 511 (by decide)]; omega⟩
theorem and3 (z : Int) : ∃ c : Nat, c ≤ 7 ∧ bits .and .i64 z 7 = (c : Int) := ⟨(z % 8).toNat, by omega, by rw [and_low z 3 (by decide) 7 (by decide)]; omega⟩
theorem and2 (z : Int) : ∃ c : Nat, c ≤ 3 ∧ bits .and .i64 z 3 = (c : Int) := ⟨(z % 4).toNat, by omega, by rw [and_low z 2 (by decide) 3 (by decide)]; omega⟩
theorem and10 (z : Int) : ∃ c : Nat, c ≤ 1023 ∧ bits .and .i64 z 1023 = (c : Int) := ⟨(z % 1024).toNat, by omega, by rw [and_low z 10 (by decide) 1023 (by decide)]; omega⟩
theorem and11 (z : Int) : ∃ c : Nat, c ≤ 2047 ∧ bits .and .i64 z 2047 = (c : Int) := ⟨(z % 2048).toNat, by omega, by rw [and_low z 11 (by decide) 2047 (by decide)]; omega⟩
theorem and20 (z : Int) : ∃ c : Nat, c ≤ 1048575 ∧ bits .and .i64 z 1048575 = (c : Int) := ⟨(z % 1048576).toNat, by omega, by rw [and_low z 20 (by decide) 1048575 (by decide)]; omega⟩
theorem and5 (z : Int) : ∃ c : Nat, c ≤ 31 ∧ bits .and .i64 z 31 = (c : Int) := ⟨(z % 32).toNat, by omega, by rw [and_low z 5 (by decide) 31 (by decide)]; omega⟩
theorem and1 (z : Int) : ∃ c : Nat, c ≤ 1 ∧ bits .and .i64 z 1 = (c : Int) := ⟨(z % 2).toNat, by omega, by rw [and_low z 1 (by decide) 1 (by decide)]; omega⟩
theorem and8 (z : Int) : ∃ c : Nat, c ≤ 255 ∧ bits .and .i64 z 255 = (c : Int) := ⟨(z % 256).toNat, by omega, by rw [and_low z 8 (by decide) 255 (by decide)]; omega⟩
#print axioms and9
end Go.Proofs.YtlppfocoonnpjaaGreatDoor.L
