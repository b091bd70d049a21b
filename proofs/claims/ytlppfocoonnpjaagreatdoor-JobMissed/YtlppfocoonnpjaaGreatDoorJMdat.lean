/- What tasks and verdicts are as plain numbers, and what the document's Charge answers of a job, a task and a level: nothing of the program's functions. -/
import Derived.Test.YtlppfocoonnpjaaGreatDoorJData
import Derived.Test.YtlppfocoonnpjaaGreatDoorTaskMay
namespace Go.Proofs.YtlppfocoonnpjaaGreatDoor.J
open Go.RowKit

abbrev taskVal (t : TaskV) : Value := .agg #[.int .i64 t.kind, .int .i64 t.period, .int .i64 t.deadline, .int .i64 t.clow, .int .i64 t.chigh, .int .i64 t.prio]
theorem may_parts {t : TaskV} (h : taskMay t = true) : (t.kind = 0 ∨ t.kind = 1) ∧ 1 ≤ t.period ∧ t.period ≤ 1024 ∧ 1 ≤ t.deadline ∧ t.deadline ≤ t.period ∧ 1 ≤ t.clow ∧ t.clow ≤ t.chigh ∧ t.chigh ≤ t.deadline ∧ 0 ≤ t.prio ∧ t.prio ≤ 255 := by
  unfold taskMay at h
  simp only [Bool.and_eq_true, decide_eq_true_eq] at h
  omega
theorem job_parts {j : JobV} (h : jobMay j = true) : 0 ≤ j.task ∧ j.task < 6 ∧ 0 ≤ j.seq ∧ 0 ≤ j.prio ∧ j.prio ≤ 255 ∧ 0 ≤ j.rel ∧ j.rel ≤ 1099511627776 ∧ j.rel < j.dead ∧ 1 ≤ j.dem ∧ j.dem ≤ 65535 ∧ 0 ≤ j.used ∧ j.used < j.dem := by
  unfold jobMay at h
  simp only [Bool.and_eq_true, decide_eq_true_eq] at h
  omega
/-- A row of one job may be, if the job may be. -/
theorem row_one (j : JobV) : rowMay [j] = jobMay j := by
  unfold rowMay risesB allB
  simp [stepB]

/-- A verdict. -/
abbrev verVal (o d k : Bool) : Value := .agg #[.bool o, .bool d, .bool k]
/-- May it be charged? -/
def levMay (l : Int) : Bool := decide (l = 0 ∨ l = 1)
def chMay (j : JobV) (t : TaskV) (l : Int) : Bool := jobMay j && (taskMay t && levMay l)
/-- The budget at whose end a job is killed. -/
def endOf (t : TaskV) (l : Int) : Int := if l = 1 then t.chigh else t.clow
/-- The tick that is charged is a budget's last, and the job is not done by it. -/
def spentB (b : Int) (j : JobV) : Bool := decide (j.used = b) && decide (j.used < j.dem)
def oneMore (j : JobV) : JobV := ⟨j.task, j.seq, j.prio, j.rel, j.dead, j.dem, j.used + 1⟩
/-- What Charge answers. -/
def chJ (j : JobV) (t : TaskV) (l : Int) : JobV := if chMay j t l = true then oneMore j else jz
def chO (j : JobV) (t : TaskV) (l : Int) : Bool := chMay j t l && (decide (l = 1) && spentB t.clow (oneMore j))
def chD (j : JobV) (t : TaskV) (l : Int) : Bool := chMay j t l && decide (j.used + 1 = j.dem)
def chK (j : JobV) (t : TaskV) (l : Int) : Bool := chMay j t l && spentB (endOf t l) (oneMore j)
def chE (j : JobV) (t : TaskV) (l : Int) : Int := if chMay j t l = true then 0 else 1300
#print axioms row_one
end Go.Proofs.YtlppfocoonnpjaaGreatDoor.J
