/- What is asked for, on lists alone (the answers of the layer of demands). -/
import Derived.Test.YtehnklpjkcofcaaDoorRefTasks
namespace Go.Proofs.YtehnklpjkcofcaaDoor
open Go.RowKit R6

/-- Each number of each task fits its kind. -/
def Fits (ts : List TaskV) : Prop := ∀ t ∈ ts, ∀ u ∈ taskC t, ∃ z, u = .int .i64 z ∧ (Lit.int .i64 z).wf = true
theorem Fits.prio {ts : List TaskV} (h : Fits ts) {i : Nat} (hi : i < ts.length) : (Lit.int .i64 (taskAt ts i).prio).wf = true := by
  obtain ⟨z, e, hz⟩ := h (taskAt ts i) (List.mem_of_getElem? (taskAt_mem' hi)) _ (by unfold taskC; simp only [List.mem_cons]; exact .inr (.inr (.inr (.inr (.inr (.inl rfl))))))
  simp only [Value.int.injEq, true_and] at e
  rw [e]
  exact hz
theorem Fits.chigh {ts : List TaskV} (h : Fits ts) {i : Nat} (hi : i < ts.length) : (Lit.int .i64 (taskAt ts i).chigh).wf = true := by
  obtain ⟨z, e, hz⟩ := h (taskAt ts i) (List.mem_of_getElem? (taskAt_mem' hi)) _ (by unfold taskC; simp only [List.mem_cons]; exact .inr (.inr (.inr (.inr (.inl rfl)))))
  simp only [Value.int.injEq, true_and] at e
  rw [e]
  exact hz

/-! What is asked for. -/
def jobsN (p len : Int) : Int := (len + p - 1) / p
def addAhead (P len s : Int) (t : TaskV) : Int := if t.prio < P then s + t.chigh * jobsN t.period len else s
def askedN (ts : List TaskV) (P len : Int) : Int := ts.foldl (addAhead P len) 0
def okB (ts : List TaskV) (i len : Int) : Bool := rtasksB ts && (!decide (i < 0) && (!decide ((ts.length : Int) ≤ i) && (!decide (len < 0) && !decide (4096 < len))))
def boundV (ts : List TaskV) (i len : Int) : Int := if okB ts i len = true then (taskAt ts i.toNat).chigh + askedN ts (taskAt ts i.toNat).prio len else 0
def boundE (ts : List TaskV) (i len : Int) : Int := if okB ts i len = true then 0 else 800

theorem okB_true {ts : List TaskV} {i len : Int} : okB ts i len = true ↔ rtasksB ts = true ∧ 0 ≤ i ∧ i < ts.length ∧ 0 ≤ len ∧ len ≤ 4096 := by
  unfold okB
  simp only [Bool.and_eq_true, Bool.not_eq_true', decide_eq_false_iff_not]
  refine and_congr_right fun _ => ?_
  omega
theorem may_of {ts : List TaskV} (h : rtasksB ts = true) {i : Nat} (hi : i < ts.length) : taskMay (taskAt ts i) = true := by
  have := allB_of h i hi
  unfold rtaskB at this
  simp only [Bool.and_eq_true] at this
  exact this.1
theorem may_parts {t : TaskV} (h : taskMay t = true) : 1 ≤ t.period ∧ t.period ≤ 1024 ∧ 1 ≤ t.chigh ∧ t.chigh ≤ t.period ∧ 0 ≤ t.prio ∧ t.prio ≤ 255 := by
  unfold taskMay at h
  simp only [Bool.and_eq_true, decide_eq_true_eq] at h
  omega
theorem jobs_le {c p len : Int} (hc0 : 0 ≤ c) (hp : 1 ≤ p) (hc : c ≤ p) (hl : 0 ≤ len) : 0 ≤ jobsN p len ∧ 0 ≤ c * jobsN p len ∧ c * jobsN p len ≤ len + p - 1 := by
  unfold jobsN
  have h0 : 0 ≤ (len + p - 1) / p := Int.ediv_nonneg (by omega) (by omega)
  refine ⟨h0, Int.mul_nonneg hc0 h0, ?_⟩
  have h1 : c * ((len + p - 1) / p) ≤ p * ((len + p - 1) / p) := Int.mul_le_mul_of_nonneg_right hc h0
  have h2 := Int.mul_ediv_self_le (x := len + p - 1) (k := p) (by omega)
  omega
theorem asked_take {ts : List TaskV} {j : Nat} (hj : j < ts.length) (P len : Int) : askedN (ts.take (j + 1)) P len = addAhead P len (askedN (ts.take j) P len) (taskAt ts j) := by
  unfold askedN
  rw [List.take_add_one, taskAt_mem' hj]
  simp [List.foldl_append]
theorem asked_le {ts : List TaskV} (hm : rtasksB ts = true) (P : Int) {len : Int} (hl : 0 ≤ len) (hl2 : len ≤ 4096) : ∀ j : Nat, j ≤ ts.length → 0 ≤ askedN (ts.take j) P len ∧ askedN (ts.take j) P len ≤ 5120 * j := by
  intro j
  induction j with
  | zero => intro _; unfold askedN; simp
  | succ j ih =>
    intro hj
    obtain ⟨h1, h2⟩ := ih (by omega)
    rw [asked_take (by omega)]
    have hp := may_parts (may_of hm (i := j) (by omega))
    have hq := jobs_le (c := (taskAt ts j).chigh) (p := (taskAt ts j).period) (len := len) (by omega) (by omega) (by omega) hl
    unfold addAhead
    split <;> omega
#print axioms asked_le
end Go.Proofs.YtehnklpjkcofcaaDoor
