/- What tasks are in memory, and what they are: plain lists and numbers; nothing of the program's functions. -/
import Derived.Test.YtadolobbidpejaaCommon
namespace Go.Proofs.Ytadolobbidpejaa
open Go.RowKit

structure TaskV where
  kind : Int
  period : Int
  deadline : Int
  clow : Int
  chigh : Int
  prio : Int
def taskC (t : TaskV) : List Value := [.int .i64 t.kind, .int .i64 t.period, .int .i64 t.deadline, .int .i64 t.clow, .int .i64 t.chigh, .int .i64 t.prio]
def shT : Shape TaskV := ⟨6, taskC, fun _ => rfl, by decide, fun x u h => by simp [taskC] at h; rcases h with rfl | rfl | rfl | rfl | rfl | rfl <;> rfl⟩
def tz : TaskV := ⟨0, 0, 0, 0, 0, 0⟩
def taskAt (ts : List TaskV) (i : Nat) : TaskV := ts[i]?.getD tz
theorem keep_grown {lo : Nat} {w W : World} (hg : w.grownBy W none) : ∀ g, lo ≤ g → g < w.heap.size → W.heap[g]? = w.heap[g]? := fun g _ hlt => hg.block g hlt (by simp)
theorem keep_below {lo B : Nat} {w W : World} (hg : Below B w W) (hB : w.heap.size ≤ B) : ∀ g, lo ≤ g → g < w.heap.size → W.heap[g]? = w.heap[g]? := fun g _ hlt => hg.block g (by omega)
/-! All of so many. -/
def allB (n : Nat) (f : Nat → Bool) : Bool := (List.range n).all f
theorem allB_true {n : Nat} {f : Nat → Bool} (h : ∀ i, i < n → f i = true) : allB n f = true := by
  unfold allB; rw [List.all_eq_true]; intro i hi; exact h i (List.mem_range.1 hi)
theorem allB_false {n : Nat} {f : Nat → Bool} {i : Nat} (hi : i < n) (h : f i = false) : allB n f = false := by
  unfold allB; rw [List.all_eq_false]; exact ⟨i, List.mem_range.2 hi, by rw [h]; simp⟩
theorem allB_of {n : Nat} {f : Nat → Bool} (h : allB n f = true) (i : Nat) (hi : i < n) : f i = true := by
  unfold allB at h; exact List.all_eq_true.1 h i (List.mem_range.2 hi)
theorem allB_congr {n : Nat} {f g : Nat → Bool} (h : ∀ i, i < n → f i = g i) : allB n f = allB n g := by
  cases hf : allB n f with
  | true => exact (allB_true (fun i hi => by rw [← h i hi]; exact allB_of hf i hi)).symm
  | false =>
    unfold allB at hf
    obtain ⟨i, hi, h2⟩ := List.all_eq_false.1 hf
    have hi := List.mem_range.1 hi
    exact (allB_false hi (by rw [← h i hi]; simpa using h2)).symm
/-- May a task be? -/
def taskMay (t : TaskV) : Bool := decide (t.kind = 0 ∨ t.kind = 1) && (decide (1 ≤ t.period) && (decide (t.period ≤ 1024) && (decide (1 ≤ t.deadline) && (decide (t.deadline ≤ t.period) && (decide (1 ≤ t.clow) && (decide (t.clow ≤ t.chigh) && (decide (t.chigh ≤ t.deadline) && (decide (0 ≤ t.prio) && (decide (t.prio ≤ 255))))))))))


def anyPrio (ts : List TaskV) (p : Int) : Bool := !allB ts.length (fun i => !decide ((taskAt ts i).prio = p))
theorem row_addr {α : Type} {S : Shape α} {lo n c : Nat} {W : World} {a : Option Addr} {xs : List α} (h : RowAt S lo W (.slice a n c) xs) (hn : 0 < n) : ∃ g o, a = some ⟨g, o, none⟩ := by
  obtain ⟨-, a2, c2, e, hc⟩ := h
  simp only [Value.slice.injEq] at e
  obtain ⟨rfl, rfl, rfl⟩ := e
  obtain ⟨g, o, rfl, -⟩ := hc hn
  exact ⟨g, o, rfl⟩
theorem row_cell {α : Type} {S : Shape α} {lo n c g o : Nat} {W : World} {xs : List α} (h : RowAt S lo W (.slice (some ⟨g, o, none⟩) n c) xs) {j : Nat} {x : α} (hx : xs[j]? = some x) {k : Nat} {u : Value} (hu : (S.f x)[k]? = some u) : W.cell? ⟨g, o + j * S.k + k, none⟩ = some u := by
  obtain ⟨-, a2, c2, e, hc⟩ := h
  simp only [Value.slice.injEq] at e
  obtain ⟨rfl, rfl, rfl⟩ := e
  obtain ⟨g', o', e, -, hc2⟩ := hc (by have := (List.getElem?_eq_some_iff.1 hx).1; omega)
  simp only [Option.some.injEq, Addr.mk.injEq, and_true] at e
  obtain ⟨rfl, rfl⟩ := e
  exact hc2 j x hx k u hu
theorem taskAt_mem' {ws : List TaskV} {i : Nat} (h : i < ws.length) : ws[i]? = some (taskAt ws i) := by
  unfold taskAt; rw [List.getElem?_eq_getElem h]; rfl
theorem taskAt_take {ts : List TaskV} {i j : Nat} (h : i < j) : taskAt (ts.take j) i = taskAt ts i := by
  unfold taskAt; rw [List.getElem?_take, if_pos h]
theorem anyPrio_no {ts : List TaskV} {j : Nat} (hj : j ≤ ts.length) {p : Int} (h : ∀ i, i < j → (taskAt ts i).prio ≠ p) : anyPrio (ts.take j) p = false := by
  unfold anyPrio
  rw [allB_true, Bool.not_true]
  intro i hi
  rw [List.length_take] at hi
  rw [taskAt_take (by omega), decide_eq_false (h i (by omega)), Bool.not_false]
theorem anyPrio_yes {ts : List TaskV} {j i : Nat} (hj : j ≤ ts.length) (hi : i < j) {p : Int} (h : (taskAt ts i).prio = p) : anyPrio (ts.take j) p = true := by
  unfold anyPrio
  rw [allB_false (i := i) (by rw [List.length_take]; omega) (by rw [taskAt_take hi, decide_eq_true h, Bool.not_true]), Bool.not_false]
def rtaskB (ts : List TaskV) (i : Nat) : Bool := taskMay (taskAt ts i) && !anyPrio (ts.take i) (taskAt ts i).prio
def rtasksB (ts : List TaskV) : Bool := allB ts.length (rtaskB ts)


/-- Each number of each task fits its kind. -/
def Fits (ts : List TaskV) : Prop := ∀ t ∈ ts, ∀ u ∈ taskC t, ∃ z, u = .int .i64 z ∧ (Lit.int .i64 z).wf = true
theorem Fits.prio {ts : List TaskV} (h : Fits ts) {i : Nat} (hi : i < ts.length) : (Lit.int .i64 (taskAt ts i).prio).wf = true := by
  obtain ⟨z, e, hz⟩ := h (taskAt ts i) (List.mem_of_getElem? (taskAt_mem' hi)) _ (by unfold taskC; simp only [List.mem_cons]; exact .inr (.inr (.inr (.inr (.inr (.inl rfl))))))
  simp only [Value.int.injEq, true_and] at e
  rw [e]
  exact hz
theorem Fits.chigh {ts : List TaskV} (h : Fits ts) {i : Nat} (hi : i < ts.length) : (Lit.int .i64 (taskAt ts i).chigh).wf = true := by
  obtain ⟨z, e, hz⟩ := h (taskAt ts i) (List.mem_of_getElem? (taskAt_mem' hi)) _ (by unfold taskC; simp only [List.mem_cons]; exact .inr (.inr (.inr (.inr (.inl rfl)))))
  simp only [Value.int.injEq, true_and] at e
  rw [e]
  exact hz

/-! What is asked for. -/
def jobsN (p len : Int) : Int := (len + p - 1) / p
def addAhead (P len s : Int) (t : TaskV) : Int := if t.prio < P then s + t.chigh * jobsN t.period len else s
def askedN (ts : List TaskV) (P len : Int) : Int := ts.foldl (addAhead P len) 0
def okB (ts : List TaskV) (i len : Int) : Bool := rtasksB ts && (!decide (i < 0) && (!decide ((ts.length : Int) ≤ i) && (!decide (len < 0) && !decide (4096 < len))))
def boundV (ts : List TaskV) (i len : Int) : Int := if okB ts i len = true then (taskAt ts i.toNat).chigh + askedN ts (taskAt ts i.toNat).prio len else 0
def boundE (ts : List TaskV) (i len : Int) : Int := if okB ts i len = true then 0 else 800

theorem okB_true {ts : List TaskV} {i len : Int} : okB ts i len = true ↔ rtasksB ts = true ∧ 0 ≤ i ∧ i < ts.length ∧ 0 ≤ len ∧ len ≤ 4096 := by
  unfold okB
  simp only [Bool.and_eq_true, Bool.not_eq_true', decide_eq_false_iff_not]
  refine and_congr_right fun _ => ?_
  omega
theorem may_of {ts : List TaskV} (h : rtasksB ts = true) {i : Nat} (hi : i < ts.length) : taskMay (taskAt ts i) = true := by
  have := allB_of h i hi
  unfold rtaskB at this
  simp only [Bool.and_eq_true] at this
  exact this.1
theorem may_parts {t : TaskV} (h : taskMay t = true) : 1 ≤ t.period ∧ t.period ≤ 1024 ∧ 1 ≤ t.chigh ∧ t.chigh ≤ t.period ∧ 0 ≤ t.prio ∧ t.prio ≤ 255 := by
  unfold taskMay at h
  simp only [Bool.and_eq_true, decide_eq_true_eq] at h
  omega
theorem jobs_le {c p len : Int} (hc0 : 0 ≤ c) (hp : 1 ≤ p) (hc : c ≤ p) (hl : 0 ≤ len) : 0 ≤ jobsN p len ∧ 0 ≤ c * jobsN p len ∧ c * jobsN p len ≤ len + p - 1 := by
  unfold jobsN
  have h0 : 0 ≤ (len + p - 1) / p := Int.ediv_nonneg (by omega) (by omega)
  refine ⟨h0, Int.mul_nonneg hc0 h0, ?_⟩
  have h1 : c * ((len + p - 1) / p) ≤ p * ((len + p - 1) / p) := Int.mul_le_mul_of_nonneg_right hc h0
  have h2 := Int.mul_ediv_self_le (x := len + p - 1) (k := p) (by omega)
  omega
theorem asked_take {ts : List TaskV} {j : Nat} (hj : j < ts.length) (P len : Int) : askedN (ts.take (j + 1)) P len = addAhead P len (askedN (ts.take j) P len) (taskAt ts j) := by
  unfold askedN
  rw [List.take_add_one, taskAt_mem' hj]
  simp [List.foldl_append]
theorem asked_le {ts : List TaskV} (hm : rtasksB ts = true) (P : Int) {len : Int} (hl : 0 ≤ len) (hl2 : len ≤ 4096) : ∀ j : Nat, j ≤ ts.length → 0 ≤ askedN (ts.take j) P len ∧ askedN (ts.take j) P len ≤ 5120 * j := by
  intro j
  induction j with
  | zero => intro _; unfold askedN; simp
  | succ j ih =>
    intro hj
    obtain ⟨h1, h2⟩ := ih (by omega)
    rw [asked_take (by omega)]
    have hp := may_parts (may_of hm (i := j) (by omega))
    have hq := jobs_le (c := (taskAt ts j).chigh) (p := (taskAt ts j).period) (len := len) (by omega) (by omega) (by omega) hl
    unfold addAhead
    split <;> omega
#print axioms asked_le
end Go.Proofs.Ytadolobbidpejaa
