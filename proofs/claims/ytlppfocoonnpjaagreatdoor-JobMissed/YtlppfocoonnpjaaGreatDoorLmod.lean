/- A part's own schedule as plain lists and numbers, and what the document's calls answer of it: nothing of the program's functions. -/
import Derived.Test.YtlppfocoonnpjaaGreatDoorJMdat
import Derived.Test.YtlppfocoonnpjaaGreatDoorUData
import Derived.Test.YtlppfocoonnpjaaGreatDoorJPmath
namespace Go.Proofs.YtlppfocoonnpjaaGreatDoor.L
open Go.RowKit
open Go.Proofs.YtlppfocoonnpjaaGreatDoor.J (JobV jz jobAt jobMay rowMay putV putE putL okB leftV lateV chMay chJ chO chD chK oneMore)
open Go.Proofs.YtlppfocoonnpjaaGreatDoor.U (TurnsV turnsMay atMay isB relS relD pickS pickE lateB)

structure EvV where
  kind : Int
  part : Int
  task : Int
  val : Int
def evC (e : EvV) : List Value := [.int .i64 e.kind, .int .i64 e.part, .int .i64 e.task, .int .i64 e.val]
abbrev evVal (e : EvV) : Value := .agg #[.int .i64 e.kind, .int .i64 e.part, .int .i64 e.task, .int .i64 e.val]
def shE : Shape EvV := ⟨4, evC, fun _ => rfl, by decide, fun x u h => by simp [evC] at h; rcases h with rfl | rfl | rfl | rfl <;> rfl⟩

structure LocV where
  idx : Int
  level : Int
  tasks : List TaskV
  turns : List TurnsV
  seqs : List Int
  jobs : List JobV
def tz : TaskV := ⟨0, 0, 0, 0, 0, 0⟩
def LocV.taskAt (L : LocV) (i : Nat) : TaskV := L.tasks[i]?.getD tz
def LocV.turnAt (L : LocV) (i : Nat) : TurnsV := L.turns[i]?.getD ⟨0, []⟩
def LocV.seqAt (L : LocV) (i : Nat) : Int := L.seqs[i]?.getD 0
/-- What every schedule is: its tasks may be, so may its turns and its jobs. -/
structure Fine (L : LocV) (m : Nat) : Prop where
  idx0 : 0 ≤ L.idx
  idx8 : L.idx < 8
  level : L.level = 0 ∨ L.level = 1
  many : L.tasks.length ≤ 6
  turns : L.turns.length = L.tasks.length
  seqs : L.seqs.length = L.tasks.length
  taskMay : ∀ i, i < L.tasks.length → taskMay (L.taskAt i) = true
  turnMay : ∀ i, i < L.tasks.length → turnsMay (L.turnAt i) = true
  seq0 : ∀ i, i < L.tasks.length → 0 ≤ L.seqAt i ∧ L.seqAt i ≤ m
  row : rowMay L.jobs = true
  of : ∀ j, j ∈ L.jobs → j.task < L.tasks.length
def tickB (now : Int) : Bool := decide (0 ≤ now) && decide (now ≤ 1099511627776)
/-- Pick. -/
def pickOk (L : LocV) (i now : Int) : Bool := decide (0 ≤ i) && (decide (i < L.tasks.length) && tickB now)
def pickN (L : LocV) (i d now : Int) : Int := if pickOk L i now = true then pickE (L.taskAt i.toNat) (L.turnAt i.toNat) d else 1400
def pickL (L : LocV) (i d now : Int) : LocV := if pickN L i d now = 0 then { L with turns := L.turns.set i.toNat (pickS (L.taskAt i.toNat) (L.turnAt i.toNat) d) } else L
def pickV (L : LocV) (i d now : Int) : List EvV :=
  if pickN L i d now = 0 then
    (if lateB (L.taskAt i.toNat) (pickS (L.taskAt i.toNat) (L.turnAt i.toNat) d) now = true then [⟨2, L.idx, i, (pickS (L.taskAt i.toNat) (L.turnAt i.toNat) d).last + (L.taskAt i.toNat).period - now⟩] else [])
  else []
/-- Begin: a task's release. -/
def newJob (L : LocV) (now : Int) (i : Nat) : JobV := ⟨i, L.seqAt i, (L.taskAt i).prio, now, now + (L.taskAt i).deadline, relD (L.taskAt i) (L.turnAt i) now, 0⟩
def stepL (now : Int) (L : LocV) (i : Nat) : LocV :=
  if isB (L.taskAt i) (L.turnAt i) now = true then
    (if putE L.jobs (newJob L now i) = 0 then { L with turns := L.turns.set i (relS (L.taskAt i) (L.turnAt i) now), seqs := L.seqs.set i (L.seqAt i + 1), jobs := putV L.jobs (newJob L now i) }
     else { L with turns := L.turns.set i (relS (L.taskAt i) (L.turnAt i) now) })
  else L
def stepV (now : Int) (L : LocV) (i : Nat) : List EvV :=
  if isB (L.taskAt i) (L.turnAt i) now = true then (if putE L.jobs (newJob L now i) = 0 then [⟨1, L.idx, i, relD (L.taskAt i) (L.turnAt i) now⟩] else []) else []
def stepsL (now : Int) (L : LocV) : Nat → LocV
  | 0 => L
  | k + 1 => stepL now (stepsL now L k) k
def stepsV (now : Int) (L : LocV) : Nat → List EvV
  | 0 => []
  | k + 1 => stepsV now L k ++ stepV now (stepsL now L k) k
def missL (L : LocV) (now : Int) : LocV := { L with jobs := leftV L.jobs now }
def missV (L : LocV) (now : Int) : List EvV := (lateV L.jobs now).map fun j => ⟨3, L.idx, j.task, j.used⟩
def beginN (now : Int) : Int := if tickB now = true then 0 else 1400
def beginL (L : LocV) (now : Int) : LocV := if tickB now = true then stepsL now (missL L now) L.tasks.length else L
def beginV (L : LocV) (now : Int) : List EvV := if tickB now = true then missV L now ++ stepsV now (missL L now) L.tasks.length else []
/-- Run, Fail. -/
def headJ (L : LocV) : JobV := jobAt L.jobs 0
def headT (L : LocV) : TaskV := L.taskAt (headJ L).task.toNat
def runO (L : LocV) : Bool := if L.jobs = [] then false else chO (headJ L) (headT L) L.level
def runD (L : LocV) : Bool := if L.jobs = [] then false else chD (headJ L) (headT L) L.level
def runK (L : LocV) : Bool := if L.jobs = [] then false else chK (headJ L) (headT L) L.level
def runN (L : LocV) : Int := if L.jobs = [] then 1401 else 0
def runL (L : LocV) : LocV := if L.jobs = [] then L else if (runD L || runK L) = true then { L with jobs := L.jobs.drop 1 } else { L with jobs := oneMore (headJ L) :: L.jobs.drop 1 }
def runV (L : LocV) : List EvV := (if runO L = true then [⟨4, L.idx, (headJ L).task, (headJ L).used + 1⟩] else []) ++ ((if runD L = true then [⟨5, L.idx, (headJ L).task, (headJ L).used + 1⟩] else []) ++ (if runK L = true then [⟨6, L.idx, (headJ L).task, (headJ L).used + 1⟩] else []))
def failL (L : LocV) : LocV := if L.jobs = [] then L else { L with jobs := L.jobs.drop 1 }
def failV (L : LocV) : List EvV := if L.jobs = [] then [] else [⟨7, L.idx, (headJ L).task, (headJ L).used⟩]
/-- A new one. -/
def newB (i : Int) (e : Int) : Bool := decide (0 ≤ i) && (decide (i < 8) && decide (e = 0))
def newL (i : Int) (p : PartV) : LocV := ⟨i, p.level, p.tasks, p.tasks.map fun _ => ⟨-1, []⟩, p.tasks.map fun _ => 0, []⟩

/-! What is kept. -/
theorem set_len {α : Type} (xs : List α) (i : Nat) (x : α) : (xs.set i x).length = xs.length := List.length_set
theorem getD_set {α : Type} (xs : List α) (i k : Nat) (x z : α) : ((xs.set i x)[k]?).getD z = if i = k ∧ k < xs.length then x else (xs[k]?).getD z := by
  rw [List.getElem?_set]
  by_cases h : i = k
  · subst h
    by_cases h2 : i < xs.length
    · simp [h2]
    · simp [h2]
  · simp [h]
theorem row_tail {js : List JobV} (h : rowMay js = true) : rowMay (js.drop 1) = true := J.may_part h (List.drop_sublist 1 js)
theorem row_nil : rowMay [] = true := by decide
theorem job_of {L : LocV} {m : Nat} (h : Fine L m) {j : JobV} (hj : j ∈ L.jobs) : jobMay j = true := List.all_eq_true.1 (J.rowMay_iff.1 h.row).2.1 j hj
theorem head_mem {L : LocV} (h : L.jobs ≠ []) : headJ L ∈ L.jobs := by
  unfold headJ jobAt
  match e : L.jobs, h with
  | x :: xs, _ => simp
theorem cons_head {L : LocV} (h : L.jobs ≠ []) : L.jobs = headJ L :: L.jobs.drop 1 := by
  unfold headJ jobAt
  match e : L.jobs, h with
  | x :: xs, _ => simp
theorem Fine.mono {L : LocV} {m k : Nat} (h : Fine L m) (hk : m ≤ k) : Fine L k :=
  ⟨h.idx0, h.idx8, h.level, h.many, h.turns, h.seqs, h.taskMay, h.turnMay, fun i hi => ⟨(h.seq0 i hi).1, by have := (h.seq0 i hi).2; omega⟩, h.row, h.of⟩
theorem Fine.jobs {L : LocV} {m : Nat} (h : Fine L m) {js : List JobV} (h1 : rowMay js = true) (h2 : ∀ j, j ∈ js → j.task < L.tasks.length) : Fine { L with jobs := js } m :=
  ⟨h.idx0, h.idx8, h.level, h.many, h.turns, h.seqs, h.taskMay, h.turnMay, h.seq0, h1, h2⟩
theorem Fine.turn {L : LocV} {m : Nat} (h : Fine L m) {i : Nat} {s : TurnsV} (hs : turnsMay s = true) : Fine { L with turns := L.turns.set i s } m :=
  ⟨h.idx0, h.idx8, h.level, h.many, by show (L.turns.set i s).length = _; rw [set_len]; exact h.turns, h.seqs, h.taskMay, fun k hk => by
    show turnsMay (((L.turns.set i s)[k]?).getD _) = true
    rw [getD_set]
    split
    · exact hs
    · exact h.turnMay k hk, h.seq0, h.row, h.of⟩
theorem fail_fine {L : LocV} {m : Nat} (h : Fine L m) : Fine (failL L) m := by
  unfold failL
  split
  · exact h
  · exact h.jobs (row_tail h.row) fun j hj => h.of j (List.mem_of_mem_drop hj)
theorem one_row {j : JobV} {js : List JobV} (h : rowMay (j :: js) = true) (h2 : j.used + 1 < j.dem) : rowMay (oneMore j :: js) = true := by
  obtain ⟨h3, h4, h5⟩ := J.rowMay_iff.1 h
  refine J.rowMay_iff.2 ⟨h3, ?_, ?_⟩
  · simp only [List.all_cons, Bool.and_eq_true] at h4 ⊢
    refine ⟨?_, h4.2⟩
    have := h4.1
    unfold jobMay oneMore at *
    simp only [Bool.and_eq_true, decide_eq_true_eq] at this ⊢
    omega
  · have h6 := J.rises_pair.1 h5
    refine J.rises_pair.2 ?_
    rw [List.pairwise_cons] at h6 ⊢
    exact ⟨fun x hx => h6.1 x hx, h6.2⟩
theorem run_done {L : LocV} (hne : L.jobs ≠ []) {m : Nat} (h : Fine L m) : chMay (headJ L) (headT L) L.level = true := by
  have hj := job_of h (head_mem hne)
  have ht := h.of _ (head_mem hne)
  have h0 := (J.job_parts hj).1
  unfold chMay J.levMay
  rw [hj, decide_eq_true h.level]
  rw [show taskMay (headT L) = true from h.taskMay _ (by omega)]
  rfl
theorem run_fine {L : LocV} {m : Nat} (h : Fine L m) : Fine (runL L) m := by
  unfold runL
  split
  · exact h
  · rename_i hne
    split
    · exact h.jobs (row_tail h.row) fun j hj => h.of j (List.mem_of_mem_drop hj)
    · rename_i hdk
      have hm := run_done hne h
      have hd : ¬(headJ L).used + 1 = (headJ L).dem := by
        intro e
        apply hdk
        unfold runD
        rw [if_neg hne]
        unfold chD
        rw [hm, decide_eq_true e]
        rfl
      have hp := J.job_parts (job_of h (head_mem hne))
      refine h.jobs (one_row (by rw [← cons_head hne]; exact h.row) (by omega)) fun j hj => ?_
      rcases List.mem_cons.1 hj with rfl | hj
      · exact h.of (headJ L) (head_mem hne)
      · exact h.of j (List.mem_of_mem_drop hj)
theorem pick_may {t : TaskV} {s : TurnsV} {d : Int} (h : pickE t s d = 0) : turnsMay (pickS t s d) = true := by
  unfold pickE at h
  unfold pickS
  split at h
  · rename_i h1
    rw [if_pos h1]
    split at h
    · exact absurd h (by decide)
    · rename_i h2
      rw [if_neg h2]
      rw [Bool.and_eq_true, Bool.and_eq_true] at h1
      have h3 := h1.2.1
      have h4 := h1.2.2
      unfold turnsMay at h3 ⊢
      simp only [Bool.and_eq_true, decide_eq_true_eq] at h3 ⊢
      refine ⟨h3.1, h3.2.1, ?_, ?_⟩
      · rw [List.length_append]
        have := h3.2.2.1
        simp only [List.length_cons, List.length_nil]
        omega
      · rw [List.all_append, h3.2.2.2]
        simp [h4]
  · exact absurd h (by decide)
theorem rel_may {t : TaskV} {s : TurnsV} {now : Int} (h : isB t s now = true) : turnsMay (relS t s now) = true := by
  unfold isB at h
  rw [Bool.and_eq_true] at h
  unfold relS
  rw [if_pos h.1, if_pos h.2]
  have h1 := h.1
  unfold atMay at h1
  simp only [Bool.and_eq_true, decide_eq_true_eq] at h1
  have h3 := h1.2.1
  unfold turnsMay U.jobS at *
  simp only [Bool.and_eq_true, decide_eq_true_eq] at h3 ⊢
  refine ⟨by omega, by omega, ?_, ?_⟩
  · rw [List.length_drop]; have := h3.2.2.1; omega
  · have h6 := List.all_eq_true.1 h3.2.2.2
    rw [List.all_eq_true]
    intro x hx
    exact h6 x (List.mem_of_mem_drop hx)
theorem pick_fine {L : LocV} {m : Nat} (h : Fine L m) (i d now : Int) : Fine (pickL L i d now) m := by
  unfold pickL
  split
  · rename_i h1
    refine h.turn (pick_may ?_)
    unfold pickN at h1
    split at h1
    · exact h1
    · exact absurd h1 (by decide)
  · exact h
theorem put_ok {L : LocV} {m : Nat} (h : Fine L m) {j : JobV} (hj : putE L.jobs j = 0) (ht : j.task < L.tasks.length) : rowMay (putV L.jobs j) = true ∧ ∀ x, x ∈ putV L.jobs j → x.task < L.tasks.length := by
  unfold putE at hj
  split at hj
  · rename_i h1
    split at hj
    · exact absurd hj (by decide)
    · rename_i h2
      have e : putV L.jobs j = putL L.jobs j := by unfold putV; rw [if_pos h1, if_neg h2]
      rw [e]
      refine ⟨J.putL_may h1 h2, fun x hx => ?_⟩
      rcases J.putL_mem.1 hx with rfl | hx
      · exact ht
      · exact h.of x hx
  · exact absurd hj (by decide)
theorem step_tasks (now : Int) (L : LocV) (i : Nat) : (stepL now L i).tasks = L.tasks ∧ (stepL now L i).idx = L.idx ∧ (stepL now L i).level = L.level := by
  unfold stepL
  split
  · split <;> exact ⟨rfl, rfl, rfl⟩
  · exact ⟨rfl, rfl, rfl⟩
theorem step_fine {L : LocV} {m : Nat} (h : Fine L m) (now : Int) {i : Nat} (hi : i < L.tasks.length) : Fine (stepL now L i) (m + 1) := by
  unfold stepL
  split
  · rename_i h1
    have ht := h.turn (i := i) (rel_may h1)
    split
    · rename_i h2
      have hp := put_ok h h2 (show (newJob L now i).task < L.tasks.length by show (i : Int) < _; omega)
      exact ⟨h.idx0, h.idx8, h.level, h.many, ht.turns, by show (L.seqs.set i _).length = _; rw [set_len]; exact h.seqs, h.taskMay, ht.turnMay, fun k hk => by
        show 0 ≤ ((L.seqs.set i (L.seqAt i + 1))[k]?).getD 0 ∧ ((L.seqs.set i (L.seqAt i + 1))[k]?).getD 0 ≤ _
        rw [getD_set]
        have h3 := h.seq0 k hk
        have h4 := h.seq0 i hi
        split
        · omega
        · exact ⟨h3.1, by have : (L.seqs[k]?).getD 0 ≤ m := h3.2; omega⟩, hp.1, hp.2⟩
    · exact ht.mono (by omega)
  · exact h.mono (by omega)
theorem steps_fine {L : LocV} {m : Nat} (h : Fine L m) (now : Int) : ∀ k, k ≤ L.tasks.length → Fine (stepsL now L k) (m + k) ∧ (stepsL now L k).tasks = L.tasks ∧ (stepsL now L k).idx = L.idx ∧ (stepsL now L k).level = L.level := by
  intro k
  induction k with
  | zero => intro _; exact ⟨h, rfl, rfl, rfl⟩
  | succ k ih =>
    intro hk
    obtain ⟨h1, h2, h3, h4⟩ := ih (by omega)
    have h5 := step_tasks now (stepsL now L k) k
    exact ⟨step_fine h1 now (by rw [h2]; omega), h5.1.trans h2, h5.2.1.trans h3, h5.2.2.trans h4⟩
theorem miss_fine {L : LocV} {m : Nat} (h : Fine L m) (now : Int) : Fine (missL L now) m := by
  refine h.jobs (J.left_may h.row).1 fun j hj => ?_
  unfold leftV at hj
  rw [if_pos h.row] at hj
  exact h.of j (List.mem_filter.1 hj).1
theorem begin_fine {L : LocV} {m : Nat} (h : Fine L m) (now : Int) : Fine (beginL L now) (m + 6) := by
  unfold beginL
  split
  · have h1 := (steps_fine (miss_fine h now) now L.tasks.length (Nat.le_refl _)).1
    exact h1.mono (by have := h.many; omega)
  · exact h.mono (by omega)
#print axioms begin_fine
end Go.Proofs.YtlppfocoonnpjaaGreatDoor.L
