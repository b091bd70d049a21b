/- What rows of jobs are that rise, as plain lists: parts of them, those that are left, a job that is put. A part's own schedule as plain lists and numbers, and what the document's calls answer of it: nothing of the program's functions. Rows and blocks of a schedule: cells written, new values, events: what both sides lean on. -/
import Derived.Test.YtlppfocoonnpjaaGreatDoorJMiss
import Derived.Test.YtlppfocoonnpjaaGreatDoorQb

namespace Go.Proofs.YtlppfocoonnpjaaGreatDoor.J
open Go.RowKit

theorem jobAt_get {js : List JobV} {i : Nat} (h : i < js.length) : js[i] = jobAt js i := by
  unfold jobAt; rw [List.getElem?_eq_getElem h]; rfl
theorem rises_pair {js : List JobV} : risesB js = true ↔ js.Pairwise Ahead := by
  rw [List.pairwise_iff_getElem]
  constructor
  · intro h i k hi hk hik
    rw [jobAt_get hi, jobAt_get hk]
    exact rises_at h k hik hk
  · intro h
    exact rises_of fun i k hik hk => by
      have := h i k (by omega) hk hik
      rwa [jobAt_get (by omega), jobAt_get hk] at this
theorem may_part {js ks : List JobV} (h : rowMay js = true) (hs : ks.Sublist js) : rowMay ks = true := by
  obtain ⟨h1, h2, h3⟩ := rowMay_iff.1 h
  refine rowMay_iff.2 ⟨Nat.le_trans hs.length_le h1, ?_, rises_pair.2 ((rises_pair.1 h3).sublist hs)⟩
  rw [List.all_eq_true] at h2 ⊢
  exact fun x hx => h2 x (hs.subset hx)
theorem left_may {js : List JobV} {now : Int} (h : rowMay js = true) : rowMay (leftV js now) = true ∧ rowMay (lateV js now) = true := by
  unfold leftV lateV
  rw [if_pos h, if_pos h]
  exact ⟨may_part h List.filter_sublist, may_part h List.filter_sublist⟩
theorem left_sum {js : List JobV} {now : Int} (h : rowMay js = true) : (leftV js now).length + (lateV js now).length = js.length := by
  unfold leftV lateV
  rw [if_pos h, if_pos h]
  clear h
  induction js with
  | nil => rfl
  | cons x xs ih =>
    by_cases hd : x.dead ≤ now
    · simp [hd] at ih ⊢; omega
    · simp [hd] at ih ⊢; omega
theorem left_no {js : List JobV} {now : Int} (h : rowMay js = false) : leftV js now = [] ∧ lateV js now = [] := by
  unfold leftV lateV
  rw [if_neg (by simp [h]), if_neg (by simp [h])]
  exact ⟨rfl, rfl⟩
theorem filter_at {js : List JobV} {p : JobV → Bool} {i : Nat} (hi : i < js.length) (hp : p (jobAt js i) = true) : (js.filter p)[((js.take i).filter p).length]? = some (jobAt js i) := by
  have e : js = js.take i ++ jobAt js i :: js.drop (i + 1) := by
    rw [← jobAt_get hi, List.getElem_cons_drop, List.take_append_drop]
  rw [show js.filter p = (js.take i).filter p ++ (jobAt js i :: js.drop (i + 1)).filter p by rw [← List.filter_append, ← e]]
  rw [List.getElem?_append_right (Nat.le_refl _), Nat.sub_self, List.filter_cons_of_pos hp]
  rfl
theorem late_at {js : List JobV} {now : Int} (h : rowMay js = true) {i : Nat} (hi : i < js.length) (hd : (jobAt js i).dead ≤ now) : (lateV js now)[(lateK js now i).length]? = some (jobAt js i) := by
  unfold lateV lateK
  rw [if_pos h]
  exact filter_at hi (by simp [hd])
theorem left_at {js : List JobV} {now : Int} (h : rowMay js = true) {i : Nat} (hi : i < js.length) (hd : ¬(jobAt js i).dead ≤ now) : (leftV js now)[(leftK js now i).length]? = some (jobAt js i) := by
  unfold leftV leftK
  rw [if_pos h]
  exact filter_at hi (by simp [hd])

/-! A job that is put. -/
theorem put_at0 {js : List JobV} {j : JobV} {i : Nat} (h : i < placeN js j) : jobAt (putL js j) i = jobAt js i := by
  have hp := place_le js j
  unfold jobAt putL
  rw [List.getElem?_append_left (by rw [List.length_take]; omega), List.getElem?_take, if_pos h]
theorem put_at1 {js : List JobV} {j : JobV} : jobAt (putL js j) (placeN js j) = j := by
  have hp := place_le js j
  unfold jobAt putL
  rw [List.getElem?_append_right (by rw [List.length_take]; omega), List.length_take, show placeN js j - min (placeN js j) js.length = 0 by omega]
  rfl
theorem put_at2 {js : List JobV} {j : JobV} {i : Nat} (h : placeN js j ≤ i) : jobAt (putL js j) (i + 1) = jobAt js i := by
  have hp := place_le js j
  unfold jobAt putL
  rw [List.getElem?_append_right (by rw [List.length_take]; omega), List.length_take, show i + 1 - min (placeN js j) js.length = (i - placeN js j) + 1 by omega, List.getElem?_cons_succ, List.getElem?_drop, show placeN js j + (i - placeN js j) = i by omega]
theorem putL_len (js : List JobV) (j : JobV) : (putL js j).length = js.length + 1 := by
  have := place_le js j
  unfold putL
  simp
  omega
theorem putL_mem {js : List JobV} {j x : JobV} : x ∈ putL js j ↔ x = j ∨ x ∈ js := by
  unfold putL
  rw [List.mem_append, List.mem_cons]
  conv => rhs; rw [← List.take_append_drop (placeN js j) js, List.mem_append]
  constructor
  · rintro (h | h | h)
    · exact .inr (.inl h)
    · exact .inl h
    · exact .inr (.inr h)
  · rintro (h | h | h)
    · exact .inr (.inl h)
    · exact .inl h
    · exact .inr (.inr h)
theorem ok_iff {js : List JobV} {j : JobV} : okB js j = true ↔ rowMay js = true ∧ jobMay j = true ∧ hasB js j = false := by
  unfold okB
  simp only [Bool.and_eq_true, Bool.not_eq_true']
theorem has_no {js : List JobV} {j : JobV} (h : hasB js j = false) {i : Nat} (hi : i < js.length) : rankB (jobAt js i) j = false := by
  unfold hasB at h
  rw [List.any_eq_false] at h
  have := h (jobAt js i) (List.mem_of_getElem? (jobAt_mem hi))
  simpa using this
theorem rank_no {a b : JobV} (h : rankB a b = false) (h2 : ¬Ahead a b) : Ahead b a := by
  have h3 : ¬rankB a b = true := by rw [h]; simp
  rw [rank_iff] at h3
  by_cases h4 : Ahead b a
  · exact h4
  · exact absurd ⟨h2, h4⟩ h3
theorem putL_may {js : List JobV} {j : JobV} (h : okB js j = true) (h16 : js.length ≠ 16) : rowMay (putL js j) = true := by
  obtain ⟨hm, hj, hh⟩ := ok_iff.1 h
  obtain ⟨h1, h2, h3⟩ := rowMay_iff.1 hm
  refine rowMay_iff.2 ⟨by rw [putL_len]; omega, ?_, ?_⟩
  · rw [List.all_eq_true] at h2 ⊢
    intro x hx
    rcases putL_mem.1 hx with rfl | hx
    · exact hj
    · exact h2 x hx
  · have hp := place_le js j
    have HB : ∀ i, placeN js j ≤ i → i < js.length → Ahead j (jobAt js i) := fun i hi hl => rank_no (has_no hh hl) (place_behind h3 hi hl)
    refine rises_of fun i k hik hk => ?_
    rw [putL_len] at hk
    rcases Nat.lt_trichotomy i (placeN js j) with hi | hi | hi
    · rw [put_at0 hi]
      rcases Nat.lt_trichotomy k (placeN js j) with hk2 | hk2 | hk2
      · rw [put_at0 hk2]; exact rises_at h3 k hik (by omega)
      · rw [hk2, put_at1]; exact place_ahead hi
      · obtain ⟨k', rfl⟩ : ∃ k', k = k' + 1 := ⟨k - 1, by omega⟩
        rw [put_at2 (by omega)]
        exact (place_ahead hi).trans (HB k' (by omega) (by omega))
    · obtain ⟨k', rfl⟩ : ∃ k', k = k' + 1 := ⟨k - 1, by omega⟩
      rw [hi, put_at1, put_at2 (by omega)]
      exact HB k' (by omega) (by omega)
    · obtain ⟨k', rfl⟩ : ∃ k', k = k' + 1 := ⟨k - 1, by omega⟩
      obtain ⟨i', rfl⟩ : ∃ i', i = i' + 1 := ⟨i - 1, by omega⟩
      rw [put_at2 (by omega), put_at2 (by omega)]
      exact rises_at h3 k' (by omega) (by omega)
end Go.Proofs.YtlppfocoonnpjaaGreatDoor.J

namespace Go.Proofs.YtlppfocoonnpjaaGreatDoor.L
open Go.RowKit
open Go.Proofs.YtlppfocoonnpjaaGreatDoor.J (JobV jz jobAt jobMay rowMay putV putE putL okB leftV lateV chMay chJ chO chD chK oneMore)
open Go.Proofs.YtlppfocoonnpjaaGreatDoor.U (TurnsV turnsMay atMay isB relS relD pickS pickE lateB)

structure EvV where
  kind : Int
  part : Int
  task : Int
  val : Int
def evC (e : EvV) : List Value := [.int .i64 e.kind, .int .i64 e.part, .int .i64 e.task, .int .i64 e.val]
abbrev evVal (e : EvV) : Value := .agg #[.int .i64 e.kind, .int .i64 e.part, .int .i64 e.task, .int .i64 e.val]
def shE : Shape EvV := ⟨4, evC, fun _ => rfl, by decide, fun x u h => by simp [evC] at h; rcases h with rfl | rfl | rfl | rfl <;> rfl⟩

structure LocV where
  idx : Int
  level : Int
  tasks : List TaskV
  turns : List TurnsV
  seqs : List Int
  jobs : List JobV
def tz : TaskV := ⟨0, 0, 0, 0, 0, 0⟩
def LocV.taskAt (L : LocV) (i : Nat) : TaskV := L.tasks[i]?.getD tz
def LocV.turnAt (L : LocV) (i : Nat) : TurnsV := L.turns[i]?.getD ⟨0, []⟩
def LocV.seqAt (L : LocV) (i : Nat) : Int := L.seqs[i]?.getD 0
/-- What every schedule is: its tasks may be, so may its turns and its jobs. -/
structure Fine (L : LocV) (m : Nat) : Prop where
  idx0 : 0 ≤ L.idx
  idx8 : L.idx < 8
  level : L.level = 0 ∨ L.level = 1
  many : L.tasks.length ≤ 6
  turns : L.turns.length = L.tasks.length
  seqs : L.seqs.length = L.tasks.length
  taskMay : ∀ i, i < L.tasks.length → taskMay (L.taskAt i) = true
  turnMay : ∀ i, i < L.tasks.length → turnsMay (L.turnAt i) = true
  seq0 : ∀ i, i < L.tasks.length → 0 ≤ L.seqAt i ∧ L.seqAt i ≤ m
  row : rowMay L.jobs = true
  of : ∀ j, j ∈ L.jobs → j.task < L.tasks.length
def tickB (now : Int) : Bool := decide (0 ≤ now) && decide (now ≤ 1099511627776)
/-- Pick. -/
def pickOk (L : LocV) (i now : Int) : Bool := decide (0 ≤ i) && (decide (i < L.tasks.length) && tickB now)
def pickN (L : LocV) (i d now : Int) : Int := if pickOk L i now = true then pickE (L.taskAt i.toNat) (L.turnAt i.toNat) d else 1400
def pickL (L : LocV) (i d now : Int) : LocV := if pickN L i d now = 0 then { L with turns := L.turns.set i.toNat (pickS (L.taskAt i.toNat) (L.turnAt i.toNat) d) } else L
def pickV (L : LocV) (i d now : Int) : List EvV :=
  if pickN L i d now = 0 then
    (if lateB (L.taskAt i.toNat) (pickS (L.taskAt i.toNat) (L.turnAt i.toNat) d) now = true then [⟨2, L.idx, i, (pickS (L.taskAt i.toNat) (L.turnAt i.toNat) d).last + (L.taskAt i.toNat).period - now⟩] else [])
  else []
/-- Begin: a task's release. -/
def newJob (L : LocV) (now : Int) (i : Nat) : JobV := ⟨i, L.seqAt i, (L.taskAt i).prio, now, now + (L.taskAt i).deadline, relD (L.taskAt i) (L.turnAt i) now, 0⟩
def stepL (now : Int) (L : LocV) (i : Nat) : LocV :=
  if isB (L.taskAt i) (L.turnAt i) now = true then
    (if putE L.jobs (newJob L now i) = 0 then { L with turns := L.turns.set i (relS (L.taskAt i) (L.turnAt i) now), seqs := L.seqs.set i (L.seqAt i + 1), jobs := putV L.jobs (newJob L now i) }
     else { L with turns := L.turns.set i (relS (L.taskAt i) (L.turnAt i) now) })
  else L
def stepV (now : Int) (L : LocV) (i : Nat) : List EvV :=
  if isB (L.taskAt i) (L.turnAt i) now = true then (if putE L.jobs (newJob L now i) = 0 then [⟨1, L.idx, i, relD (L.taskAt i) (L.turnAt i) now⟩] else []) else []
def stepsL (now : Int) (L : LocV) : Nat → LocV
  | 0 => L
  | k + 1 => stepL now (stepsL now L k) k
def stepsV (now : Int) (L : LocV) : Nat → List EvV
  | 0 => []
  | k + 1 => stepsV now L k ++ stepV now (stepsL now L k) k
def missL (L : LocV) (now : Int) : LocV := { L with jobs := leftV L.jobs now }
def missV (L : LocV) (now : Int) : List EvV := (lateV L.jobs now).map fun j => ⟨3, L.idx, j.task, j.used⟩
def beginN (now : Int) : Int := if tickB now = true then 0 else 1400
def beginL (L : LocV) (now : Int) : LocV := if tickB now = true then stepsL now (missL L now) L.tasks.length else L
def beginV (L : LocV) (now : Int) : List EvV := if tickB now = true then missV L now ++ stepsV now (missL L now) L.tasks.length else []
/-- Run, Fail. -/
def headJ (L : LocV) : JobV := jobAt L.jobs 0
def headT (L : LocV) : TaskV := L.taskAt (headJ L).task.toNat
def runO (L : LocV) : Bool := if L.jobs = [] then false else chO (headJ L) (headT L) L.level
def runD (L : LocV) : Bool := if L.jobs = [] then false else chD (headJ L) (headT L) L.level
def runK (L : LocV) : Bool := if L.jobs = [] then false else chK (headJ L) (headT L) L.level
def runN (L : LocV) : Int := if L.jobs = [] then 1401 else 0
def runL (L : LocV) : LocV := if L.jobs = [] then L else if (runD L || runK L) = true then { L with jobs := L.jobs.drop 1 } else { L with jobs := oneMore (headJ L) :: L.jobs.drop 1 }
def runV (L : LocV) : List EvV := (if runO L = true then [⟨4, L.idx, (headJ L).task, (headJ L).used + 1⟩] else []) ++ ((if runD L = true then [⟨5, L.idx, (headJ L).task, (headJ L).used + 1⟩] else []) ++ (if runK L = true then [⟨6, L.idx, (headJ L).task, (headJ L).used + 1⟩] else []))
def failL (L : LocV) : LocV := if L.jobs = [] then L else { L with jobs := L.jobs.drop 1 }
def failV (L : LocV) : List EvV := if L.jobs = [] then [] else [⟨7, L.idx, (headJ L).task, (headJ L).used⟩]
/-- A new one. -/
def newB (i : Int) (e : Int) : Bool := decide (0 ≤ i) && (decide (i < 8) && decide (e = 0))
def newL (i : Int) (p : PartV) : LocV := ⟨i, p.level, p.tasks, p.tasks.map fun _ => ⟨-1, []⟩, p.tasks.map fun _ => 0, []⟩

/-! What is kept. -/
theorem set_len {α : Type} (xs : List α) (i : Nat) (x : α) : (xs.set i x).length = xs.length := List.length_set
theorem getD_set {α : Type} (xs : List α) (i k : Nat) (x z : α) : ((xs.set i x)[k]?).getD z = if i = k ∧ k < xs.length then x else (xs[k]?).getD z := by
  rw [List.getElem?_set]
  by_cases h : i = k
  · subst h
    by_cases h2 : i < xs.length
    · simp [h2]
    · simp [h2]
  · simp [h]
theorem row_tail {js : List JobV} (h : rowMay js = true) : rowMay (js.drop 1) = true := J.may_part h (List.drop_sublist 1 js)
theorem row_nil : rowMay [] = true := by decide
theorem job_of {L : LocV} {m : Nat} (h : Fine L m) {j : JobV} (hj : j ∈ L.jobs) : jobMay j = true := List.all_eq_true.1 (J.rowMay_iff.1 h.row).2.1 j hj
theorem head_mem {L : LocV} (h : L.jobs ≠ []) : headJ L ∈ L.jobs := by
  unfold headJ jobAt
  match e : L.jobs, h with
  | x :: xs, _ => simp
theorem cons_head {L : LocV} (h : L.jobs ≠ []) : L.jobs = headJ L :: L.jobs.drop 1 := by
  unfold headJ jobAt
  match e : L.jobs, h with
  | x :: xs, _ => simp
theorem Fine.mono {L : LocV} {m k : Nat} (h : Fine L m) (hk : m ≤ k) : Fine L k :=
  ⟨h.idx0, h.idx8, h.level, h.many, h.turns, h.seqs, h.taskMay, h.turnMay, fun i hi => ⟨(h.seq0 i hi).1, by have := (h.seq0 i hi).2; omega⟩, h.row, h.of⟩
theorem Fine.jobs {L : LocV} {m : Nat} (h : Fine L m) {js : List JobV} (h1 : rowMay js = true) (h2 : ∀ j, j ∈ js → j.task < L.tasks.length) : Fine { L with jobs := js } m :=
  ⟨h.idx0, h.idx8, h.level, h.many, h.turns, h.seqs, h.taskMay, h.turnMay, h.seq0, h1, h2⟩
theorem Fine.turn {L : LocV} {m : Nat} (h : Fine L m) {i : Nat} {s : TurnsV} (hs : turnsMay s = true) : Fine { L with turns := L.turns.set i s } m :=
  ⟨h.idx0, h.idx8, h.level, h.many, by show (L.turns.set i s).length = _; rw [set_len]; exact h.turns, h.seqs, h.taskMay, fun k hk => by
    show turnsMay (((L.turns.set i s)[k]?).getD _) = true
    rw [getD_set]
    split
    · exact hs
    · exact h.turnMay k hk, h.seq0, h.row, h.of⟩
theorem fail_fine {L : LocV} {m : Nat} (h : Fine L m) : Fine (failL L) m := by
  unfold failL
  split
  · exact h
  · exact h.jobs (row_tail h.row) fun j hj => h.of j (List.mem_of_mem_drop hj)
theorem one_row {j : JobV} {js : List JobV} (h : rowMay (j :: js) = true) (h2 : j.used + 1 < j.dem) : rowMay (oneMore j :: js) = true := by
  obtain ⟨h3, h4, h5⟩ := J.rowMay_iff.1 h
  refine J.rowMay_iff.2 ⟨h3, ?_, ?_⟩
  · simp only [List.all_cons, Bool.and_eq_true] at h4 ⊢
    refine ⟨?_, h4.2⟩
    have := h4.1
    unfold jobMay oneMore at *
    simp only [Bool.and_eq_true, decide_eq_true_eq] at this ⊢
    omega
  · have h6 := J.rises_pair.1 h5
    refine J.rises_pair.2 ?_
    rw [List.pairwise_cons] at h6 ⊢
    exact ⟨fun x hx => h6.1 x hx, h6.2⟩
theorem run_done {L : LocV} (hne : L.jobs ≠ []) {m : Nat} (h : Fine L m) : chMay (headJ L) (headT L) L.level = true := by
  have hj := job_of h (head_mem hne)
  have ht := h.of _ (head_mem hne)
  have h0 := (J.job_parts hj).1
  unfold chMay J.levMay
  rw [hj, decide_eq_true h.level]
  rw [show taskMay (headT L) = true from h.taskMay _ (by omega)]
  rfl
theorem run_fine {L : LocV} {m : Nat} (h : Fine L m) : Fine (runL L) m := by
  unfold runL
  split
  · exact h
  · rename_i hne
    split
    · exact h.jobs (row_tail h.row) fun j hj => h.of j (List.mem_of_mem_drop hj)
    · rename_i hdk
      have hm := run_done hne h
      have hd : ¬(headJ L).used + 1 = (headJ L).dem := by
        intro e
        apply hdk
        unfold runD
        rw [if_neg hne]
        unfold chD
        rw [hm, decide_eq_true e]
        rfl
      have hp := J.job_parts (job_of h (head_mem hne))
      refine h.jobs (one_row (by rw [← cons_head hne]; exact h.row) (by omega)) fun j hj => ?_
      rcases List.mem_cons.1 hj with rfl | hj
      · exact h.of (headJ L) (head_mem hne)
      · exact h.of j (List.mem_of_mem_drop hj)
theorem pick_may {t : TaskV} {s : TurnsV} {d : Int} (h : pickE t s d = 0) : turnsMay (pickS t s d) = true := by
  unfold pickE at h
  unfold pickS
  split at h
  · rename_i h1
    rw [if_pos h1]
    split at h
    · exact absurd h (by decide)
    · rename_i h2
      rw [if_neg h2]
      rw [Bool.and_eq_true, Bool.and_eq_true] at h1
      have h3 := h1.2.1
      have h4 := h1.2.2
      unfold turnsMay at h3 ⊢
      simp only [Bool.and_eq_true, decide_eq_true_eq] at h3 ⊢
      refine ⟨h3.1, h3.2.1, ?_, ?_⟩
      · rw [List.length_append]
        have := h3.2.2.1
        simp only [List.length_cons, List.length_nil]
        omega
      · rw [List.all_append, h3.2.2.2]
        simp [h4]
  · exact absurd h (by decide)
theorem rel_may {t : TaskV} {s : TurnsV} {now : Int} (h : isB t s now = true) : turnsMay (relS t s now) = true := by
  unfold isB at h
  rw [Bool.and_eq_true] at h
  unfold relS
  rw [if_pos h.1, if_pos h.2]
  have h1 := h.1
  unfold atMay at h1
  simp only [Bool.and_eq_true, decide_eq_true_eq] at h1
  have h3 := h1.2.1
  unfold turnsMay U.jobS at *
  simp only [Bool.and_eq_true, decide_eq_true_eq] at h3 ⊢
  refine ⟨by omega, by omega, ?_, ?_⟩
  · rw [List.length_drop]; have := h3.2.2.1; omega
  · have h6 := List.all_eq_true.1 h3.2.2.2
    rw [List.all_eq_true]
    intro x hx
    exact h6 x (List.mem_of_mem_drop hx)
theorem pick_fine {L : LocV} {m : Nat} (h : Fine L m) (i d now : Int) : Fine (pickL L i d now) m := by
  unfold pickL
  split
  · rename_i h1
    refine h.turn (pick_may ?_)
    unfold pickN at h1
    split at h1
    · exact h1
    · exact absurd h1 (by decide)
  · exact h
theorem put_ok {L : LocV} {m : Nat} (h : Fine L m) {j : JobV} (hj : putE L.jobs j = 0) (ht : j.task < L.tasks.length) : rowMay (putV L.jobs j) = true ∧ ∀ x, x ∈ putV L.jobs j → x.task < L.tasks.length := by
  unfold putE at hj
  split at hj
  · rename_i h1
    split at hj
    · exact absurd hj (by decide)
    · rename_i h2
      have e : putV L.jobs j = putL L.jobs j := by unfold putV; rw [if_pos h1, if_neg h2]
      rw [e]
      refine ⟨J.putL_may h1 h2, fun x hx => ?_⟩
      rcases J.putL_mem.1 hx with rfl | hx
      · exact ht
      · exact h.of x hx
  · exact absurd hj (by decide)
theorem step_tasks (now : Int) (L : LocV) (i : Nat) : (stepL now L i).tasks = L.tasks ∧ (stepL now L i).idx = L.idx ∧ (stepL now L i).level = L.level := by
  unfold stepL
  split
  · split <;> exact ⟨rfl, rfl, rfl⟩
  · exact ⟨rfl, rfl, rfl⟩
theorem step_fine {L : LocV} {m : Nat} (h : Fine L m) (now : Int) {i : Nat} (hi : i < L.tasks.length) : Fine (stepL now L i) (m + 1) := by
  unfold stepL
  split
  · rename_i h1
    have ht := h.turn (i := i) (rel_may h1)
    split
    · rename_i h2
      have hp := put_ok h h2 (show (newJob L now i).task < L.tasks.length by show (i : Int) < _; omega)
      exact ⟨h.idx0, h.idx8, h.level, h.many, ht.turns, by show (L.seqs.set i _).length = _; rw [set_len]; exact h.seqs, h.taskMay, ht.turnMay, fun k hk => by
        show 0 ≤ ((L.seqs.set i (L.seqAt i + 1))[k]?).getD 0 ∧ ((L.seqs.set i (L.seqAt i + 1))[k]?).getD 0 ≤ _
        rw [getD_set]
        have h3 := h.seq0 k hk
        have h4 := h.seq0 i hi
        split
        · omega
        · exact ⟨h3.1, by have : (L.seqs[k]?).getD 0 ≤ m := h3.2; omega⟩, hp.1, hp.2⟩
    · exact ht.mono (by omega)
  · exact h.mono (by omega)
theorem steps_fine {L : LocV} {m : Nat} (h : Fine L m) (now : Int) : ∀ k, k ≤ L.tasks.length → Fine (stepsL now L k) (m + k) ∧ (stepsL now L k).tasks = L.tasks ∧ (stepsL now L k).idx = L.idx ∧ (stepsL now L k).level = L.level := by
  intro k
  induction k with
  | zero => intro _; exact ⟨h, rfl, rfl, rfl⟩
  | succ k ih =>
    intro hk
    obtain ⟨h1, h2, h3, h4⟩ := ih (by omega)
    have h5 := step_tasks now (stepsL now L k) k
    exact ⟨step_fine h1 now (by rw [h2]; omega), h5.1.trans h2, h5.2.1.trans h3, h5.2.2.trans h4⟩
theorem miss_fine {L : LocV} {m : Nat} (h : Fine L m) (now : Int) : Fine (missL L now) m := by
  refine h.jobs (J.left_may h.row).1 fun j hj => ?_
  unfold leftV at hj
  rw [if_pos h.row] at hj
  exact h.of j (List.mem_filter.1 hj).1
theorem begin_fine {L : LocV} {m : Nat} (h : Fine L m) (now : Int) : Fine (beginL L now) (m + 6) := by
  unfold beginL
  split
  · have h1 := (steps_fine (miss_fine h now) now L.tasks.length (Nat.le_refl _)).1
    exact h1.mono (by have := h.many; omega)
  · exact h.mono (by omega)
end Go.Proofs.YtlppfocoonnpjaaGreatDoor.L

namespace Go.Proofs.YtlppfocoonnpjaaGreatDoor.L
open Go.RowKit
open Go.Proofs.YtlppfocoonnpjaaGreatDoor.J (JobV jobAt jobMay rowMay TypeAt own_type box_type type_box type_own own_mono Far far_new far_nil blk_cell blk_free blk_set box_lt box_grown)

/-- Events that a call made from block base on. -/
def OwnE (base : Nat) (W : World) (v : Value) (es : List EvV) : Prop := W.ownsRow base 68 4 v es.length (shE.cells es)
theorem OwnE.row {base : Nat} {W : World} {v : Value} {es : List EvV} (h : OwnE base W v es) : RowAt shE base W v es := rowAt_own (S := shE) h
theorem OwnE.grown {base : Nat} {W W' : World} {v : Value} {es : List EvV} (h : OwnE base W v es) (hg : W.grownBy W' none) : OwnE base W' v es := own_kept h hg
theorem ownE_nil (base : Nat) (W : World) : OwnE base W (.slice none 0 0) [] := World.ownsRow_nil W base 68 4
/-- The blocks of a new value are the old one's, or new. -/
def OrNew (B : Nat) (v v' : Value) : Prop := ∀ k, v'.ownBlock = some k → k < B → v.ownBlock = some k
theorem OrNew.refl (B : Nat) (v : Value) : OrNew B v v := fun _ h _ => h
theorem OrNew.trans {B B' : Nat} {v v' v'' : Value} (h : OrNew B v v') (h' : OrNew B' v' v'') (hb : B ≤ B') : OrNew B v v'' := fun k hk hkb => h k (h' k hk (Nat.lt_of_lt_of_le hkb hb)) hkb
theorem orNew_new {B base e s n : Nat} {W : World} {v v' : Value} {xs : List Value} (h : W.ownsRow base e s v' n xs) (hb : B ≤ base) : OrNew B v v' := fun k hk hkb => absurd (World.ownsRow.lt h k hk).1 (by omega)
theorem cells_set {α : Type} (S : Shape α) : ∀ (xs : List α) (j : Nat) (x x' : α) (i : Nat) (u : Value), xs[j]? = some x → i < S.k → S.f x' = (S.f x).set i u → (S.cells xs).set (j * S.k + i) u = S.cells (xs.set j x')
  | [], j, x, x', i, u, h, _, _ => by simp at h
  | y :: ys, 0, x, x', i, u, h, hi, e => by
    simp only [List.getElem?_cons_zero, Option.some.injEq] at h
    subst h
    rw [List.set_cons_zero, S.cells_cons, S.cells_cons, e, Nat.zero_mul, Nat.zero_add, List.set_append_left _ _ (by rw [S.len]; exact hi)]
  | y :: ys, j + 1, x, x', i, u, h, hi, e => by
    simp only [List.getElem?_cons_succ] at h
    rw [List.set_cons_succ, S.cells_cons, S.cells_cons, ← cells_set S ys j x x' i u h hi e]
    rw [show (j + 1) * S.k + i = (S.f y).length + (j * S.k + i) by rw [S.len, Nat.add_mul]; omega]
    rw [List.set_append_right _ _ (Nat.le_add_right _ _), Nat.add_sub_cancel_left]
theorem blk_set3 {W : World} {b t j : Nat} {fr : Nat × Nat} {u : Value} {cs cs' : Array Value} (h : W.heap[b]? = some (.cells cs t fr)) (e : cs.setIfInBounds j u = cs') : (W.setCell ⟨b, j, none⟩ u).heap[b]? = some (.cells cs' t fr) := by
  subst e
  simp [World.setCell, Array.getElem?_modify, h]
/-- One cell of one element written. -/
theorem own_set {α : Type} {S : Shape α} {W : World} {base e g n cap : Nat} {xs : List α} (h : W.ownsRow base e S.k (.slice (some ⟨g, 0, none⟩) n cap) n (S.cells xs)) {j : Nat} {x : α} (hx : xs[j]? = some x) {i : Nat} (hi : i < S.k) {u : Value} {x' : α} (hu : S.f x' = (S.f x).set i u) : (W.setCell ⟨g, j * S.k + i, none⟩ u).ownsRow base e S.k (.slice (some ⟨g, 0, none⟩) n cap) n (S.cells (xs.set j x')) := by
  refine ⟨by rw [← cells_set S xs j x x' i u hx hi hu, List.length_set]; exact h.1, ?_⟩
  rcases h.2 with ⟨h1, _⟩ | ⟨g', cap', cur, h1, hb, hc, h2, h3, h4, h5⟩
  · cases h1
  · simp only [Value.slice.injEq, Option.some.injEq, Addr.mk.injEq] at h1
    obtain ⟨⟨rfl, -, -⟩, -, rfl⟩ := h1
    refine .inr ⟨g, cap, cur.setIfInBounds (j * S.k + i) u, rfl, hb, ?_, h2, h3, by simpa using h4, ?_⟩
    · exact blk_set3 hc rfl
    · rw [Array.toList_setIfInBounds, List.take_set, h5]
      exact cells_set S xs j x x' i u hx hi hu
theorem own_free {W : World} {base e k g n cap : Nat} {xs : List Value} (h : W.ownsRow base e k (.slice (some ⟨g, 0, none⟩) n cap) n xs) (j : Nat) : W.frozen? ⟨g, j, none⟩ = false := by
  rcases h.2 with ⟨h1, _⟩ | ⟨g', cap', cur, h1, hb, hc, _⟩
  · cases h1
  · simp only [Value.slice.injEq, Option.some.injEq, Addr.mk.injEq] at h1
    obtain ⟨⟨rfl, -, -⟩, -⟩ := h1
    exact blk_free hc _
theorem own_cell {α : Type} {S : Shape α} {W : World} {base e g n cap : Nat} {xs : List α} (h : W.ownsRow base e S.k (.slice (some ⟨g, 0, none⟩) n cap) n (S.cells xs)) {j : Nat} {x : α} (hx : xs[j]? = some x) {i : Nat} {u : Value} (hu : (S.f x)[i]? = some u) : W.cell? ⟨g, j * S.k + i, none⟩ = some u := by
  have h2 := h.cells (g := g) rfl _ _ (S.cells_get xs j x hx i u hu)
  rw [Go.WideShapes.add_plain, Nat.zero_add] at h2
  exact h2
theorem own_ge {W : World} {base e k g n cap : Nat} {xs : List Value} (h : W.ownsRow base e k (.slice (some ⟨g, 0, none⟩) n cap) n xs) : base ≤ g ∧ g < W.heap.size := by
  rcases h.2 with ⟨h1, _⟩ | ⟨g', cap', cur, h1, hb, hc, _⟩
  · cases h1
  · simp only [Value.slice.injEq, Option.some.injEq, Addr.mk.injEq] at h1
    obtain ⟨⟨rfl, -, -⟩, -⟩ := h1
    exact ⟨hb, (Array.getElem?_eq_some_iff.1 hc).1⟩
/-- A row that is not empty lies in a block from its first cell on. -/
theorem own_at {W : World} {base e k n : Nat} {v : Value} {xs : List Value} (h : W.ownsRow base e k v n xs) (hn : 0 < n) : ∃ g cap, v = .slice (some ⟨g, 0, none⟩) n cap ∧ n ≤ cap := by
  rcases h.2 with ⟨_, h1⟩ | ⟨g, cap, cur, h1, hb, hc, h2, _⟩
  · omega
  · exact ⟨g, cap, h1, h2⟩
theorem sizeE : (Tryz.prog.info? 68).map (·.size) = some 4 := by kernel_rfl
theorem infoE : (Tryz.prog.info? 68).map (fun i => (i.zero, i.size, i.bytes)) = some (some (.agg #[.int .i64 0, .int .i64 0, .int .i64 0, .int .i64 0]), 4, 32) := by kernel_rfl
theorem own_off0 {base g o e size n cap : Nat} {W : World} {xs : List Value} (h : W.ownsRow base e size (.slice (some ⟨g, o, none⟩) n cap) n xs) : o = 0 := by
  rcases h.2 with ⟨h', _⟩ | ⟨g', cap', cur, h', _⟩
  · simp at h'
  · simp at h'; exact h'.1.2
theorem ev_lit (w : World) (e : EvV) : (w.alloc (.cells #[.int .i64 e.kind, .int .i64 e.part, .int .i64 e.task, .int .i64 e.val] 68)).ownsRow w.heap.size 68 4 (.slice (some ⟨w.heap.size, 0, none⟩) 1 1) 1 (shE.cells [e]) := World.ownsRow_lit w #[.int .i64 e.kind, .int .i64 e.part, .int .i64 e.task, .int .i64 e.val] 1 (Nat.le_refl _) (by unfold maxLen; omega) (by simp)
theorem far_fresh {W W' : World} {base e s n e2 s2 n2 : Nat} {v vq : Value} {xs ys : List Value} (hq : W.ownsRow base e s vq n xs) (ho : W'.ownsRow W.heap.size e2 s2 v n2 ys) : Far v vq := fun g h1 h2 => by
  have a := (World.ownsRow.lt ho g h1).1
  have b := (World.ownsRow.lt hq g h2).2
  omega
#print axioms own_set
end Go.Proofs.YtlppfocoonnpjaaGreatDoor.L
