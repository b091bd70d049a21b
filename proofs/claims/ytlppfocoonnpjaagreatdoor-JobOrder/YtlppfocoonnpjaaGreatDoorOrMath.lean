/- JobOrder's schedule, on lists alone: the least Prio stands first, each job runs to its end. -/
import Derived.Test.YtlppfocoonnpjaaGreatDoorPNewt
import Derived.Test.YtlppfocoonnpjaaGreatDoorTmath
namespace Go.Proofs.YtlppfocoonnpjaaGreatDoor.L
open Go.RowKit
open Go.Proofs.YtlppfocoonnpjaaGreatDoor.J (JobV jz jobAt jobMay rowMay putV putE putL okB hasB leftV lateV placeN chMay chJ chO chD chK chE oneMore)
open Go.Proofs.YtlppfocoonnpjaaGreatDoor.U (TurnsV turnsMay atMay isB relS relD pickS pickE lateB)

/-- Task i of JobOrder's part. -/
def tO (p : Int) : TaskV := ⟨1, 90, 90, 9, 9, p⟩
structure OrT (ts : List TaskV) : Prop where
  len : ts.length ≤ 5
  each : ∀ (i : Nat) t, ts[i]? = some t → ∃ c : Nat, c ≤ 31 ∧ t = tO (8 * (c : Int) + i)
theorem orT_nil : OrT [] := ⟨by decide, fun i t h => by simp at h⟩
theorem orT_snoc {ts : List TaskV} (h : OrT ts) (hl : ts.length < 5) {c : Nat} (hc : c ≤ 31) : OrT (ts ++ [tO (8 * (c : Int) + ts.length)]) := by
  refine ⟨by rw [List.length_append]; simp; omega, fun i t hi => ?_⟩
  rcases Nat.lt_or_ge i ts.length with h1 | h1
  · rw [List.getElem?_append_left h1] at hi
    exact h.each i t hi
  · rw [List.getElem?_append_right h1] at hi
    have h2 : i - ts.length = 0 := by
      rcases Nat.eq_zero_or_pos (i - ts.length) with e | e
      · exact e
      · rw [List.getElem?_eq_none (by simp; omega)] at hi; cases hi
    rw [h2] at hi
    cases hi
    exact ⟨c, hc, by rw [show i = ts.length by omega]⟩
theorem tO_may {p : Int} (h0 : 0 ≤ p) (h1 : p ≤ 255) : taskMay (tO p) = true := by
  unfold taskMay tO
  simp only [Bool.and_eq_true, decide_eq_true_eq, or_true, true_and]
  omega
theorem order_ok {ts : List TaskV} (h : OrT ts) : newOk 0 ⟨1, ts, []⟩ = true := by
  have e1 : partsB [⟨1, ts, []⟩] = true := by
    unfold partsB
    rw [show allB [(⟨1, ts, []⟩ : PartV)].length (fun i => levelB (partAt [⟨1, ts, []⟩] i).level) = true from allB_true fun k hk => by
      obtain rfl : k = 0 := by simp at hk; exact hk
      rfl]
    rfl
  have e2 : ∀ i, i < ts.length → taskOK 1 ts i = true := fun i hi => by
    obtain ⟨c, hc, e⟩ := h.each i ts[i] (List.getElem?_eq_getElem hi)
    have e3 : taskAt ts i = tO (8 * (c : Int) + i) := by unfold taskAt; rw [List.getElem?_eq_getElem hi]; exact e
    have hl := h.len
    have e4 : anyPrio (ts.take i) (8 * (c : Int) + i) = false := by
      unfold anyPrio
      rw [show allB (ts.take i).length (fun k => !decide ((taskAt (ts.take i) k).prio = 8 * (c : Int) + i)) = true from allB_true fun k hk => by
        have hk2 : k < i := by rw [List.length_take] at hk; omega
        obtain ⟨c', hc', e'⟩ := h.each k ts[k] (List.getElem?_eq_getElem (by omega))
        have e5 : taskAt (ts.take i) k = tO (8 * (c' : Int) + k) := by
          unfold taskAt
          rw [List.getElem?_take, if_pos hk2, List.getElem?_eq_getElem (by omega)]
          exact e'
        rw [e5]
        show (!decide (8 * (c' : Int) + k = 8 * (c : Int) + i)) = true
        rw [decide_eq_false (by omega)]
        rfl]
      rfl
    unfold taskOK
    rw [e3, tO_may (by omega) (by omega), show (tO (8 * (c : Int) + i)).prio = 8 * (c : Int) + i from rfl, e4]
    rfl
  have e3 : tasksB ⟨1, ts, []⟩ = true := by
    unfold tasksB
    rw [show allB (⟨1, ts, []⟩ : PartV).tasks.length (taskOK 1 ts) = true from allB_true e2, decide_eq_true (show ts.length ≤ 6 by have := h.len; omega)]
    rfl
  have e6 : checkN (alone ⟨1, ts, []⟩) = 0 := by
    unfold checkN
    rw [show (alone ⟨1, ts, []⟩).parts = [⟨1, ts, []⟩] from rfl, e1]
    rw [show allB [(⟨1, ts, []⟩ : PartV)].length (fun i => tasksB (partAt [⟨1, ts, []⟩] i)) = true from allB_true fun k hk => by
      obtain rfl : k = 0 := by simp at hk; exact hk
      exact e3]
    rw [show allB [(⟨1, ts, []⟩ : PartV)].length (fun i => codeMay (partAt [⟨1, ts, []⟩] i).code) = true from allB_true fun k hk => by
      obtain rfl : k = 0 := by simp at hk; exact hk
      rfl]
    rfl
  unfold newOk newB
  rw [e6]
  rfl
/-- What holds behind i picks and begins. -/
structure OI (ts : List TaskV) (d : Int) (L : LocV) (i m : Nat) : Prop where
  fine : Fine L m
  tasks : L.tasks = ts
  fresh : ∀ k, i ≤ k → k < ts.length → L.turnAt k = ⟨-1, []⟩
  past : ∀ k, k < i → (L.turnAt k).picks = []
  jobs : ∀ j, j ∈ L.jobs → j.task < i ∧ j.used = 0 ∧ j.dem = d ∧ 90 ≤ j.dead ∧ j.prio = (L.taskAt j.task.toNat).prio
  has : ∀ k, k < i → ∃ j, j ∈ L.jobs ∧ j.task = (k : Int)
  len : L.jobs.length = i
  level : L.level = 1
theorem oi_new {ts : List TaskV} {d : Int} (h : Fine (newL 0 ⟨1, ts, []⟩) 0) : OI ts d (newL 0 ⟨1, ts, []⟩) 0 0 := by
  refine ⟨h, rfl, fun k _ hk => ?_, fun k hk => absurd hk (by omega), fun j hj => (by cases hj), fun k hk => absurd hk (by omega), rfl, rfl⟩
  unfold LocV.turnAt newL
  simp only [List.getElem?_map]
  rw [List.getElem?_eq_getElem hk]
  rfl
theorem head_least {js : List JobV} (h : rowMay js = true) {j : JobV} (hj : j ∈ js) : (jobAt js 0).prio ≤ j.prio := by
  have hr := (J.rowMay_iff.1 h).2.2
  obtain ⟨k, hk, rfl⟩ := List.getElem_of_mem hj
  have e : js[k] = jobAt js k := by unfold jobAt; rw [List.getElem?_eq_getElem hk]; rfl
  rw [e]
  rcases Nat.eq_zero_or_pos k with rfl | h0
  · exact Int.le_refl _
  · exact J.Ahead.prio (J.rises_at hr k h0 hk)
theorem set_turn {L : LocV} {i k : Nat} {s : TurnsV} (hi : i < L.turns.length) : ({ L with turns := L.turns.set i s } : LocV).turnAt k = if i = k then s else L.turnAt k := by
  unfold LocV.turnAt
  rw [getD_set]
  by_cases e : i = k
  · rw [if_pos e, if_pos ⟨e, by omega⟩]
  · rw [if_neg e, if_neg (fun h => e h.1)]
theorem tickB_small {now : Int} (h0 : 0 ≤ now) (h1 : now ≤ 1000000) : tickB now = true := by
  unfold tickB
  rw [decide_eq_true h0, decide_eq_true (show now ≤ 1099511627776 by omega)]
  rfl
theorem rel_job {t : TaskV} {s : TurnsV} {now : Int} (h : isB t s now = true) : relS t s now = ⟨now, s.picks.drop 1⟩ ∧ relD t s now = s.picks[0]?.getD t.clow := by
  have h1 := h
  unfold isB at h1
  rw [Bool.and_eq_true] at h1
  unfold relS relD
  rw [if_pos h1.1, if_pos h1.2, if_pos h]
  exact ⟨rfl, rfl⟩
/-- A pick and a begin of task i at tick i. -/
theorem oi_step {ts : List TaskV} {d : Int} {L : LocV} {i m : Nat} (hT : OrT ts) (h : OI ts d L i m) (hi : i < ts.length) (hd0 : 1 ≤ d) (hd4 : d ≤ 4) :
    pickN L i d i = 0 ∧ pickV L i d i = [] ∧ OI ts d (beginL (pickL L i d i) i) (i + 1) (m + 6) := by
  have hl5 := hT.len
  have hit : i < L.turns.length := by rw [h.fine.turns, h.tasks]; exact hi
  have htask : ∀ k, k < ts.length → ∃ c : Nat, c ≤ 31 ∧ L.taskAt k = tO (8 * (c : Int) + k) := fun k hk => by
    obtain ⟨c, hc, e⟩ := hT.each k ts[k] (List.getElem?_eq_getElem hk)
    refine ⟨c, hc, ?_⟩
    unfold LocV.taskAt
    rw [h.tasks, List.getElem?_eq_getElem hk]
    exact e
  obtain ⟨c, hc, hti⟩ := htask i hi
  have ht := tickB_small (now := (i : Int)) (by omega) (by omega)
  have hok : pickOk L i i = true := by
    unfold pickOk
    rw [ht, decide_eq_true (show (0 : Int) ≤ i by omega), decide_eq_true (show (i : Int) < (L.tasks.length : Int) by rw [h.tasks]; omega)]
    rfl
  have hmay : taskMay (L.taskAt i) = true := h.fine.taskMay i (by rw [h.tasks]; exact hi)
  have hfr := h.fresh i (Nat.le_refl _) hi
  have hdm : U.demMay d = true := by unfold U.demMay; rw [decide_eq_true hd0, decide_eq_true (show d ≤ 65535 by omega)]; rfl
  have hE : pickE (L.taskAt i) (L.turnAt i) d = 0 ∧ pickS (L.taskAt i) (L.turnAt i) d = ⟨-1, [d]⟩ := by
    rw [hfr]
    unfold pickE pickS
    rw [hmay, show turnsMay ⟨-1, []⟩ = true by decide, hdm]
    exact ⟨rfl, rfl⟩
  have hN : pickN L i d i = 0 := by unfold pickN; rw [if_pos hok, Int.toNat_natCast]; exact hE.1
  have hPL : pickL L i d i = { L with turns := L.turns.set i ⟨-1, [d]⟩ } := by unfold pickL; rw [if_pos hN, Int.toNat_natCast, hE.2]
  have hPV : pickV L i d i = [] := by
    unfold pickV
    rw [if_pos hN, Int.toNat_natCast, hE.2]
    have : lateB (L.taskAt i) ⟨-1, [d]⟩ i = false := by unfold lateB U.waitsB; simp
    rw [if_neg (by rw [this]; decide)]
  refine ⟨hN, hPV, ?_⟩
  have hfin := begin_fine (pick_fine h.fine i d i) i
  rw [hPL] at hfin ⊢
  obtain ⟨K, hK⟩ : ∃ K, ({ L with turns := L.turns.set i ⟨-1, [d]⟩ } : LocV) = K := ⟨_, rfl⟩
  have hKt : K.tasks = L.tasks := by rw [← hK]
  have hKj : K.jobs = L.jobs := by rw [← hK]
  have hKl : K.level = L.level := by rw [← hK]
  have hKa : ∀ k, K.taskAt k = L.taskAt k := fun k => by rw [← hK]; rfl
  have hKu : ∀ k, K.turnAt k = if i = k then ⟨-1, [d]⟩ else L.turnAt k := fun k => by rw [← hK]; exact set_turn hit
  have hKF : Fine K m := by have := pick_fine h.fine i d i; rw [hPL, hK] at this; exact this
  rw [hK] at hfin ⊢
  clear hK
  -- nothing is missed
  have hmiss : missL K i = K := by
    unfold missL leftV
    rw [if_pos hKF.row]
    have : K.jobs.filter (fun x => !decide (x.dead ≤ (i : Int))) = K.jobs := by
      rw [List.filter_eq_self]
      intro j hj
      have := (h.jobs j (by rw [← hKj]; exact hj)).2.2.2.1
      rw [decide_eq_false (by omega)]
      rfl
    rw [this]
  have hbeg : beginL K i = stepsL i K K.tasks.length := by unfold beginL; rw [if_pos ht, hmiss]
  -- ahead of task i nothing comes
  have hno : ∀ k, k < ts.length → k ≠ i → isB (K.taskAt k) (K.turnAt k) i = false := fun k hk hki => by
    obtain ⟨c', -, e⟩ := htask k hk
    have hp : (K.turnAt k).picks = [] := by
      rw [hKu k, if_neg (Ne.symm hki)]
      rcases Nat.lt_or_ge k i with h1 | h1
      · exact h.past k h1
      · rw [h.fresh k h1 hk]
    unfold isB U.comesB
    rw [hKa k, e, hp]
    simp [tO]
  have h1 : ∀ k, k ≤ i → stepsL i K k = K := by
    intro k
    induction k with
    | zero => intro _; rfl
    | succ k ih =>
      intro hk
      show stepL i (stepsL i K k) k = K
      rw [ih (by omega)]
      unfold stepL
      rw [hno k (by omega) (by omega)]
      rfl
  have hKi : K.turnAt i = ⟨-1, [d]⟩ := by rw [hKu i, if_pos rfl]
  have hyes : isB (K.taskAt i) (K.turnAt i) i = true := by
    unfold isB atMay U.comesB U.waitsB
    rw [hKi, hKa i, hmay, hti]
    rw [show turnsMay ⟨-1, [d]⟩ = true from by unfold turnsMay; simp only [List.all_cons, List.all_nil, hdm]; rfl]
    rw [decide_eq_true (show (0 : Int) ≤ i by omega), decide_eq_true (show (i : Int) ≤ 1099511627776 by omega)]
    rfl
  have hrel := rel_job hyes
  have hnj : newJob K i i = ⟨i, K.seqAt i, 8 * (c : Int) + i, i, (i : Int) + 90, d, 0⟩ := by
    unfold newJob
    rw [hrel.2, hKi, hKa i, hti]
    rfl
  have hseq := hKF.seq0 i (by rw [hKt, h.tasks]; exact hi)
  have hjm : jobMay ⟨i, K.seqAt i, 8 * (c : Int) + i, i, (i : Int) + 90, d, 0⟩ = true := by
    unfold jobMay
    simp only [Bool.and_eq_true, decide_eq_true_eq]
    omega
  have hhas : hasB K.jobs ⟨i, K.seqAt i, 8 * (c : Int) + i, i, (i : Int) + 90, d, 0⟩ = false := by
    unfold hasB
    rw [List.any_eq_false]
    intro x hx hr
    have := (h.jobs x (by rw [← hKj]; exact hx)).1
    unfold J.rankB at hr
    simp only [Bool.and_eq_true, decide_eq_true_eq] at hr
    omega
  have hokB : okB K.jobs ⟨i, K.seqAt i, 8 * (c : Int) + i, i, (i : Int) + 90, d, 0⟩ = true := by unfold okB; rw [hKF.row, hjm, hhas]; rfl
  have hlen : ¬K.jobs.length = 16 := by rw [hKj, h.len]; omega
  have hput : putE K.jobs (newJob K i i) = 0 ∧ putV K.jobs (newJob K i i) = putL K.jobs (newJob K i i) := by
    rw [hnj]
    unfold putE putV
    rw [if_pos hokB, if_pos hokB, if_neg hlen, if_neg hlen]
    exact ⟨rfl, rfl⟩
  have hstep : stepL i K i = { K with turns := K.turns.set i ⟨i, []⟩, seqs := K.seqs.set i (K.seqAt i + 1), jobs := putL K.jobs (newJob K i i) } := by
    unfold stepL
    rw [if_pos hyes, if_pos hput.1, hput.2, hrel.1, hKi]
    rfl
  obtain ⟨M, hM⟩ : ∃ M, stepL i K i = M := ⟨_, rfl⟩
  have hiK : i < K.turns.length := by rw [hKF.turns, hKt, h.tasks]; exact hi
  have hMt : M.tasks = ts := by rw [← hM, (step_tasks i K i).1, hKt, h.tasks]
  have hMa : ∀ k, M.taskAt k = L.taskAt k := fun k => by unfold LocV.taskAt; rw [hMt, h.tasks]
  have hMu : ∀ k, M.turnAt k = if i = k then ⟨i, []⟩ else K.turnAt k := fun k => by rw [← hM, hstep]; exact set_turn (L := K) hiK
  have hMj : M.jobs = putL K.jobs (newJob K i i) := by rw [← hM, hstep]
  have hno2 : ∀ k, i < k → k < ts.length → isB (M.taskAt k) (M.turnAt k) i = false := fun k h2 hk => by
    have := hno k hk (by omega)
    rw [hMa k, hMu k, if_neg (by omega), ← hKa k]
    exact this
  have h2 : ∀ k, i + 1 ≤ k → k ≤ ts.length → stepsL i K k = M := by
    intro k
    induction k with
    | zero => intro h; omega
    | succ k ih =>
      intro hk hk2
      show stepL i (stepsL i K k) k = M
      rcases Nat.lt_or_ge i k with h3 | h3
      · rw [ih (by omega) (by omega)]
        unfold stepL
        rw [hno2 k h3 (by omega)]
        rfl
      · obtain rfl : k = i := by omega
        rw [h1 k (Nat.le_refl _)]
        exact hM
  have hfin2 : beginL K i = M := by rw [hbeg, hKt, h.tasks]; exact h2 ts.length (by omega) (Nat.le_refl _)
  rw [hfin2] at hfin ⊢
  refine ⟨hfin, hMt, fun k hk hk2 => ?_, fun k hk => ?_, fun j hj => ?_, fun k hk => ?_, ?_, by rw [← hM, (step_tasks i K i).2.2, hKl]; exact h.level⟩
  · rw [hMu k, if_neg (by omega), hKu k, if_neg (by omega)]
    exact h.fresh k (by omega) hk2
  · rw [hMu k]
    by_cases e : i = k
    · rw [if_pos e]
    · rw [if_neg e, hKu k, if_neg e]
      exact h.past k (by omega)
  · rw [hMj] at hj
    rw [hMa]
    rcases J.putL_mem.1 hj with rfl | hj2
    · rw [hnj]
      refine ⟨by show (i : Int) < ((i + 1 : Nat) : Int); omega, rfl, rfl, by show 90 ≤ (i : Int) + 90; omega, ?_⟩
      show 8 * (c : Int) + i = (L.taskAt ((i : Int)).toNat).prio
      rw [Int.toNat_natCast, hti]
      rfl
    · have := h.jobs j (by rw [← hKj]; exact hj2)
      exact ⟨by omega, this.2⟩
  · rw [hMj]
    by_cases e : k = i
    · subst e
      exact ⟨_, J.putL_mem.2 (.inl rfl), by rw [hnj]⟩
    · obtain ⟨j, hj, hjk⟩ := h.has k (by omega)
      exact ⟨j, J.putL_mem.2 (.inr (by rw [hKj]; exact hj)), hjk⟩
  · rw [hMj]
    have := put_len hput.1
    rw [hput.2, hKj, h.len] at this
    rw [hKj]
    exact this
/-- The least Prio stands first. -/
theorem oi_head {ts : List TaskV} {d : Int} {L : LocV} {i m : Nat} (h : OI ts d L i m) {k : Nat} (hk : k < i) : (jobAt L.jobs 0).prio ≤ (L.taskAt k).prio := by
  obtain ⟨j, hj, hjk⟩ := h.has k hk
  have h1 := head_least h.fine.row hj
  have h2 := (h.jobs j hj).2.2.2.2
  rw [hjk, Int.toNat_natCast] at h2
  omega
/-! The runs. -/
def leftN (js : List JobV) : Int := (js.map fun j => j.dem - j.used).sum
structure OR (ts : List TaskV) (L : LocV) (m : Nat) (last : Int) : Prop where
  fine : Fine L m
  tasks : L.tasks = ts
  level : L.level = 1
  jobs : ∀ j, j ∈ L.jobs → j.dem ≤ 4 ∧ last ≤ j.prio
theorem left_nonneg {js : List JobV} (h : rowMay js = true) : (js.length : Int) ≤ leftN js := by
  have hm := (J.rowMay_iff.1 h).2.1
  clear h
  induction js with
  | nil => decide
  | cons x xs ih =>
    simp only [List.all_cons, Bool.and_eq_true] at hm
    have h1 := J.job_parts hm.1
    have h2 := ih hm.2
    unfold leftN at *
    rw [List.map_cons, List.sum_cons, List.length_cons]
    omega
theorem or_run {ts : List TaskV} {L : LocV} {m : Nat} {last : Int} (hT : OrT ts) (h : OR ts L m last) (hne : L.jobs ≠ []) : OR ts (runL L) m (jobAt L.jobs 0).prio ∧ leftN (runL L).jobs = leftN L.jobs - 1 ∧ last ≤ (jobAt L.jobs 0).prio ∧ 0 ≤ (jobAt L.jobs 0).prio ∧ (jobAt L.jobs 0).prio ≤ 255 := by
  have hf := run_fine h.fine
  have hh := head_mem hne
  have hc := cons_head hne
  have hjm := J.job_parts (job_of h.fine hh)
  have hq := h.jobs _ hh
  have htl := h.fine.of _ hh
  obtain ⟨i, hi⟩ : ∃ i : Nat, (headJ L).task = (i : Int) := ⟨(headJ L).task.toNat, by omega⟩
  have hil : i < ts.length := by rw [← h.tasks]; omega
  have hti : ∃ c : Nat, headT L = tO (8 * (c : Int) + i) := by
    obtain ⟨c, -, e⟩ := hT.each i ts[i] (List.getElem?_eq_getElem hil)
    refine ⟨c, ?_⟩
    unfold headT LocV.taskAt
    rw [hi, Int.toNat_natCast, h.tasks, List.getElem?_eq_getElem hil]
    exact e
  obtain ⟨c, hT2⟩ := hti
  have hcm := run_done hne h.fine
  have hD : runD L = decide ((headJ L).used + 1 = (headJ L).dem) := by unfold runD; rw [if_neg hne]; unfold chD; rw [hcm]; rfl
  have hK : runK L = false := by
    unfold runK
    rw [if_neg hne]
    unfold chK J.spentB
    rw [hT2, h.level]
    rw [decide_eq_false (show ¬(oneMore (headJ L)).used = J.endOf (tO (8 * (c : Int) + i)) 1 by show ¬(headJ L).used + 1 = 9; omega), Bool.false_and, Bool.and_false]
  have hrest : ∀ j, j ∈ L.jobs → j.dem ≤ 4 ∧ (jobAt L.jobs 0).prio ≤ j.prio := fun j hj => ⟨(h.jobs j hj).1, head_least h.fine.row hj⟩
  have hsum : leftN L.jobs = ((headJ L).dem - (headJ L).used) + leftN (L.jobs.drop 1) := by
    conv => lhs; rw [hc]
    unfold leftN
    rw [List.map_cons, List.sum_cons]
  refine ⟨⟨hf, ?_, ?_, fun j hj => ?_⟩, ?_, hq.2, hjm.2.2.2.1, hjm.2.2.2.2.1⟩
  · unfold runL; rw [if_neg hne]; split <;> exact h.tasks
  · unfold runL; rw [if_neg hne]; split <;> exact h.level
  · unfold runL at hj
    rw [if_neg hne] at hj
    split at hj
    · exact hrest j (List.mem_of_mem_drop hj)
    · rcases List.mem_cons.1 hj with rfl | hj2
      · exact hrest (headJ L) hh
      · exact hrest j (List.mem_of_mem_drop hj2)
  · unfold runL
    rw [if_neg hne, hD, hK, Bool.or_false]
    by_cases e : (headJ L).used + 1 = (headJ L).dem
    · rw [if_pos (decide_eq_true e), hsum]
      show leftN (L.jobs.drop 1) = _
      omega
    · rw [if_neg (by simpa using e), hsum]
      show leftN (oneMore (headJ L) :: L.jobs.drop 1) = _
      unfold leftN
      rw [List.map_cons, List.sum_cons]
      show (headJ L).dem - ((headJ L).used + 1) + _ = _
      omega
theorem oi_or {ts : List TaskV} {d : Int} {L : LocV} {m : Nat} (h : OI ts d L ts.length m) (hd4 : d ≤ 4) : OR ts L m (-1) ∧ leftN L.jobs = ts.length * d := by
  refine ⟨⟨h.fine, h.tasks, h.level, fun j hj => ⟨by have := (h.jobs j hj).2.2.1; omega, by have := (J.job_parts (job_of h.fine hj)).2.2.2.1; omega⟩⟩, ?_⟩
  rw [← h.len]
  have hj := h.jobs
  clear h
  generalize L.jobs = js at *
  induction js with
  | nil => simp [leftN]
  | cons x xs ih =>
    have h1 := hj x (by simp)
    have h2 := ih (fun j hj2 => hj j (by simp [hj2]))
    unfold leftN at *
    rw [List.map_cons, List.sum_cons, h2, List.length_cons, h1.2.1, h1.2.2.1]
    rw [show ((xs.length + 1 : Nat) : Int) = xs.length + 1 by omega, Int.add_mul]
    omega
#print axioms oi_or
end Go.Proofs.YtlppfocoonnpjaaGreatDoor.L
