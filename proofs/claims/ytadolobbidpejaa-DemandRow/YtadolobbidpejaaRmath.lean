/- Tasks in another row, and those of a lower Prio alone: on lists; nothing of the program's functions. -/
import Derived.Test.YtadolobbidpejaaBound
namespace Go.Proofs.Ytadolobbidpejaa
open Go.RowKit

theorem taskAt_get {ts : List TaskV} {i : Nat} (h : i < ts.length) : taskAt ts i = ts[i] := by
  unfold taskAt; rw [List.getElem?_eq_getElem h]; rfl
theorem rtasks_iff (ts : List TaskV) : rtasksB ts = true ↔ (∀ t ∈ ts, taskMay t = true) ∧ ts.Pairwise (fun a b => a.prio ≠ b.prio) := by
  constructor
  · intro h
    refine ⟨fun t ht => ?_, ?_⟩
    · obtain ⟨i, hi, rfl⟩ := List.getElem_of_mem ht
      rw [← taskAt_get hi]
      exact may_of h hi
    · rw [List.pairwise_iff_getElem]
      intro i j hi hj hij he
      have h1 := allB_of h j hj
      unfold rtaskB at h1
      simp only [Bool.and_eq_true, Bool.not_eq_true'] at h1
      rw [anyPrio_yes (i := i) (by omega) hij (by rw [taskAt_get hi, taskAt_get hj]; exact he)] at h1
      cases h1.2
  · rintro ⟨h1, h2⟩
    refine allB_true fun i hi => ?_
    unfold rtaskB
    rw [taskAt_get hi, h1 _ (List.getElem_mem hi), Bool.true_and, anyPrio_no (by omega)]
    · rfl
    · intro k hk
      rw [taskAt_get (by omega)]
      exact (List.pairwise_iff_getElem.1 h2) k i (by omega) hi hk
theorem rtasks_reverse {ts : List TaskV} (h : rtasksB ts = true) : rtasksB ts.reverse = true := by
  obtain ⟨h1, h2⟩ := (rtasks_iff ts).1 h
  refine (rtasks_iff _).2 ⟨fun t ht => h1 t (List.mem_reverse.1 ht), ?_⟩
  rw [List.pairwise_reverse]
  exact h2.imp fun h => h.symm
theorem rtasks_filter {ts : List TaskV} (h : rtasksB ts = true) (f : TaskV → Bool) : rtasksB (ts.filter f) = true := by
  obtain ⟨h1, h2⟩ := (rtasks_iff ts).1 h
  exact (rtasks_iff _).2 ⟨fun t ht => h1 t (List.mem_filter.1 ht).1, h2.filter f⟩

def term (P len : Int) (t : TaskV) : Int := if t.prio < P then t.chigh * jobsN t.period len else 0
theorem asked_sum (ts : List TaskV) (P len : Int) : askedN ts P len = (ts.map (term P len)).sum := by
  have h : ∀ s : Int, ts.foldl (addAhead P len) s = s + (ts.map (term P len)).sum := by
    induction ts with
    | nil => intro s; simp
    | cons t r ih =>
      intro s
      rw [List.foldl_cons, ih, List.map_cons, List.sum_cons]
      unfold addAhead term
      split <;> omega
  unfold askedN
  rw [h, Int.zero_add]
theorem sum_append (a b : List Int) : (a ++ b).sum = a.sum + b.sum := by
  induction a with
  | nil => simp
  | cons x r ih => rw [List.cons_append, List.sum_cons, ih, List.sum_cons]; omega
theorem sum_reverse (a : List Int) : a.reverse.sum = a.sum := by
  induction a with
  | nil => rfl
  | cons x r ih => rw [List.reverse_cons, sum_append, ih, List.sum_cons]; simp; omega
theorem asked_reverse (ts : List TaskV) (P len : Int) : askedN ts.reverse P len = askedN ts P len := by
  rw [asked_sum, asked_sum, List.map_reverse, sum_reverse]
def lowP (P : Int) (t : TaskV) : Bool := decide (t.prio ≤ P)
theorem asked_filter (ts : List TaskV) (P len : Int) : askedN (ts.filter (lowP P)) P len = askedN ts P len := by
  rw [asked_sum, asked_sum]
  induction ts with
  | nil => rfl
  | cons t r ih =>
    by_cases h : t.prio ≤ P
    · rw [List.filter_cons_of_pos (by unfold lowP; exact decide_eq_true h), List.map_cons, List.map_cons, List.sum_cons, List.sum_cons, ih]
    · rw [List.filter_cons_of_neg (by unfold lowP; simpa using h), ih, List.map_cons, List.sum_cons]
      have : term P len t = 0 := by unfold term; rw [if_neg (by omega)]
      omega
theorem taskAt_reverse {ts : List TaskV} {n : Nat} (hn : n < ts.length) : taskAt ts.reverse (ts.length - 1 - n) = taskAt ts n := by
  unfold taskAt
  rw [List.getElem?_reverse (by omega), show ts.length - 1 - (ts.length - 1 - n) = n by omega]
theorem filter_take_succ {ts : List TaskV} {j : Nat} (hj : j < ts.length) (f : TaskV → Bool) : (ts.take (j + 1)).filter f = (ts.take j).filter f ++ (if f (taskAt ts j) = true then [taskAt ts j] else []) := by
  rw [List.take_add_one, taskAt_mem' hj, List.filter_append]
  congr 1
  by_cases h : f (taskAt ts j) = true
  · rw [if_pos h]; simp [h]
  · rw [if_neg h]; simp [h]
theorem taskAt_filter {ts : List TaskV} {n : Nat} (hn : n < ts.length) {f : TaskV → Bool} (h : f (taskAt ts n) = true) : taskAt (ts.filter f) ((ts.take n).filter f).length = taskAt ts n ∧ ((ts.take n).filter f).length < (ts.filter f).length := by
  have e : ts.filter f = (ts.take n).filter f ++ taskAt ts n :: (ts.drop (n + 1)).filter f := by
    conv => lhs; rw [← List.take_append_drop n ts]
    rw [List.filter_append, List.drop_eq_getElem_cons hn, ← taskAt_get hn, List.filter_cons_of_pos h]
  constructor
  · unfold taskAt
    rw [e, List.getElem?_append_right (Nat.le_refl _), Nat.sub_self]
    rfl
  · rw [e]; simp
/-- What DemandRow says, of the answers. -/
theorem back_ans {ts : List TaskV} {n : Nat} {len : Int} (hok : okB ts n len = true) : boundV ts.reverse ((ts.length - 1 - n : Nat) : Int) len = boundV ts n len ∧ boundE ts.reverse ((ts.length - 1 - n : Nat) : Int) len = 0 := by
  obtain ⟨hm, h1, h2, h3, h4⟩ := okB_true.1 hok
  have hn : n < ts.length := by omega
  have hok2 : okB ts.reverse ((ts.length - 1 - n : Nat) : Int) len = true := okB_true.2 ⟨rtasks_reverse hm, by omega, by rw [List.length_reverse]; omega, h3, h4⟩
  have B := bound_yes hok
  have B2 := bound_yes hok2
  rw [Int.toNat_natCast] at B B2
  rw [B2.1, B2.2, B.1, taskAt_reverse hn, asked_reverse]
  exact ⟨rfl, rfl⟩
theorem ahead_ans {ts : List TaskV} {n : Nat} {len : Int} (hok : okB ts n len = true) : boundV (ts.filter (lowP (taskAt ts n).prio)) (((ts.take n).filter (lowP (taskAt ts n).prio)).length : Int) len = boundV ts n len ∧ boundE (ts.filter (lowP (taskAt ts n).prio)) (((ts.take n).filter (lowP (taskAt ts n).prio)).length : Int) len = 0 := by
  obtain ⟨hm, h1, h2, h3, h4⟩ := okB_true.1 hok
  have hn : n < ts.length := by omega
  obtain ⟨e1, e2⟩ := taskAt_filter hn (f := lowP (taskAt ts n).prio) (by unfold lowP; simp)
  have hok2 : okB (ts.filter (lowP (taskAt ts n).prio)) (((ts.take n).filter (lowP (taskAt ts n).prio)).length : Int) len = true := okB_true.2 ⟨rtasks_filter hm _, by omega, by omega, h3, h4⟩
  have B := bound_yes hok
  have B2 := bound_yes hok2
  rw [Int.toNat_natCast] at B B2
  rw [B2.1, B2.2, B.1, e1, asked_filter]
  exact ⟨rfl, rfl⟩
#print axioms ahead_ans
end Go.Proofs.Ytadolobbidpejaa
