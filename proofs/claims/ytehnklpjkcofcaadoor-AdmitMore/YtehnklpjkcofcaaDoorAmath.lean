/- Who may run: the least length that is enough, who is late, who has nothing: on lists alone. -/
import Derived.Test.YtehnklpjkcofcaaDoorSmath2
import Derived.Test.YtehnklpjkcofcaaDoorBound
import Derived.Test.YtehnklpjkcofcaaDoorRefPart
namespace Go.Proofs.YtehnklpjkcofcaaDoor
open Go.RowKit R6

/-! The least number from 1 to n at which something holds; 0: there is none. -/
def firstTo (f : Nat → Bool) : Nat → Nat
  | 0 => 0
  | n + 1 => if firstTo f n = 0 then (if f (n + 1) = true then n + 1 else 0) else firstTo f n
theorem firstTo_spec (f : Nat → Bool) (n : Nat) : (firstTo f n = 0 ∧ ∀ k, 1 ≤ k → k ≤ n → f k = false) ∨ (1 ≤ firstTo f n ∧ firstTo f n ≤ n ∧ f (firstTo f n) = true ∧ ∀ k, 1 ≤ k → k < firstTo f n → f k = false) := by
  induction n with
  | zero => exact .inl ⟨rfl, fun k h1 h2 => by omega⟩
  | succ n ih =>
    unfold firstTo
    rcases ih with ⟨h0, h⟩ | ⟨h1, h2, h3, h4⟩
    · rw [if_pos h0]
      by_cases hf : f (n + 1) = true
      · rw [if_pos hf]
        exact .inr ⟨by omega, by omega, hf, fun k k1 k2 => h k k1 (by omega)⟩
      · rw [if_neg hf]
        refine .inl ⟨rfl, fun k k1 k2 => ?_⟩
        rcases (by omega : k ≤ n ∨ k = n + 1) with e | rfl
        · exact h k k1 e
        · exact Bool.eq_false_iff.2 hf
    · rw [if_neg (by omega)]
      exact .inr ⟨h1, by omega, h3, h4⟩
theorem firstTo_yes {f : Nat → Bool} {n k : Nat} (k1 : 1 ≤ k) (k2 : k ≤ n) (hf : f k = true) (hb : ∀ j, 1 ≤ j → j < k → f j = false) : firstTo f n = k := by
  rcases firstTo_spec f n with ⟨_, h⟩ | ⟨h1, h2, h3, h4⟩
  · have := h k k1 k2; rw [hf] at this; cases this
  · rcases Nat.lt_trichotomy (firstTo f n) k with h | h | h
    · have := hb _ h1 h; rw [h3] at this; cases this
    · exact h
    · have := h4 _ k1 h; rw [hf] at this; cases this
theorem firstTo_no {f : Nat → Bool} {n : Nat} (hb : ∀ j, 1 ≤ j → j ≤ n → f j = false) : firstTo f n = 0 := by
  rcases firstTo_spec f n with ⟨h, _⟩ | ⟨h1, h2, h3, h4⟩
  · exact h
  · have := hb _ h1 h2; rw [h3] at this; cases this
theorem firstTo_congr {f g : Nat → Bool} {n : Nat} (h : ∀ k, 1 ≤ k → k ≤ n → f k = g k) : firstTo f n = firstTo g n := by
  rcases firstTo_spec g n with ⟨h0, h1⟩ | ⟨h1, h2, h3, h4⟩
  · rw [h0]; exact firstTo_no fun j j1 j2 => by rw [h j j1 j2]; exact h1 j j1 j2
  · exact firstTo_yes h1 h2 (by rw [h _ h1 h2]; exact h3) fun j j1 j2 => by rw [h j j1 (by omega)]; exact h4 j j1 j2
/-- Where more is enough, it comes no later. -/
theorem firstTo_mono {f g : Nat → Bool} {n : Nat} (h : ∀ k, 1 ≤ k → k ≤ n → f k = true → g k = true) (hf : firstTo f n ≠ 0) : 1 ≤ firstTo g n ∧ firstTo g n ≤ firstTo f n := by
  rcases firstTo_spec f n with ⟨h0, _⟩ | ⟨h1, h2, h3, h4⟩
  · exact absurd h0 hf
  · rcases firstTo_spec g n with ⟨_, g1⟩ | ⟨g1, g2, g3, g4⟩
    · have := g1 _ h1 h2; rw [h _ h1 h2 h3] at this; cases this
    · refine ⟨g1, ?_⟩
      rcases Nat.lt_or_ge (firstTo f n) (firstTo g n) with h' | h'
      · have := g4 _ h1 h'; rw [h _ h1 h2 h3] at this; cases this
      · exact h'

/-! The answers. -/
def tasksOf (C : ConfV) (p : Nat) : List TaskV := (partAt C.parts p).tasks
/-- Does the part have in so many ticks what may be asked for? -/
def enoughB (C : ConfV) (p i k : Nat) : Bool := decide (boundV (tasksOf C p) i k ≤ leV C p k)
def reOK (C : ConfV) (p i : Int) : Bool := decide (checkN C = 0) && (decide (0 ≤ p) && (decide (p < C.parts.length) && (decide ((partAt C.parts p.toNat).level = 1) && (decide (0 ≤ i) && decide (i < (tasksOf C p.toNat).length)))))
def reN (C : ConfV) (p i : Nat) : Nat := firstTo (enoughB C p i) (taskAt (tasksOf C p) i).deadline.toNat
def reV (C : ConfV) (p i : Int) : Int := if reOK C p i = true then (reN C p.toNat i.toNat : Int) else 0
def reE (C : ConfV) (p i : Int) : Int := if reOK C p i = true then (if reN C p.toNat i.toNat = 0 then 901 else 0) else 900
def lateB (C : ConfV) : Bool := !allB C.parts.length (fun p => allB (tasksOf C p).length (fun i => !decide (reE C p i = 901)))
def bareB (C : ConfV) : Bool := !allB C.parts.length (fun p => !(decide ((partAt C.parts p).level = 0) && decide (shV C p = 0)))
def adN (C : ConfV) : Int := if checkN C = 0 then (if lateB C = true then 901 else if bareB C = true then 902 else 0) else checkN C

/-! What may be. -/
theorem tasks_may {C : ConfV} (h : checkN C = 0) {p : Nat} (hp : p < C.parts.length) : (tasksOf C p).length ≤ 6 ∧ rtasksB (tasksOf C p) = true := by
  unfold checkN at h
  by_cases h1 : frameB C.frame C.quiet = false
  · rw [if_pos h1] at h; omega
  rw [if_neg h1] at h
  by_cases h2 : partsB C.parts = false
  · rw [if_pos h2] at h; omega
  rw [if_neg h2] at h
  by_cases h3 : allB C.parts.length (fun i => tasksB (partAt C.parts i)) = false
  · rw [if_pos h3] at h; omega
  rw [Bool.not_eq_false] at h3
  have := allB_of h3 p hp
  rw [tasksB_eq] at this
  simp only [Bool.and_eq_true, decide_eq_true_eq] at this
  exact this.2
theorem level_may {C : ConfV} (h : checkN C = 0) {p : Nat} (hp : p < C.parts.length) : (partAt C.parts p).level = 0 ∨ (partAt C.parts p).level = 1 := by
  unfold checkN at h
  by_cases h1 : frameB C.frame C.quiet = false
  · rw [if_pos h1] at h; omega
  rw [if_neg h1] at h
  by_cases h2 : partsB C.parts = false
  · rw [if_pos h2] at h; omega
  rw [Bool.not_eq_false] at h2
  simp only [partsB, Bool.and_eq_true, decide_eq_true_eq] at h2
  have := allB_of h2.2.2 p hp
  simpa [levelB] using this
theorem may_all {t : TaskV} (h : taskMay t = true) : (t.kind = 0 ∨ t.kind = 1) ∧ 1 ≤ t.period ∧ t.period ≤ 1024 ∧ 1 ≤ t.deadline ∧ t.deadline ≤ t.period ∧ 1 ≤ t.clow ∧ t.clow ≤ t.chigh ∧ t.chigh ≤ t.deadline ∧ 0 ≤ t.prio ∧ t.prio ≤ 255 := by
  unfold taskMay at h
  simp only [Bool.and_eq_true, decide_eq_true_eq] at h
  omega
theorem lit_fits (z : Int) (h0 : 0 ≤ z) (h1 : z ≤ 1024) : (Lit.int .i64 z).wf = true := by
  have e1 : IntKind.i64.min = -9223372036854775808 := rfl
  have e2 : IntKind.i64.max = 9223372036854775807 := rfl
  simp [Lit.wf]
  omega
theorem fits_of {ts : List TaskV} (h : rtasksB ts = true) : Fits ts := by
  intro t ht u hu
  obtain ⟨i, hi, e⟩ := List.mem_iff_getElem.1 ht
  have hm := may_all (may_of h hi)
  have et : taskAt ts i = t := by unfold taskAt; rw [List.getElem?_eq_getElem hi, e]; rfl
  rw [et] at hm
  simp only [taskC, List.mem_cons, List.not_mem_nil, or_false] at hu
  rcases hu with rfl | rfl | rfl | rfl | rfl | rfl <;> exact ⟨_, rfl, lit_fits _ (by omega) (by omega)⟩

/-! In a longer stretch no less is asked for, and of a tick more at most one more is had. -/
theorem jobs_mono {p k m : Int} (hp : 1 ≤ p) (h : k ≤ m) : jobsN p k ≤ jobsN p m := Int.ediv_le_ediv (by omega) (by omega)
theorem asked_mono {ts : List TaskV} (hm : rtasksB ts = true) (P : Int) {k m : Int} (h : k ≤ m) : ∀ j : Nat, j ≤ ts.length → askedN (ts.take j) P k ≤ askedN (ts.take j) P m := by
  intro j
  induction j with
  | zero => intro _; exact Int.le_refl _
  | succ j ih =>
    intro hj
    have h1 := ih (by omega)
    rw [asked_take (by omega), asked_take (by omega)]
    have hp := may_parts (may_of hm (i := j) (by omega))
    have h2 : (taskAt ts j).chigh * jobsN (taskAt ts j).period k ≤ (taskAt ts j).chigh * jobsN (taskAt ts j).period m := Int.mul_le_mul_of_nonneg_left (jobs_mono hp.1 h) (by omega)
    unfold addAhead
    split <;> omega
theorem bound_in {ts : List TaskV} (hm : rtasksB ts = true) {i k : Nat} (hi : i < ts.length) (hk : k ≤ 4096) : boundV ts i k = (taskAt ts i).chigh + askedN ts (taskAt ts i).prio k ∧ boundE ts i k = 0 := by
  have hok : okB ts i k = true := okB_true.2 ⟨hm, by omega, by omega, by omega, by omega⟩
  have B := bound_yes hok
  rw [Int.toNat_natCast] at B
  exact B
theorem bound_mono {ts : List TaskV} (hm : rtasksB ts = true) {i k m : Nat} (hi : i < ts.length) (h : k ≤ m) (hk : m ≤ 4096) : boundV ts i k ≤ boundV ts i m := by
  rw [(bound_in hm hi (show k ≤ 4096 by omega)).1, (bound_in hm hi hk).1]
  have := asked_mono hm (taskAt ts i).prio (k := k) (m := m) (by omega) ts.length (Nat.le_refl _)
  rw [List.take_length] at this
  omega
theorem bound_bd {ts : List TaskV} (hm : rtasksB ts = true) (hl : ts.length ≤ 6) {i k : Nat} (hi : i < ts.length) (hk : k ≤ 4096) : 1 ≤ boundV ts i k ∧ boundV ts i k ≤ 40000 := by
  rw [(bound_in hm hi hk).1]
  have := asked_le hm (taskAt ts i).prio (len := (k : Int)) (by omega) (by omega) ts.length (Nat.le_refl _)
  rw [List.take_length] at this
  have hp := may_parts (may_of hm hi)
  omega
theorem least_in {C : ConfV} (hc : checkN C = 0) {p : Nat} (hp : p < C.parts.length) {k : Nat} (hk : k ≤ 4096) : leV C p k = leastS (own1 C p C.frame.toNat) C.frame.toNat k ∧ leE C p k = 0 := by
  have hF := fine_of hc
  have h := le_in hc p C.frame.toNat k hp (by have := hF.f0; omega) hk
  rw [leastN_eq (by have := hF.f0; omega) (own1_period _ _ _) (own1_bd _ _ _)] at h
  exact h
theorem least_bd {C : ConfV} (hc : checkN C = 0) {p : Nat} (hp : p < C.parts.length) {k : Nat} (hk : k ≤ 4096) : 0 ≤ leV C p k ∧ leV C p k ≤ k := by
  rw [(least_in hc hp hk).1]
  exact leastS_bd (own1_bd _ _ _) k
theorem least_more {C : ConfV} (hc : checkN C = 0) {p : Nat} (hp : p < C.parts.length) {k : Nat} (m : Nat) (hk : k + m ≤ 4096) : leV C p (k + m : Nat) ≤ leV C p k + m := by
  induction m with
  | zero => simp
  | succ m ih =>
    have h1 := ih (by omega)
    have h2 := (leastS_step (o := own1 C p C.frame.toNat) (F := C.frame.toNat) (own1_bd _ _ _) (k + m)).2
    rw [← (least_in hc hp (show k + m ≤ 4096 by omega)).1, ← (least_in hc hp (show k + m + 1 ≤ 4096 by omega)).1] at h2
    rw [show k + (m + 1) = k + m + 1 by omega]
    omega
/-- What is short by so much is not enough so much later. -/
theorem short_on {C : ConfV} (hc : checkN C = 0) {p i : Nat} (hp : p < C.parts.length) (hi : i < (tasksOf C p).length) {k j : Nat} (h1 : k ≤ j) (hj : j ≤ 4096) (hs : (j : Int) < k + (boundV (tasksOf C p) i k - leV C p k)) : enoughB C p i j = false := by
  obtain ⟨m, rfl⟩ : ∃ m, j = k + m := ⟨j - k, by omega⟩
  have a1 := least_more hc hp m hj
  have a2 := bound_mono (tasks_may hc hp).2 hi h1 hj
  unfold enoughB
  rw [decide_eq_false]
  omega
theorem re_yes {C : ConfV} {p i : Int} (h : reOK C p i = true) : checkN C = 0 ∧ ∃ P I : Nat, p = P ∧ i = I ∧ P < C.parts.length ∧ (partAt C.parts P).level = 1 ∧ I < (tasksOf C P).length := by
  unfold reOK at h
  simp only [Bool.and_eq_true, decide_eq_true_eq] at h
  obtain ⟨h0, h1, h2, h3, h4, h5⟩ := h
  exact ⟨h0, p.toNat, i.toNat, by omega, by omega, by omega, h3, by omega⟩
theorem re_ok {C : ConfV} (h0 : checkN C = 0) {P I : Nat} (h1 : P < C.parts.length) (h2 : (partAt C.parts P).level = 1) (h3 : I < (tasksOf C P).length) : reOK C P I = true := by
  unfold reOK
  simp only [Bool.and_eq_true, decide_eq_true_eq, Int.toNat_natCast]
  exact ⟨h0, by omega, by omega, h2, by omega, by omega⟩
theorem re_in {C : ConfV} (h0 : checkN C = 0) {P I : Nat} (h1 : P < C.parts.length) (h2 : (partAt C.parts P).level = 1) (h3 : I < (tasksOf C P).length) : reV C P I = reN C P I ∧ reE C P I = if reN C P I = 0 then 901 else 0 := by
  unfold reV reE
  rw [if_pos (re_ok h0 h1 h2 h3), if_pos (re_ok h0 h1 h2 h3), Int.toNat_natCast, Int.toNat_natCast]
  exact ⟨rfl, rfl⟩
theorem re_no {C : ConfV} {p i : Int} (h : reOK C p i = false) : reV C p i = 0 ∧ reE C p i = 900 := by
  unfold reV reE
  rw [h]
  exact ⟨rfl, rfl⟩
#print axioms short_on
#print axioms re_no
end Go.Proofs.YtehnklpjkcofcaaDoor
