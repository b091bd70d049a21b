/- Jobs of a rank, and rows that are put together one by one, whichever job came first. -/
import Derived.Test.YtebiifcifcefoaaPmath
namespace Go.Proofs.Ytebiifcifcefoaa
open Go.RowKit

/-- A job of a rank. -/
def kJ (p r t : Int) : JobV := ⟨t, 0, p, r, r + 9, 5, 0⟩
/-- Small ranks. -/
def Small3 (x : JobV) : Prop := ∃ p r t : Nat, p ≤ 7 ∧ r ≤ 7 ∧ t ≤ 3 ∧ x = kJ p r t
theorem small_may {x : JobV} (h : Small3 x) : jobMay x = true := by
  obtain ⟨p, r, t, hp, hr, ht, rfl⟩ := h
  unfold jobMay kJ
  simp
  omega
theorem small_eq {x y : JobV} (hx : Small3 x) (hy : Small3 y) (h : rankB x y = true) : x = y := by
  obtain ⟨p, r, t, _, _, _, rfl⟩ := hx
  obtain ⟨p', r', t', _, _, _, rfl⟩ := hy
  unfold rankB kJ at h
  simp only [Bool.and_eq_true, decide_eq_true_eq] at h
  obtain ⟨h1, h2, h3⟩ := h
  rw [h1, h2, h3]
/-- A row of small ranks that may be. -/
structure Good (js : List JobV) : Prop where
  may : rowMay js = true
  small : ∀ x ∈ js, Small3 x
theorem good_nil : Good [] := ⟨by kernel_rfl, fun x hx => by simp at hx⟩
/-- Two rows that rise and hold the same jobs are the same. -/
theorem rise_eq : ∀ (xs ys : List JobV), xs.Pairwise Ahead → ys.Pairwise Ahead → (∀ x, x ∈ xs ↔ x ∈ ys) → xs = ys
  | [], [], _, _, _ => rfl
  | [], y :: ys, _, _, h => by have := (h y).2 (by simp); simp at this
  | x :: xs, [], _, _, h => by have := (h x).1 (by simp); simp at this
  | x :: xs, y :: ys, hx, hy, h => by
    rw [List.pairwise_cons] at hx hy
    have e : x = y := by
      have h1 := (h x).1 (by simp)
      have h2 := (h y).2 (by simp)
      rcases List.mem_cons.1 h1 with h3 | h3
      · exact h3
      · rcases List.mem_cons.1 h2 with h4 | h4
        · exact h4.symm
        · exact absurd (hx.1 y h4) (hy.1 x h3).not
    subst e
    rw [rise_eq xs ys hx.2 hy.2 fun z => ?_]
    have hz := h z
    simp only [List.mem_cons] at hz
    constructor
    · intro h1
      rcases hz.1 (.inr h1) with h2 | h2
      · subst h2; exact absurd (hx.1 z h1) (Ahead.irr z)
      · exact h2
    · intro h1
      rcases hz.2 (.inr h1) with h2 | h2
      · subst h2; exact absurd (hy.1 z h1) (Ahead.irr z)
      · exact h2
/-- What a row is behind a job that is put, if it could be. -/
def nextL (js : List JobV) (x : JobV) : List JobV := if putE js x = 0 then putV js x else js
/-- One step: a row of fewer than MaxJobs, of the jobs that were put. -/
theorem put_step {js : List JobV} {x : JobV} (h : Good js) (hx : Small3 x) (hl : js.length < 16) :
    Good (nextL js x) ∧ (nextL js x).length ≤ js.length + 1 ∧ (∀ y, y ∈ nextL js x ↔ y ∈ js ∨ y = x) ∧ (putE js x = 0 → nextL js x = putV js x) ∧ (¬ putE js x = 0 → nextL js x = js) := by
  have h3 : (putE js x = 0 → nextL js x = putV js x) ∧ (¬ putE js x = 0 → nextL js x = js) := by
    unfold nextL
    exact ⟨fun e => if_pos e, fun e => if_neg e⟩
  refine ⟨?_, ?_, ?_, h3⟩
  all_goals
    cases hh : hasB js x with
    | true =>
      have hE : ¬ putE js x = 0 := by simp [putE, okB, hh]
      rw [h3.2 hE]
      first
        | exact h
        | exact Nat.le_succ _
        | (intro y
           constructor
           · exact .inl
           · rintro (h1 | rfl)
             · exact h1
             · obtain ⟨z, hz, hz2⟩ := List.any_eq_true.1 hh
               rw [← small_eq (h.small z hz) hx hz2]
               exact hz)
    | false =>
      have hok : okB js x = true := ok_iff.2 ⟨h.may, small_may hx, hh⟩
      have hE : putE js x = 0 := by unfold putE; rw [if_pos hok, if_neg (by omega)]
      have hV : putV js x = putL js x := by unfold putV; rw [if_pos hok, if_neg (by omega)]
      rw [h3.1 hE, hV]
      first
        | exact ⟨putL_may hok (by omega), fun y hy => by rcases putL_mem.1 hy with rfl | h1; (exact hx); (exact h.small y h1)⟩
        | (rw [putL_len]; exact Nat.le_refl _)
        | (intro y; rw [putL_mem]; exact Or.comm)
/-- Rows put together, from the begin and from the end. -/
def upL (all : List JobV) : Nat → List JobV
  | 0 => []
  | i + 1 => nextL (upL all i) (jobAt all i)
def downL (all : List JobV) : Nat → List JobV
  | 0 => []
  | i + 1 => nextL (downL all i) (jobAt all (all.length - 1 - i))
theorem up_ok {all : List JobV} (hs : ∀ x ∈ all, Small3 x) (h16 : all.length ≤ 16) : ∀ i, i ≤ all.length → Good (upL all i) ∧ (upL all i).length ≤ i ∧ ∀ y, y ∈ upL all i ↔ ∃ k, k < i ∧ y = jobAt all k := by
  intro i
  induction i with
  | zero => intro _; exact ⟨good_nil, Nat.le_refl _, fun y => by simp [upL]⟩
  | succ i ih =>
    intro hi
    obtain ⟨h1, h2, h3⟩ := ih (by omega)
    obtain ⟨g1, g2, g3, -⟩ := put_step h1 (hs _ (List.mem_of_getElem? (jobAt_mem (js := all) (i := i) (by omega)))) (by omega)
    refine ⟨g1, Nat.le_trans g2 (by omega), fun y => ?_⟩
    show y ∈ nextL (upL all i) (jobAt all i) ↔ _
    rw [g3, h3]
    constructor
    · rintro (⟨k, hk, e⟩ | e)
      · exact ⟨k, by omega, e⟩
      · exact ⟨i, by omega, e⟩
    · rintro ⟨k, hk, e⟩
      rcases (by omega : k < i ∨ k = i) with h | rfl
      · exact .inl ⟨k, h, e⟩
      · exact .inr e
theorem down_ok {all : List JobV} (hs : ∀ x ∈ all, Small3 x) (h16 : all.length ≤ 16) : ∀ i, i ≤ all.length → Good (downL all i) ∧ (downL all i).length ≤ i ∧ ∀ y, y ∈ downL all i ↔ ∃ k, k < i ∧ y = jobAt all (all.length - 1 - k) := by
  intro i
  induction i with
  | zero => intro _; exact ⟨good_nil, Nat.le_refl _, fun y => by simp [downL]⟩
  | succ i ih =>
    intro hi
    obtain ⟨h1, h2, h3⟩ := ih (by omega)
    obtain ⟨g1, g2, g3, -⟩ := put_step h1 (hs _ (List.mem_of_getElem? (jobAt_mem (js := all) (i := all.length - 1 - i) (by omega)))) (by omega)
    refine ⟨g1, Nat.le_trans g2 (by omega), fun y => ?_⟩
    show y ∈ nextL (downL all i) (jobAt all (all.length - 1 - i)) ↔ _
    rw [g3, h3]
    constructor
    · rintro (⟨k, hk, e⟩ | e)
      · exact ⟨k, by omega, e⟩
      · exact ⟨i, by omega, e⟩
    · rintro ⟨k, hk, e⟩
      rcases (by omega : k < i ∨ k = i) with h | rfl
      · exact .inl ⟨k, h, e⟩
      · exact .inr e
theorem up_down {all : List JobV} (hs : ∀ x ∈ all, Small3 x) (h16 : all.length ≤ 16) : upL all all.length = downL all all.length := by
  obtain ⟨a1, -, a3⟩ := up_ok hs h16 _ (Nat.le_refl _)
  obtain ⟨b1, -, b3⟩ := down_ok hs h16 _ (Nat.le_refl _)
  refine rise_eq _ _ (rises_pair.1 (rowMay_iff.1 a1.may).2.2) (rises_pair.1 (rowMay_iff.1 b1.may).2.2) fun y => ?_
  rw [a3, b3]
  constructor
  · rintro ⟨k, hk, e⟩
    exact ⟨all.length - 1 - k, by omega, by rw [e, show all.length - 1 - (all.length - 1 - k) = k by omega]⟩
  · rintro ⟨k, hk, e⟩
    exact ⟨all.length - 1 - k, by omega, e⟩
/-- The first one is of the least Prio. -/
theorem first_least {js : List JobV} (h : rowMay js = true) {i : Nat} (hi : i < js.length) : (firstV js).prio ≤ (jobAt js i).prio := by
  have hb : firstB js = true := by unfold firstB; rw [h, decide_eq_true (by omega)]; rfl
  unfold firstV
  rw [if_pos hb]
  rcases Nat.eq_zero_or_pos i with rfl | h0
  · exact Int.le_refl _
  · exact (rises_at (rowMay_iff.1 h).2.2 i h0 hi).prio
theorem up_first {all : List JobV} (hs : ∀ x ∈ all, Small3 x) (h16 : all.length ≤ 16) : firstB (upL all all.length) = decide (0 < all.length) := by
  obtain ⟨a1, a2, a3⟩ := up_ok hs h16 _ (Nat.le_refl _)
  unfold firstB
  rw [a1.may, Bool.true_and]
  refine decide_eq_decide.2 ⟨fun h => by omega, fun h => ?_⟩
  have := (a3 (jobAt all 0)).2 ⟨0, h, rfl⟩
  exact List.length_pos_of_mem this
#print axioms up_first
end Go.Proofs.Ytebiifcifcefoaa
