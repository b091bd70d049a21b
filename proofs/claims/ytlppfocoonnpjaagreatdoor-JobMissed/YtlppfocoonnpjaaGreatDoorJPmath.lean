/- What rows of jobs are that rise, as plain lists: parts of them, those that are left, a job that is put. -/
import Derived.Test.YtlppfocoonnpjaaGreatDoorJMiss
namespace Go.Proofs.YtlppfocoonnpjaaGreatDoor.J
open Go.RowKit

theorem jobAt_get {js : List JobV} {i : Nat} (h : i < js.length) : js[i] = jobAt js i := by
  unfold jobAt; rw [List.getElem?_eq_getElem h]; rfl
theorem rises_pair {js : List JobV} : risesB js = true ↔ js.Pairwise Ahead := by
  rw [List.pairwise_iff_getElem]
  constructor
  · intro h i k hi hk hik
    rw [jobAt_get hi, jobAt_get hk]
    exact rises_at h k hik hk
  · intro h
    exact rises_of fun i k hik hk => by
      have := h i k (by omega) hk hik
      rwa [jobAt_get (by omega), jobAt_get hk] at this
theorem may_part {js ks : List JobV} (h : rowMay js = true) (hs : ks.Sublist js) : rowMay ks = true := by
  obtain ⟨h1, h2, h3⟩ := rowMay_iff.1 h
  refine rowMay_iff.2 ⟨Nat.le_trans hs.length_le h1, ?_, rises_pair.2 ((rises_pair.1 h3).sublist hs)⟩
  rw [List.all_eq_true] at h2 ⊢
  exact fun x hx => h2 x (hs.subset hx)
theorem left_may {js : List JobV} {now : Int} (h : rowMay js = true) : rowMay (leftV js now) = true ∧ rowMay (lateV js now) = true := by
  unfold leftV lateV
  rw [if_pos h, if_pos h]
  exact ⟨may_part h List.filter_sublist, may_part h List.filter_sublist⟩
theorem left_sum {js : List JobV} {now : Int} (h : rowMay js = true) : (leftV js now).length + (lateV js now).length = js.length := by
  unfold leftV lateV
  rw [if_pos h, if_pos h]
  clear h
  induction js with
  | nil => rfl
  | cons x xs ih =>
    by_cases hd : x.dead ≤ now
    · simp [hd] at ih ⊢; omega
    · simp [hd] at ih ⊢; omega
theorem left_no {js : List JobV} {now : Int} (h : rowMay js = false) : leftV js now = [] ∧ lateV js now = [] := by
  unfold leftV lateV
  rw [if_neg (by simp [h]), if_neg (by simp [h])]
  exact ⟨rfl, rfl⟩
theorem filter_at {js : List JobV} {p : JobV → Bool} {i : Nat} (hi : i < js.length) (hp : p (jobAt js i) = true) : (js.filter p)[((js.take i).filter p).length]? = some (jobAt js i) := by
  have e : js = js.take i ++ jobAt js i :: js.drop (i + 1) := by
    rw [← jobAt_get hi, List.getElem_cons_drop, List.take_append_drop]
  rw [show js.filter p = (js.take i).filter p ++ (jobAt js i :: js.drop (i + 1)).filter p by rw [← List.filter_append, ← e]]
  rw [List.getElem?_append_right (Nat.le_refl _), Nat.sub_self, List.filter_cons_of_pos hp]
  rfl
theorem late_at {js : List JobV} {now : Int} (h : rowMay js = true) {i : Nat} (hi : i < js.length) (hd : (jobAt js i).dead ≤ now) : (lateV js now)[(lateK js now i).length]? = some (jobAt js i) := by
  unfold lateV lateK
  rw [if_pos h]
  exact filter_at hi (by simp [hd])
theorem left_at {js : List JobV} {now : Int} (h : rowMay js = true) {i : Nat} (hi : i < js.length) (hd : ¬(jobAt js i).dead ≤ now) : (leftV js now)[(leftK js now i).length]? = some (jobAt js i) := by
  unfold leftV leftK
  rw [if_pos h]
  exact filter_at hi (by simp [hd])

/-! A job that is put. -/
theorem put_at0 {js : List JobV} {j : JobV} {i : Nat} (h : i < placeN js j) : jobAt (putL js j) i = jobAt js i := by
  have hp := place_le js j
  unfold jobAt putL
  rw [List.getElem?_append_left (by rw [List.length_take]; omega), List.getElem?_take, if_pos h]
theorem put_at1 {js : List JobV} {j : JobV} : jobAt (putL js j) (placeN js j) = j := by
  have hp := place_le js j
  unfold jobAt putL
  rw [List.getElem?_append_right (by rw [List.length_take]; omega), List.length_take, show placeN js j - min (placeN js j) js.length = 0 by omega]
  rfl
theorem put_at2 {js : List JobV} {j : JobV} {i : Nat} (h : placeN js j ≤ i) : jobAt (putL js j) (i + 1) = jobAt js i := by
  have hp := place_le js j
  unfold jobAt putL
  rw [List.getElem?_append_right (by rw [List.length_take]; omega), List.length_take, show i + 1 - min (placeN js j) js.length = (i - placeN js j) + 1 by omega, List.getElem?_cons_succ, List.getElem?_drop, show placeN js j + (i - placeN js j) = i by omega]
theorem putL_len (js : List JobV) (j : JobV) : (putL js j).length = js.length + 1 := by
  have := place_le js j
  unfold putL
  simp
  omega
theorem putL_mem {js : List JobV} {j x : JobV} : x ∈ putL js j ↔ x = j ∨ x ∈ js := by
  unfold putL
  rw [List.mem_append, List.mem_cons]
  conv => rhs; rw [← List.take_append_drop (placeN js j) js, List.mem_append]
  constructor
  · rintro (h | h | h)
    · exact .inr (.inl h)
    · exact .inl h
    · exact .inr (.inr h)
  · rintro (h | h | h)
    · exact .inr (.inl h)
    · exact .inl h
    · exact .inr (.inr h)
theorem ok_iff {js : List JobV} {j : JobV} : okB js j = true ↔ rowMay js = true ∧ jobMay j = true ∧ hasB js j = false := by
  unfold okB
  simp only [Bool.and_eq_true, Bool.not_eq_true']
theorem has_no {js : List JobV} {j : JobV} (h : hasB js j = false) {i : Nat} (hi : i < js.length) : rankB (jobAt js i) j = false := by
  unfold hasB at h
  rw [List.any_eq_false] at h
  have := h (jobAt js i) (List.mem_of_getElem? (jobAt_mem hi))
  simpa using this
theorem rank_no {a b : JobV} (h : rankB a b = false) (h2 : ¬Ahead a b) : Ahead b a := by
  have h3 : ¬rankB a b = true := by rw [h]; simp
  rw [rank_iff] at h3
  by_cases h4 : Ahead b a
  · exact h4
  · exact absurd ⟨h2, h4⟩ h3
theorem putL_may {js : List JobV} {j : JobV} (h : okB js j = true) (h16 : js.length ≠ 16) : rowMay (putL js j) = true := by
  obtain ⟨hm, hj, hh⟩ := ok_iff.1 h
  obtain ⟨h1, h2, h3⟩ := rowMay_iff.1 hm
  refine rowMay_iff.2 ⟨by rw [putL_len]; omega, ?_, ?_⟩
  · rw [List.all_eq_true] at h2 ⊢
    intro x hx
    rcases putL_mem.1 hx with rfl | hx
    · exact hj
    · exact h2 x hx
  · have hp := place_le js j
    have HB : ∀ i, placeN js j ≤ i → i < js.length → Ahead j (jobAt js i) := fun i hi hl => rank_no (has_no hh hl) (place_behind h3 hi hl)
    refine rises_of fun i k hik hk => ?_
    rw [putL_len] at hk
    rcases Nat.lt_trichotomy i (placeN js j) with hi | hi | hi
    · rw [put_at0 hi]
      rcases Nat.lt_trichotomy k (placeN js j) with hk2 | hk2 | hk2
      · rw [put_at0 hk2]; exact rises_at h3 k hik (by omega)
      · rw [hk2, put_at1]; exact place_ahead hi
      · obtain ⟨k', rfl⟩ : ∃ k', k = k' + 1 := ⟨k - 1, by omega⟩
        rw [put_at2 (by omega)]
        exact (place_ahead hi).trans (HB k' (by omega) (by omega))
    · obtain ⟨k', rfl⟩ : ∃ k', k = k' + 1 := ⟨k - 1, by omega⟩
      rw [hi, put_at1, put_at2 (by omega)]
      exact HB k' (by omega) (by omega)
    · obtain ⟨k', rfl⟩ : ∃ k', k = k' + 1 := ⟨k - 1, by omega⟩
      obtain ⟨i', rfl⟩ : ∃ i', i = i' + 1 := ⟨i - 1, by omega⟩
      rw [put_at2 (by omega), put_at2 (by omega)]
      exact rises_at h3 k' (by omega) (by omega)
#print axioms putL_may
end Go.Proofs.YtlppfocoonnpjaaGreatDoor.J
