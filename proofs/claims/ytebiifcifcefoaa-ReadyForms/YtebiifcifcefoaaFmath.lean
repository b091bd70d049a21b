/- Jobs that may not be, and a row that is filled: plain numbers and lists. -/
import Derived.Test.YtebiifcifcefoaaPmath
namespace Go.Proofs.Ytebiifcifcefoaa
open Go.RowKit

theorem conv_uf (x : Int) : ∃ U : Nat, IntKind.u64.wrap x = (U : Int) ∧ U < 18446744073709551616 := ⟨(IntKind.u64.wrap x).toNat, by rw [IntKind.wrap_u64]; omega, by rw [IntKind.wrap_u64]; omega⟩
/-- The row that is filled. -/
def fJ (k : Nat) : JobV := ⟨0, 0, k, 1, 10, 5, 0⟩
def fRow (n : Nat) : List JobV := (List.range n).map fJ
theorem fRow_len (n : Nat) : (fRow n).length = n := by simp [fRow]
theorem fRow_at {n i : Nat} (h : i < n) : jobAt (fRow n) i = fJ i := by
  unfold jobAt fRow
  simp [List.getElem?_map, List.getElem?_range h]
theorem fJ_ahead {i k : Nat} (h : i < k) : Ahead (fJ i) (fJ k) := by
  unfold Ahead fJ
  dsimp only
  omega
theorem fJ_may {k : Nat} (h : k ≤ 255) : jobMay (fJ k) = true := by
  unfold jobMay fJ
  simp
  omega
theorem fRow_may {n : Nat} (h : n ≤ 16) : rowMay (fRow n) = true := by
  refine rowMay_iff.2 ⟨by rw [fRow_len]; exact h, ?_, rises_of fun i k hik hk => ?_⟩
  · rw [List.all_eq_true]
    intro x hx
    obtain ⟨i, hi, rfl⟩ := List.mem_map.1 hx
    exact fJ_may (by have := List.mem_range.1 hi; omega)
  · rw [fRow_len] at hk
    rw [fRow_at (by omega), fRow_at hk]
    exact fJ_ahead hik
theorem fRow_ok {n m : Nat} (h : n ≤ 16) (hm : n ≤ m) (hm2 : m ≤ 255) : okB (fRow n) (fJ m) = true := by
  refine ok_iff.2 ⟨fRow_may h, fJ_may hm2, ?_⟩
  unfold hasB
  rw [List.any_eq_false]
  intro x hx hx2
  obtain ⟨i, hi, rfl⟩ := List.mem_map.1 hx
  exact (rank_iff.1 hx2).1 (fJ_ahead (by have := List.mem_range.1 hi; omega))
theorem fRow_place {n : Nat} : placeN (fRow n) (fJ n) = n := by
  refine place_eq (by rw [fRow_len]; exact Nat.le_refl _) (fun i hi => ?_) (fun hh => absurd hh (by rw [fRow_len]; omega))
  rw [fRow_at hi]
  exact fJ_ahead hi
theorem fRow_put {n : Nat} (h : n < 16) : putE (fRow n) (fJ n) = 0 ∧ putV (fRow n) (fJ n) = fRow (n + 1) := by
  have hok := fRow_ok (n := n) (m := n) (by omega) (Nat.le_refl _) (by omega)
  unfold putE putV
  rw [if_pos hok, if_pos hok, if_neg (by rw [fRow_len]; omega), if_neg (by rw [fRow_len]; omega)]
  refine ⟨rfl, ?_⟩
  unfold putL
  rw [fRow_place, List.take_of_length_le (by rw [fRow_len]; exact Nat.le_refl _), List.drop_eq_nil_of_le (by rw [fRow_len]; exact Nat.le_refl _)]
  unfold fRow
  rw [List.range_succ, List.map_append]
  rfl
theorem fRow_full : putE (fRow 16) (fJ 99) = 1201 ∧ putV (fRow 16) (fJ 99) = [] := by
  have hok := fRow_ok (n := 16) (m := 99) (by omega) (by omega) (by omega)
  unfold putE putV
  rw [if_pos hok, if_pos hok, if_pos (fRow_len 16), if_pos (fRow_len 16)]
  exact ⟨rfl, rfl⟩
/-- What the statement asks of a job that may not be. -/
structure FmAns (j : JobV) : Prop where
  put : putE [] j = 1200 ∧ putV [] j = []
  first : firstV [j] = jz ∧ firstB [j] = false
  may : rowMay [j] = false
theorem may_parts {j : JobV} (h : jobMay j = true) : 0 ≤ j.task ∧ j.task < 6 ∧ 0 ≤ j.seq ∧ 0 ≤ j.prio ∧ j.prio ≤ 255 ∧ 0 ≤ j.rel ∧ j.rel ≤ 1099511627776 ∧ j.rel < j.dead ∧ 1 ≤ j.dem ∧ j.dem ≤ 65535 ∧ 0 ≤ j.used ∧ j.used < j.dem := by
  unfold jobMay at h
  simp only [Bool.and_eq_true, decide_eq_true_eq] at h
  omega
theorem fm_of {j : JobV} (h : ¬ jobMay j = true) : FmAns j := by
  have h1 : jobMay j = false := Bool.eq_false_iff.2 h
  have h2 : rowMay [j] = false := by unfold rowMay; simp [h1]
  have h3 : firstB [j] = false := by unfold firstB; rw [h2]; rfl
  refine ⟨?_, ⟨?_, h3⟩, h2⟩
  · unfold putE putV okB
    rw [h1]
    simp
  · unfold firstV
    rw [h3]
    rfl
theorem fm0 {d : Int} (h1 : 1 ≤ d) : FmAns ⟨-d, 0, 3, 4, 13, 5, 0⟩ := fm_of fun h => by have := may_parts h; dsimp only at this; omega
theorem fm1 {d : Int} (h1 : 1 ≤ d) : FmAns ⟨5 + d, 0, 3, 4, 13, 5, 0⟩ := fm_of fun h => by have := may_parts h; dsimp only at this; omega
theorem fm2 {d : Int} (h1 : 1 ≤ d) : FmAns ⟨2, -d, 3, 4, 13, 5, 0⟩ := fm_of fun h => by have := may_parts h; dsimp only at this; omega
theorem fm3 {d : Int} (h1 : 1 ≤ d) : FmAns ⟨2, 0, 255 + d, 4, 13, 5, 0⟩ := fm_of fun h => by have := may_parts h; dsimp only at this; omega
theorem fm4 {d : Int} (h1 : 1 ≤ d) : FmAns ⟨2, 0, 3, -d, 13, 5, 0⟩ := fm_of fun h => by have := may_parts h; dsimp only at this; omega
theorem fm5 {d : Int} (h1 : 1 ≤ d) : FmAns ⟨2, 0, 3, 1099511627776 + d, 1099511627776 + d + 1, 5, 0⟩ := fm_of fun h => by have := may_parts h; dsimp only at this; omega
theorem fm6 {d : Int} (h1 : 1 ≤ d) : FmAns ⟨2, 0, 3, 4, 5 - d, 5, 0⟩ := fm_of fun h => by have := may_parts h; dsimp only at this; omega
theorem fm7 {d : Int} (h1 : 1 ≤ d) : FmAns ⟨2, 0, 3, 4, 13, 1 - d, 0⟩ := fm_of fun h => by have := may_parts h; dsimp only at this; omega
theorem fm8 {d : Int} (h1 : 1 ≤ d) : FmAns ⟨2, 0, 3, 4, 13, 65535 + d, 0⟩ := fm_of fun h => by have := may_parts h; dsimp only at this; omega
theorem fm9 {d : Int} (h1 : 1 ≤ d) : FmAns ⟨2, 0, 3, 4, 13, 5, -d⟩ := fm_of fun h => by have := may_parts h; dsimp only at this; omega
theorem fm10 {d : Int} (h1 : 1 ≤ d) : FmAns ⟨2, 0, 3, 4, 13, 5, 4 + d⟩ := fm_of fun h => by have := may_parts h; dsimp only at this; omega
#print axioms fm_of
end Go.Proofs.Ytebiifcifcefoaa
