/- Going round the members of a set by the next one: positions, none met twice; nothing of a program. -/
import Derived.Test.YthphkcblifkmeaaDoorArr
namespace Go.Proofs.YthphkcblifkmeaaDoor
open Go.RowKit

theorem i64_and63 (n : Int) : bits .and .i64 n 63 = n % 64 := by
  have h63 : (BitVec.ofInt 64 63).toNat = 2 ^ 6 - 1 := by decide
  have key : (BitVec.ofInt 64 n &&& BitVec.ofInt 64 63).toNat = (n % ((2 ^ 64 : Nat) : Int)).toNat % 2 ^ 6 := by
    rw [BitVec.toNat_and, BitVec.toNat_ofInt, h63, Nat.and_two_pow_sub_one_eq_mod]
  show IntKind.i64.wrap ((BitVec.ofInt 64 n &&& BitVec.ofInt 64 63).toNat : Nat) = n % 64
  rw [key, IntKind.wrap_i64]
  omega
theorem and63 (z : Int) : ∃ m : Nat, m < 64 ∧ z % 64 = (m : Int) ∧ bits .and .i64 z 63 = (m : Int) := by
  rw [i64_and63]
  exact ⟨(z % 64).toNat, by omega, by omega, by omega⟩

/-- How many members there are once one is put. -/
theorem mem_put_len (x m : Nat) : ∀ n, (mem (putW 64 x m) n).length = (mem x n).length + (if m < n ∧ m < 64 ∧ x.testBit m = false then 1 else 0) := by
  intro n
  have hb : ∀ j, m < 64 → (putW 64 x m).testBit j = if m = j then true else x.testBit j := fun j h => put_bits h j
  by_cases hm : m < 64
  · induction n with
    | zero => simp [mem]
    | succ n ih =>
      by_cases e : m = n
      · subst e
        rw [mem_yes (by rw [hb m hm, if_pos rfl]), List.length_append, ih]
        cases hx : x.testBit m
        · rw [mem_no hx]; simp [hm]
        · rw [mem_yes hx]; simp
      · cases hx : x.testBit n
        · rw [mem_no hx, mem_no (by rw [hb n hm, if_neg e, hx]), ih]
          simp only [show (m < n + 1) ↔ (m < n) by omega]
        · rw [mem_yes hx, mem_yes (by rw [hb n hm, if_neg e, hx]), List.length_append, List.length_append, ih]
          simp only [show (m < n + 1) ↔ (m < n) by omega]
          simp only [List.length_cons, List.length_nil]
          omega
  · have : putW 64 x m = x := putW_no (by unfold Fits; omega)
    rw [this]; simp [hm]
theorem mem_put_new {x m : Nat} (hm : m < 64) (h : x.testBit m = false) : (mem (putW 64 x m) 64).length = (mem x 64).length + 1 := by rw [mem_put_len, if_pos ⟨hm, hm, h⟩]
theorem mem_put_old {x m : Nat} (h : x.testBit m = true) : (mem (putW 64 x m) 64).length = (mem x 64).length := by rw [mem_put_len, h]; simp

/-- The place q steps behind p, in a row of n that goes round. -/
def pos (n p q : Nat) : Nat := if p + q < n then p + q else p + q - n
theorem pos_lt {n p q : Nat} (hp : p < n) (hq : q < n) : pos n p q < n := by unfold pos; split <;> omega
theorem pos_one {n p q q' : Nat} (hq : q < n) (hq' : q' < n) (h : pos n p q = pos n p q') : q = q' := by
  unfold pos at h
  split at h <;> split at h <;> omega
theorem pos_zero {n p : Nat} (hp : p < n) : pos n p 0 = p := by unfold pos; split <;> omega

theorem mem_same {x k p q r : Nat} (hp : (mem x k)[p]? = some (r : Int)) (hq : (mem x k)[q]? = some (r : Int)) : p = q := by
  rcases Nat.lt_trichotomy p q with h | h | h
  · have := mem_rise x k p q r r h hp hq; omega
  · exact h
  · have := mem_rise x k q p r r h hq hp; omega
theorem mem_place {x k q : Nat} {r : Int} (hq : (mem x k)[q]? = some r) : q < (mem x k).length := by
  rcases Nat.lt_or_ge q (mem x k).length with h | h
  · exact h
  · rw [List.getElem?_eq_none h] at hq; cases hq

/-- Behind the one at place p comes the one at the next place. -/
theorem next_place {x k p t r : Nat} (hx : x < 2 ^ k) (ht : (mem x k)[p]? = some (t : Int)) (hr : IsNext x t r) : (mem x k)[pos (mem x k).length p 1]? = some (r : Int) := by
  have hp := mem_place ht
  have hpos := pos_lt (n := (mem x k).length) (p := p) (q := 1)
  by_cases h1 : p + 1 < (mem x k).length
  · have e : pos (mem x k).length p 1 = p + 1 := by unfold pos; rw [if_pos h1]
    rw [e]
    obtain ⟨s, h2, h3, h4⟩ := mem_at x k (p + 1) h1
    have hts := mem_rise x k p (p + 1) t s (by omega) ht h2
    have hs : IsNext x t s := ⟨h4, .inl ⟨by omega, fun j h5 h6 => by
      cases hb : x.testBit j
      · rfl
      · obtain ⟨q, hq, hqj⟩ := mem_before hx h2 hb h6
        rcases Nat.lt_or_ge q p with h7 | h7
        · have := mem_rise x k q p j t h7 hqj ht; omega
        · have : q = p := by omega
          subst this; rw [ht] at hqj; simp at hqj; omega⟩⟩
    rw [next_one hr hs]; exact h2
  · have e : pos (mem x k).length p 1 = 0 := by unfold pos; rw [if_neg h1]; omega
    rw [e]
    obtain ⟨s, h2, h3, h4⟩ := mem_at x k 0 (by omega)
    have hs : IsNext x t s := ⟨h4, .inr ⟨fun j h5 => by
      cases hb : x.testBit j
      · rfl
      · have hjk : j < k := by
          rcases Nat.lt_or_ge j k with h | h
          · exact h
          · rw [no_bit hx h] at hb; cases hb
        obtain ⟨q, hq⟩ := mem_has x k j hjk hb
        have hql := mem_place hq
        rcases Nat.lt_or_ge q p with h7 | h7
        · have := mem_rise x k q p j t h7 hq ht; omega
        · have : q = p := by omega
          subst this; rw [ht] at hq; simp at hq; omega, fun j h5 => by
      cases hb : x.testBit j
      · rfl
      · obtain ⟨q, hq, _⟩ := mem_before hx h2 hb h5
        omega⟩⟩
    rw [next_one hr hs]; exact h2
theorem next_between {x t r : Nat} (h : IsNext x t r) (j : Nat) (h1 : t < j) (h2 : j < r) : x.testBit j = false := by
  rcases h.2 with ⟨_, h3⟩ | ⟨h3, _⟩
  · exact h3 j (by omega) h2
  · exact h3 j (by omega)

/-- Behind i steps one stands at t, and has met the members of y, which are the first i from some place on. -/
def Rnd (x n i t y : Nat) : Prop :=
  (i = 0 ∧ y = 0) ∨ (0 < i ∧ ∃ p, p < n ∧ (mem x 64)[pos n p (i - 1)]? = some (t : Int) ∧ ∀ r : Nat, y.testBit r = true → ∃ q, q < i ∧ (mem x 64)[pos n p q]? = some (r : Int))
theorem rnd_step {x n i t y r : Nat} (hx : x < 2 ^ 64) (hn : (mem x 64).length = n) (hi : i < n) (h : Rnd x n i t y) (hr : IsNext x t r) : r < 64 ∧ x.testBit r = true ∧ y.testBit r = false ∧ Rnd x n (i + 1) r (putW 64 y r) := by
  have hb := hr.1
  have hr64 : r < 64 := by
    rcases Nat.lt_or_ge r 64 with h | h
    · exact h
    · rw [no_bit hx h] at hb; cases hb
  refine ⟨hr64, hb, ?_⟩
  subst hn
  rcases h with ⟨rfl, rfl⟩ | ⟨h0, p, hp, ht, hy⟩
  · refine ⟨by simp, .inr ⟨by omega, ?_⟩⟩
    obtain ⟨p, hp⟩ := mem_has x 64 r hr64 hb
    have hpl := mem_place hp
    refine ⟨p, hpl, by rw [Nat.zero_add, Nat.sub_self, pos_zero hpl]; exact hp, fun s hs => ?_⟩
    rw [put_bits hr64] at hs
    by_cases e : r = s
    · subst e; exact ⟨0, by omega, by rw [pos_zero hpl]; exact hp⟩
    · rw [if_neg e] at hs; simp at hs
  · have hnx := next_place hx ht hr
    have hpos : pos (mem x 64).length (pos (mem x 64).length p (i - 1)) 1 = pos (mem x 64).length p i := by
      unfold pos
      split <;> split <;> split <;> omega
    rw [hpos] at hnx
    constructor
    · cases hyr : y.testBit r
      · rfl
      · exfalso
        obtain ⟨q, hq, hqr⟩ := hy r hyr
        have := pos_one (by omega) (by omega) (mem_same hqr hnx)
        omega
    · refine .inr ⟨by omega, p, hp, by simpa using hnx, fun s hs => ?_⟩
      rw [put_bits hr64] at hs
      by_cases e : r = s
      · subst e; exact ⟨i, by omega, hnx⟩
      · rw [if_neg e] at hs
        obtain ⟨q, hq, hqs⟩ := hy s hs
        exact ⟨q, by omega, hqs⟩
#print axioms rnd_step
end Go.Proofs.YthphkcblifkmeaaDoor
