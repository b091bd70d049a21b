/- Sets of small numbers as the bits of one number: what putting, dropping, asking and going to the next one do; nothing of a program. -/
import Derived.Test.YthphkcblifkmeaaDoorLaws0
import Derived.Lib.TrailingZeros
import Derived.Laws.Bits64b
namespace Go.Proofs.YthphkcblifkmeaaDoor
open Go.RowKit

/-- May i be in a set of size k? -/
abbrev Fits (k : Nat) (i : Int) : Prop := 0 ≤ i ∧ i < (k : Int)
/-- What Put and Drop answer. -/
def ans (k : Nat) (i : Int) : Int := if Fits k i then 0 else 300
/-- The set behind Put, behind Drop. -/
def putW (k x : Nat) (i : Int) : Nat := if Fits k i then x ||| 2 ^ i.toNat else x
def dropW (k x : Nat) (i : Int) : Nat := if Fits k i then x &&& (18446744073709551615 - 2 ^ i.toNat) else x
/-- Is i in the set? -/
def hasW (x : Nat) (i : Int) : Bool := decide (0 ≤ i) && x.testBit i.toNat

theorem pow_le {k : Nat} (h : k ≤ 64) : 2 ^ k ≤ 18446744073709551616 := Nat.pow_le_pow_right (n := 2) (by decide) h
theorem pow_lt {i : Nat} (h : i < 64) : 2 ^ i < 18446744073709551616 := Nat.pow_lt_pow_right (a := 2) (by decide) h
theorem no_bit {x k i : Nat} (h : x < 2 ^ k) (hi : k ≤ i) : x.testBit i = false := Nat.testBit_lt_two_pow (Nat.lt_of_lt_of_le h (Nat.pow_le_pow_right (by decide) hi))
theorem lt_of_no_bits {x n : Nat} (h : ∀ i, n ≤ i → x.testBit i = false) : x < 2 ^ n := Nat.lt_pow_two_of_testBit x h

theorem drop_bit (x i j : Nat) (hi : i < 64) (hx : x < 18446744073709551616) : (x &&& (18446744073709551615 - 2 ^ i)).testBit j = (x.testBit j && !decide (i = j)) := by
  have e : 18446744073709551615 - 2 ^ i = 2 ^ 64 - (2 ^ i + 1) := by have := pow_lt hi; omega
  rw [Nat.testBit_and, e, Nat.testBit_two_pow_sub_succ (pow_lt hi), Nat.testBit_two_pow]
  by_cases hj : j < 64
  · simp [hj]
  · rw [no_bit (k := 64) hx (by omega)]; simp

theorem put_lt {k x : Nat} {i : Int} (h : x < 2 ^ k) : putW k x i < 2 ^ k := by
  unfold putW
  split
  · rename_i hf
    unfold Fits at hf
    exact Nat.or_lt_two_pow h (Nat.pow_lt_pow_right (by decide) (by omega))
  · exact h
theorem drop_lt {k x : Nat} {i : Int} (h : x < 2 ^ k) : dropW k x i < 2 ^ k := by
  unfold dropW
  split
  · exact Nat.lt_of_le_of_lt Nat.and_le_left h
  · exact h
theorem put_bit (k x : Nat) (i : Int) (j : Nat) : (putW k x i).testBit j = (x.testBit j || decide (Fits k i ∧ i = j)) := by
  unfold putW
  split
  · rename_i h
    rw [Nat.testBit_or, Nat.testBit_two_pow]
    congr 1
    rw [decide_eq_decide]
    unfold Fits at h
    constructor
    · intro e; exact ⟨h, by omega⟩
    · intro e; omega
  · rename_i h; simp [h]
theorem dropW_bit (k x : Nat) (hk : k ≤ 64) (hx : x < 2 ^ k) (i : Int) (j : Nat) : (dropW k x i).testBit j = (x.testBit j && !decide (Fits k i ∧ i = j)) := by
  unfold dropW
  split
  · rename_i h
    have h' := h
    unfold Fits at h'
    rw [drop_bit x i.toNat j (by omega) (Nat.lt_of_lt_of_le hx (pow_le hk))]
    congr 2
    rw [decide_eq_decide]
    constructor
    · intro e; exact ⟨h, by omega⟩
    · intro e; omega
  · rename_i h; simp [h]

/-! The words of the program. -/
theorem andNot_u64 (a b : Nat) (ha : a < 18446744073709551616) (hb : b < 18446744073709551616) : bits .andNot .u64 (a : Int) (b : Int) = ((a &&& (18446744073709551615 - b) : Nat) : Int) := by
  have hx : a &&& (18446744073709551615 - b) < 2 ^ 64 := Nat.lt_of_le_of_lt Nat.and_le_left ha
  have h1 : (BitVec.ofInt 64 (a : Int)).toNat = a := by
    rw [BitVec.ofInt_natCast, BitVec.toNat_ofNat]; exact Nat.mod_eq_of_lt (by omega)
  have h2 : (BitVec.ofInt 64 (b : Int)).toNat = b := by
    rw [BitVec.ofInt_natCast, BitVec.toNat_ofNat]; exact Nat.mod_eq_of_lt (by omega)
  show IntKind.u64.wrap ((BitVec.ofInt 64 (a : Int) &&& ~~~ BitVec.ofInt 64 (b : Int)).toNat : Int) = _
  rw [BitVec.toNat_and, BitVec.toNat_not, h1, h2, IntKind.wrap_u64, show 2 ^ 64 - 1 - b = 18446744073709551615 - b by omega]
  omega
theorem bit_has (x i : Nat) (hi : i < 64) (hx : x < 18446744073709551616) : (bits .and .u64 (x : Int) ((2 ^ i : Nat) : Int) != 0) = x.testBit i := by
  rw [bits_and_u64_nat x _ hx (pow_lt hi)]
  have e : ∀ j, (x &&& 2 ^ i).testBit j = (x.testBit j && decide (i = j)) := fun j => by rw [Nat.testBit_and, Nat.testBit_two_pow]
  generalize x &&& 2 ^ i = y at *
  cases hb : x.testBit i
  · have h0 : y = 0 := by
      apply Nat.eq_of_testBit_eq
      intro j
      rw [e j, Nat.zero_testBit]
      by_cases h : i = j
      · subst h; simp [hb]
      · simp [h]
    subst h0; rfl
  · have h1 := e i
    rw [hb] at h1
    have h0 : y ≠ 0 := by rintro rfl; simp at h1
    simp; omega

/-- The word of all bits above i. -/
def aboveW (i : Int) : Nat := if i < 0 then 18446744073709551615 else if 63 ≤ i then 0 else 18446744073709551616 - 2 ^ (i.toNat + 1)
theorem above_lt (i : Int) : aboveW i < 18446744073709551616 := by
  unfold aboveW
  split
  · omega
  · split
    · omega
    · have : 0 < 2 ^ (i.toNat + 1) := Nat.pow_pos (by decide)
      omega
theorem above_bit (i : Int) (j : Nat) (hj : j < 64) : (aboveW i).testBit j = decide (i < j) := by
  unfold aboveW
  split
  · rw [show 18446744073709551615 = 2 ^ 64 - 1 from rfl, Nat.testBit_two_pow_sub_one]
    simp [hj]; omega
  · split
    · simp; omega
    · have h1 : 2 ^ (i.toNat + 1) - 1 < 2 ^ 64 := by have := Nat.pow_le_pow_right (n := 2) (i := i.toNat + 1) (j := 64) (by decide) (by omega); omega
      have h0 : 0 < 2 ^ (i.toNat + 1) := Nat.pow_pos (by decide)
      rw [show 18446744073709551616 - 2 ^ (i.toNat + 1) = 2 ^ 64 - (2 ^ (i.toNat + 1) - 1 + 1) by omega, Nat.testBit_two_pow_sub_succ h1, Nat.testBit_two_pow_sub_one]
      simp [hj]
      by_cases h : i < j
      · simp [h]; omega
      · simp [h]; omega
/-- How the program makes it. -/
theorem above_eq (i : Int) (h : 0 ≤ i) : IntKind.u64.wrap (IntKind.u64.wrap (18446744073709551615 * 2 ^ min i.toNat 64) * 2) = ((aboveW i : Nat) : Int) := by
  rw [IntKind.wrap_u64, IntKind.wrap_u64]
  unfold aboveW
  rw [if_neg (by omega)]
  have e0 : (18446744073709551615 : Int) * 2 ^ min i.toNat 64 = ((18446744073709551616 * 2 ^ min i.toNat 64 - 2 ^ min i.toNat 64 : Nat) : Int) := by
    have h0 : 0 < 2 ^ min i.toNat 64 := Nat.pow_pos (by decide)
    rw [show (2 : Int) ^ min i.toNat 64 = ((2 ^ min i.toNat 64 : Nat) : Int) by rw [Int.natCast_pow]; rfl]
    generalize 2 ^ min i.toNat 64 = p at *
    omega
  rw [e0]
  by_cases h63 : 63 ≤ i
  · rw [if_pos h63]
    rcases Nat.lt_or_ge i.toNat 64 with h1 | h1
    · rw [show min i.toNat 64 = 63 by omega]; decide
    · rw [show min i.toNat 64 = 64 by omega]; decide
  · rw [if_neg h63, show min i.toNat 64 = i.toNat by omega]
    have h1 := pow_lt (i := i.toNat + 1) (by omega)
    have h0 : 0 < 2 ^ i.toNat := Nat.pow_pos (by decide)
    rw [Nat.pow_succ] at h1 ⊢
    generalize 2 ^ i.toNat = p at *
    omega

/-! The next one. -/
def IsNext (x : Nat) (i : Int) (r : Nat) : Prop :=
  x.testBit r = true ∧ ((i < r ∧ ∀ j : Nat, i < j → j < r → x.testBit j = false) ∨ ((∀ j : Nat, i < j → x.testBit j = false) ∧ ∀ j, j < r → x.testBit j = false))
theorem next_one {x : Nat} {i : Int} {r r' : Nat} (h : IsNext x i r) (h' : IsNext x i r') : r = r' := by
  obtain ⟨hr, h⟩ := h
  obtain ⟨hr', h'⟩ := h'
  rcases Nat.lt_trichotomy r r' with hlt | heq | hgt
  · exfalso
    rcases h with ⟨h1, h2⟩ | ⟨h1, h2⟩ <;> rcases h' with ⟨h3, h4⟩ | ⟨h3, h4⟩
    · rw [h4 r h1 hlt] at hr; cases hr
    · rw [h4 r hlt] at hr; cases hr
    · rw [h1 r' h3] at hr'; cases hr'
    · rw [h4 r hlt] at hr; cases hr
  · exact heq
  · exfalso
    rcases h with ⟨h1, h2⟩ | ⟨h1, h2⟩ <;> rcases h' with ⟨h3, h4⟩ | ⟨h3, h4⟩
    · rw [h2 r' h3 hgt] at hr'; cases hr'
    · rw [h3 r h1] at hr; cases hr
    · rw [h2 r' hgt] at hr'; cases hr'
    · rw [h2 r' hgt] at hr'; cases hr'

theorem ctz_bit (x : Nat) (h0 : 0 < x) (hx : x < 18446744073709551616) : x.testBit (Lib.ctz 64 x) = true ∧ ∀ j, j < Lib.ctz 64 x → x.testBit j = false := by
  obtain ⟨m, hm, hk⟩ := Lib.ctzFrom_spec 64 x h0 hx
  have e : Lib.ctz 64 x = Lib.ctzFrom 64 x := by unfold Lib.ctz; rw [if_neg (by omega)]
  rw [e]
  generalize Lib.ctzFrom 64 x = c at *
  constructor
  · rw [hm, Nat.testBit_two_pow_mul]; simp
  · intro j hj
    rw [hm, Nat.testBit_two_pow_mul]; simp; omega
theorem next_above (x : Nat) (i : Int) (hx : x < 18446744073709551616) (h0 : 0 < x &&& aboveW i) : IsNext x i (Lib.ctz 64 (x &&& aboveW i)) := by
  have hlt : x &&& aboveW i < 18446744073709551616 := Nat.lt_of_le_of_lt Nat.and_le_left hx
  obtain ⟨h1, h2⟩ := ctz_bit _ h0 hlt
  generalize Lib.ctz 64 (x &&& aboveW i) = c at *
  have hc : c < 64 := by
    rcases Nat.lt_or_ge c 64 with h | h
    · exact h
    · rw [no_bit (k := 64) hlt h] at h1; cases h1
  rw [Nat.testBit_and, above_bit i c hc, Bool.and_eq_true, decide_eq_true_eq] at h1
  refine ⟨h1.1, .inl ⟨h1.2, fun j hij hj => ?_⟩⟩
  have := h2 j hj
  rw [Nat.testBit_and, above_bit i j (by omega), decide_eq_true hij, Bool.and_true] at this
  exact this
theorem next_least (x : Nat) (i : Int) (hx : x < 18446744073709551616) (h0 : 0 < x) (ha : x &&& aboveW i = 0) : IsNext x i (Lib.ctz 64 x) := by
  obtain ⟨h1, h2⟩ := ctz_bit _ h0 hx
  refine ⟨h1, .inr ⟨fun j hij => ?_, h2⟩⟩
  rcases Nat.lt_or_ge j 64 with h | h
  · have : (x &&& aboveW i).testBit j = false := by rw [ha]; simp
    rw [Nat.testBit_and, above_bit i j h, decide_eq_true hij, Bool.and_true] at this
    exact this
  · exact no_bit (k := 64) hx h

/-! The members, rising. -/
def mem (x : Nat) : Nat → List Int
  | 0 => []
  | j + 1 => if x.testBit j then mem x j ++ [(j : Int)] else mem x j
theorem mem_yes {x j : Nat} (h : x.testBit j = true) : mem x (j + 1) = mem x j ++ [(j : Int)] := by simp [mem, h]
theorem mem_no {x j : Nat} (h : x.testBit j = false) : mem x (j + 1) = mem x j := by simp [mem, h]
theorem mem_length (x j : Nat) : (mem x j).length ≤ j := by
  induction j with
  | zero => simp [mem]
  | succ j ih =>
    cases hb : x.testBit j
    · rw [mem_no hb]; omega
    · rw [mem_yes hb]; simp; omega
/-- The members at n and above are none: the list goes on no further. -/
theorem mem_more {x k : Nat} (h : x < 2 ^ k) : ∀ n, k ≤ n → mem x n = mem x k := by
  intro n hn
  induction n with
  | zero => rw [show k = 0 by omega]
  | succ n ih =>
    by_cases e : k = n + 1
    · rw [e]
    · rw [mem_no (no_bit h (by omega)), ih (by omega)]
/-- Where the members stand: each is a bit below n, they rise, and every bit below n is there. -/
theorem mem_at (x n : Nat) : ∀ p, p < (mem x n).length → ∃ r : Nat, (mem x n)[p]? = some (r : Int) ∧ r < n ∧ x.testBit r = true := by
  induction n with
  | zero => intro p hp; simp [mem] at hp
  | succ n ih =>
    intro p hp
    cases hb : x.testBit n
    · rw [mem_no hb] at hp ⊢
      obtain ⟨r, h1, h2, h3⟩ := ih p hp
      exact ⟨r, h1, by omega, h3⟩
    · rw [mem_yes hb] at hp ⊢
      by_cases hl : p < (mem x n).length
      · obtain ⟨r, h1, h2, h3⟩ := ih p hl
        exact ⟨r, by rw [List.getElem?_append_left hl]; exact h1, by omega, h3⟩
      · have e : p = (mem x n).length := by simp at hp; omega
        subst e
        exact ⟨n, by simp, by omega, hb⟩
theorem mem_rise (x n : Nat) : ∀ p q r s : Nat, p < q → (mem x n)[p]? = some (r : Int) → (mem x n)[q]? = some (s : Int) → r < s := by
  induction n with
  | zero => intro p q r s _ h; simp [mem] at h
  | succ n ih =>
    intro p q r s hpq hp hq
    cases hb : x.testBit n
    · rw [mem_no hb] at hp hq
      exact ih p q r s hpq hp hq
    · rw [mem_yes hb] at hp hq
      have hql : q < (mem x n ++ [(n : Int)]).length := by
        rcases Nat.lt_or_ge q (mem x n ++ [(n : Int)]).length with h | h
        · exact h
        · rw [List.getElem?_eq_none h] at hq; cases hq
      have hpl : p < (mem x n).length := by simp at hql; omega
      rw [List.getElem?_append_left hpl] at hp
      by_cases hl : q < (mem x n).length
      · rw [List.getElem?_append_left hl] at hq
        exact ih p q r s hpq hp hq
      · have e : q = (mem x n).length := by simp at hql; omega
        subst e
        simp at hq
        obtain ⟨r', h1, h2, _⟩ := mem_at x n p hpl
        rw [h1] at hp
        cases hp
        omega
theorem mem_has (x n : Nat) : ∀ r : Nat, r < n → x.testBit r = true → ∃ p : Nat, (mem x n)[p]? = some (r : Int) := by
  induction n with
  | zero => intro r hr; omega
  | succ n ih =>
    intro r hr hb
    by_cases e : r = n
    · subst e; rw [mem_yes hb]; exact ⟨(mem x r).length, by simp⟩
    · obtain ⟨p, hp⟩ := ih r (by omega) hb
      cases hbn : x.testBit n
      · rw [mem_no hbn]; exact ⟨p, hp⟩
      · rw [mem_yes hbn]
        refine ⟨p, ?_⟩
        have : p < (mem x n).length := by
          rcases Nat.lt_or_ge p (mem x n).length with h | h
          · exact h
          · rw [List.getElem?_eq_none h] at hp; cases hp
        rw [List.getElem?_append_left this]; exact hp
theorem mem_none {x n : Nat} (h : x < 2 ^ n) : mem x n = [] ↔ x = 0 := by
  constructor
  · intro e
    apply Nat.eq_of_testBit_eq
    intro i
    rw [Nat.zero_testBit]
    rcases Nat.lt_or_ge i n with hi | hi
    · cases hb : x.testBit i
      · rfl
      · obtain ⟨p, hp⟩ := mem_has x n i hi hb
        rw [e] at hp; simp at hp
    · exact no_bit h hi
  · rintro rfl
    have := mem_more (x := 0) (k := 0) (by decide) n (Nat.zero_le _)
    simpa [mem] using this

/-! The set of a list. -/
def newW (k : Nat) : Nat → List Int → Option Nat
  | x, [] => some x
  | x, i :: r => if Fits k i then newW k (putW k x i) r else none
theorem newW_snoc (k : Nat) (i : Int) (hi : Fits k i) : ∀ (l : List Int) (x y : Nat), newW k x l = some y → newW k x (l ++ [i]) = some (putW k y i)
  | [], x, y, h => by simp only [newW, Option.some.injEq] at h; subst h; simp [newW, hi]
  | z :: l, x, y, h => by
    simp only [newW, List.cons_append] at h ⊢
    split at h
    · rename_i hz; rw [if_pos hz]; exact newW_snoc k i hi l _ y h
    · cases h
theorem newW_lt {k : Nat} : ∀ {l : List Int} {x y : Nat}, newW k x l = some y → x < 2 ^ k → y < 2 ^ k
  | [], x, y, h, hx => by simp only [newW, Option.some.injEq] at h; subst h; exact hx
  | z :: l, x, y, h, hx => by
    simp only [newW] at h
    split at h
    · exact newW_lt h (put_lt hx)
    · cases h
#print axioms newW_lt
end Go.Proofs.YthphkcblifkmeaaDoor
