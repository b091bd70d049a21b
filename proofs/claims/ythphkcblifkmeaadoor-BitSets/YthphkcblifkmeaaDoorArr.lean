/- The laws' own table of truths and own list of numbers, numbers modulo a size, and small contracts for literals; what the walks of BitSets and BitRound share. -/
import Derived.Test.YthphkcblifkmeaaDoorAwake
import Derived.Deep.CutBlock
import Derived.Deep.DeepCutAuto
namespace Go.Proofs.YthphkcblifkmeaaDoor
open Go.RowKit
attribute [local go_sem] alloc_drewN setCell_drewN

theorem size_of (l : Int) : ∃ k : Nat, 1 ≤ k ∧ k ≤ 64 ∧ wrap64 (1 + wrap64 ((IntKind.u64.wrap l).tmod 64)) = (k : Int) := by
  rw [IntKind.wrap_u64, Int.tmod_eq_emod_of_nonneg (by omega)]
  refine ⟨(1 + l % 18446744073709551616 % 64).toNat, by omega, by omega, ?_⟩
  unfold wrap64
  omega

theorem num_to (e : Int) (w : World) : Calls Tryd.prog 10 #[.int .i64 e] w fun r w' => r = .returned (.int .i64 e) ∧ w = w' := (num_any e w).mono (fun _ _ h => ⟨h.1, h.2.symm⟩)
theorem mod_of (z : Int) (k : Nat) (h : 1 ≤ k) (h' : k ≤ 64) : ∃ m : Nat, m < k ∧ wrap64 ((IntKind.u64.wrap z).tmod (k : Int)) = (m : Int) := by
  rw [IntKind.wrap_u64, Int.tmod_eq_emod_of_nonneg (by omega)]
  have h1 := Int.emod_nonneg (z % 18446744073709551616) (b := (k : Int)) (by omega)
  have h2 := Int.emod_lt_of_pos (z % 18446744073709551616) (b := (k : Int)) (by omega)
  refine ⟨(z % 18446744073709551616 % (k : Int)).toNat, by omega, ?_⟩
  unfold wrap64
  generalize z % 18446744073709551616 % (k : Int) = q at *
  omega

/-- The law's own table of truths at block N: the bits of x. -/
structure ArrAt (W : World) (N x : Nat) : Prop where
  bit : ∀ i, i < 64 → W.cell? ⟨N, i, none⟩ = some (.bool (x.testBit i))
  thaw : ∀ i, W.frozen? ⟨N, i, none⟩ = false
theorem ArrAt.lt {W : World} {N x : Nat} (h : ArrAt W N x) : N < W.heap.size := World.block_lt_of_cell? W ⟨N, 0, none⟩ (h.bit 0 (by decide))
theorem ArrAt.draws {W : World} {N x : Nat} (h : ArrAt W N x) (n : Nat) : ArrAt (W.drewN n) N x := ⟨h.bit, h.thaw⟩
theorem ArrAt.kept {W W' : World} {N x : Nat} (h : ArrAt W N x) (e : W'.heap[N]? = W.heap[N]?) : ArrAt W' N x :=
  ⟨fun i hi => (World.cell?_of_block (a := ⟨N, i, none⟩) e).trans (h.bit i hi), fun i => (World.frozen?_of_block (a := ⟨N, i, none⟩) e).trans (h.thaw i)⟩
theorem ArrAt.put {W : World} {N x y n : Nat} {t : Bool} (h : ArrAt W N x) (hn : n < 64) (hb : ∀ j, y.testBit j = if n = j then t else x.testBit j) : ArrAt (W.setCell ⟨N, n, none⟩ (.bool t)) N y where
  bit i hi := by
    rw [hb i]
    by_cases e : n = i
    · subst e; rw [if_pos rfl]; exact World.cell?_setCell_same _ _ _ (h.bit n hn)
    · rw [if_neg e, other _ _ _ _ _ (by omega)]; exact h.bit i hi
  thaw i := by rw [World.frozen?_setCell]; exact h.thaw i
theorem arr_new (w : World) (t : Nat) : ArrAt (w.alloc (.cells (Array.replicate 64 (.bool false)) t)) w.heap.size 0 :=
  ⟨fun i hi => by simp [hi], fun i => by simp⟩
theorem put_bits {k x n : Nat} (hn : n < k) (j : Nat) : (putW k x n).testBit j = if n = j then true else x.testBit j := by
  rw [put_bit]
  by_cases e : n = j
  · subst e; simp [Fits, hn]
  · rw [if_neg e, decide_eq_false (by omega)]; simp
theorem drop_bits {k x n : Nat} (hk : k ≤ 64) (hx : x < 2 ^ k) (hn : n < k) (j : Nat) : (dropW k x n).testBit j = if n = j then false else x.testBit j := by
  rw [dropW_bit k x hk hx]
  by_cases e : n = j
  · subst e; simp [Fits, hn]
  · rw [if_neg e, decide_eq_false (by omega)]; simp

/-- The law's table at block N and its own list, in memory behind N. -/
structure ArrSt (w W : World) (N k x : Nat) (v : Value) (xs : List Int) : Prop where
  arr : ArrAt W N x
  own : W.ownsRow (N + 1) 3 1 v xs.length (vals xs)
  grown : w.grownBy W none
  le : w.heap.size ≤ N
  new : newW k 0 xs = some x
theorem ArrSt.next {w W W2 : World} {N k x n m : Nat} {v v2 : Value} {xs : List Int} {o : Obj} (h : ArrSt w W N k x v xs) (hgrow : ((W.alloc o).drewN 0).grownBy W2 v.ownBlock) (hn : xs.length = n)
    (hown : W2.ownsRow (N + 1) 3 1 v2 (n + 1) (vals (xs ++ [(m : Int)]))) (hm : m < k) (hk : k ≤ 64) : ArrSt w (W2.setCell ⟨N, m, none⟩ (.bool true)) N k (putW k x m) v2 (xs ++ [(m : Int)]) where
  arr := by
    have hB := below_of_own h.arr.lt (fun g hg => (h.own.lt g hg).1) hgrow
    exact (h.arr.kept (hB.block N (Nat.lt_succ_self N))).put (by omega) (put_bits hm)
  own := by
    rw [show (xs ++ [(m : Int)]).length = n + 1 by simp [hn]]
    exact ownsRow_setCell_below hown (by simp) _
  grown := grown_spoil (grown_append h.grown (fun g hg => Nat.le_trans (Nat.le_succ_of_le h.le) (h.own.lt g hg).1) hgrow) h.le (grownBy_set _ _ _ _)
  le := h.le
  new := newW_snoc k m (by unfold Fits; omega) xs 0 x h.new

theorem new_k (k : Nat) : newW k 0 [(k : Int)] = none := by
  have : ¬ Fits k (k : Int) := by unfold Fits; omega
  simp [newW, this]
theorem new_m1 (k : Nat) : newW k 0 [-1] = none := by
  have : ¬ Fits k (-1) := by unfold Fits; omega
  simp [newW, this]
theorem reads_one (w : World) (z : Int) (t : Nat) : Reads (w.alloc (.cells #[.int .i64 z] t)) (.slice (some ⟨w.heap.size, 0, none⟩) 1 1) [z] := reads_lit w [z] t
/-- A number is below 0, from 0 below k, or from k on. -/
theorem three (k : Nat) (i : Int) : (i < 0 ∧ ¬ Fits k i) ∨ (∃ n : Nat, n < k ∧ i = n) ∨ ((k : Int) ≤ i ∧ 0 ≤ i ∧ ¬ Fits k i) := by
  unfold Fits
  by_cases h0 : i < 0
  · exact .inl ⟨h0, by omega⟩
  · by_cases hk : i < k
    · exact .inr (.inl ⟨i.toNat, by omega, by omega⟩)
    · exact .inr (.inr ⟨by omega, by omega, by omega⟩)
theorem ans_yes {k n : Nat} (h : n < k) : ans k (n : Int) = 0 := by unfold ans; rw [if_pos (by unfold Fits; omega)]
theorem ans_no {k : Nat} {i : Int} (h : ¬ Fits k i) : ans k i = 300 := by unfold ans; rw [if_neg h]
theorem putW_no {k x : Nat} {i : Int} (h : ¬ Fits k i) : putW k x i = x := by unfold putW; rw [if_neg h]
theorem dropW_no {k x : Nat} {i : Int} (h : ¬ Fits k i) : dropW k x i = x := by unfold dropW; rw [if_neg h]

#print axioms ArrSt.next
end Go.Proofs.YthphkcblifkmeaaDoor
