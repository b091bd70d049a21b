/- A machine's box as one block; a step that may be. -/
import Derived.Test.YthdpdnibgmjdaaaDoorAw
import Derived.Test.YthdpdnibgmjdaaaDoorBits
namespace Go.Proofs.YthdpdnibgmjdaaaDoor
open Go.RowKit

abbrev vmC (v : VmS) : Array Value := #[.int .i64 v.pc, .int .i64 v.acc, .int .i64 (v.mem 0), .int .i64 (v.mem 1), .int .i64 (v.mem 2), .int .i64 (v.mem 3), .int .i64 (v.mem 4), .int .i64 (v.mem 5), .int .i64 (v.mem 6), .int .i64 (v.mem 7), .int .i64 (v.mem 8), .int .i64 (v.mem 9), .int .i64 (v.mem 10), .int .i64 (v.mem 11), .int .i64 (v.mem 12), .int .i64 (v.mem 13), .int .i64 (v.mem 14), .int .i64 (v.mem 15)]
theorem vm_word {W : World} {g t : Nat} {v : VmS} (h : W.heap[g]? = some (.cells (vmC v) t (0, 0))) (n : Nat) (hn : n < 16) : W.cell? ⟨g, 2 + n, none⟩ = some (.int .i64 (v.mem n)) := by
  have : n = 0 ∨ n = 1 ∨ n = 2 ∨ n = 3 ∨ n = 4 ∨ n = 5 ∨ n = 6 ∨ n = 7 ∨ n = 8 ∨ n = 9 ∨ n = 10 ∨ n = 11 ∨ n = 12 ∨ n = 13 ∨ n = 14 ∨ n = 15 := by omega
  rcases this with rfl | rfl | rfl | rfl | rfl | rfl | rfl | rfl | rfl | rfl | rfl | rfl | rfl | rfl | rfl | rfl
  all_goals exact blk_cell h _
theorem vm_store {W : World} {g t : Nat} {pc acc : Int} {m : Nat → Int} (h : W.heap[g]? = some (.cells (vmC ⟨pc, acc, m⟩) t (0, 0))) (n : Nat) (hn : n < 16) (x : Int) : (W.setCell ⟨g, 2 + n, none⟩ (.int .i64 x)).heap[g]? = some (.cells (vmC ⟨pc, acc, upd m n x⟩) t (0, 0)) := by
  refine blk_set h ?_
  have : n = 0 ∨ n = 1 ∨ n = 2 ∨ n = 3 ∨ n = 4 ∨ n = 5 ∨ n = 6 ∨ n = 7 ∨ n = 8 ∨ n = 9 ∨ n = 10 ∨ n = 11 ∨ n = 12 ∨ n = 13 ∨ n = 14 ∨ n = 15 := by omega
  rcases this with rfl | rfl | rfl | rfl | rfl | rfl | rfl | rfl | rfl | rfl | rfl | rfl | rfl | rfl | rfl | rfl
  all_goals rfl
theorem upd_in {m : Nat → Int} {n : Nat} {x : Int} (hm : ∀ i, isW (m i) = true) (hx : isW x = true) : ∀ i, isW (upd m n x i) = true := fun i => by
  unfold upd
  by_cases h : i = n
  · rw [if_pos h]; exact hx
  · rw [if_neg h]; exact hm i
theorem vmMay_of {N : Nat} {v : VmS} (h0 : 0 ≤ v.pc) (h1 : v.pc < max (N : Int) 1) (ha : isW v.acc = true) (hm : ∀ i, isW (v.mem i) = true) : vmMay N v = true := by
  unfold vmMay
  rw [decide_eq_true h0, decide_eq_true h1, ha, allB_true (fun i _ => hm i)]
  rfl
theorem isW_mk {x : Int} (h0 : 0 ≤ x) (h1 : x < 4294967296) : isW x = true := by
  unfold isW
  rw [decide_eq_true h0, decide_eq_true h1]
  rfl
theorem stepMay_of {zs : List Ins} {v : VmS} {inn outs : Int} {gs : List Int} (h1 : codeMay zs = true) (h2 : vmMay zs.length v = true) (h3 : isW inn = true) (h4 : 0 ≤ outs) (h5 : outs ≤ 255) (h6 : getsMay gs = true) : stepMay zs v inn outs gs = true := by
  unfold stepMay
  rw [h1, h2, h3, h6, decide_eq_true h4, decide_eq_true h5]
  rfl
theorem upd_same (m : Nat → Int) (n : Nat) (x : Int) : upd m n x n = x := by unfold upd; rw [if_pos rfl]
theorem upd_else (m : Nat → Int) {n i : Nat} (x : Int) (h : i ≠ n) : upd m n x i = m i := by unfold upd; rw [if_neg h]
#print axioms stepMay_of
end Go.Proofs.YthdpdnibgmjdaaaDoor
