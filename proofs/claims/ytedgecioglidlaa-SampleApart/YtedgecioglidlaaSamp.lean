/- Contracts of package sampling: New, Write, Read, over the box of two cells of a sample; the statements' own Num and awake. -/
import Derived.Test.YtedgecioglidlaaBoxs
namespace Go.Proofs.Ytedgecioglidlaa
open Go.RowKit
attribute [local go_sem] alloc_drewN setCell_drewN

/-- A sample at block b: its value, and whether one was written. -/
def Samp (W : World) (b : Nat) (x : Int) (s : Bool) : Prop := W.heap[b]? = some (.cells #[.int .i64 x, .bool s] 33 (0, 0))
theorem Samp.grown {W W' : World} {b : Nat} {x : Int} {s : Bool} {r : Option Nat} (h : Samp W b x s) (hg : W.grownBy W' r) (hr : r ≠ some b) : Samp W' b x s := box_grown h hg hr
theorem Samp.lt {W : World} {b : Nat} {x : Int} {s : Bool} (h : Samp W b x s) : b < W.heap.size := box_lt h

theorem new_any (w : World) :
    Calls Try.prog 5 #[] w fun e w' => e = .returned (.pointer (some ⟨w.heap.size, 0, none⟩)) ∧ Samp w' w.heap.size 0 false ∧ w.grownBy w' none := by
  have HG := hide (World.grownBy_alloc w (.cells #[.int .i64 0, .bool false] 33) none)
  have HA := hide (heap_alloc_new w (.cells #[.int .i64 0, .bool false] 33))
  go_enter Try.func5, Try.ntmps5
  go_wp2
  go_ret
  exact ⟨rfl, HA.out, HG.out⟩
theorem read_any (b : Nat) (x : Int) (s : Bool) (w : World) (h : Samp w b x s) :
    Calls Try.prog 6 #[.pointer (some ⟨b, 0, none⟩)] w fun e w' => e = .returned (.tuple #[.int .i64 x, .bool s]) ∧ w.grownBy w' none := by
  have c0 := blk_cell h 0
  have c1 := blk_cell h 1
  simp only [List.getElem?_toArray, List.getElem?_cons_zero, List.getElem?_cons_succ] at c0 c1
  go_enter Try.func6, Try.ntmps6
  go_wp2
  go_quiet (fail)
  go_wp2
  go_ret2
  exact ⟨rfl, grownBy_draws _ _ _⟩
theorem write_any (b : Nat) (x y : Int) (s : Bool) (w : World) (h : Samp w b x s) :
    Calls Try.prog 7 #[.pointer (some ⟨b, 0, none⟩), .int .i64 y] w fun e w' => e = .returned (.tuple #[]) ∧ Samp w' b y true ∧ w.grownBy w' (some b) := by
  have c0 := blk_cell h 0
  have c1 := blk_cell h 1
  simp only [List.getElem?_toArray, List.getElem?_cons_zero, List.getElem?_cons_succ] at c0 c1
  have f0 := blk_free h 0
  have f1 := blk_free h 1
  have HS := hide (blk_set (j := 1) (u := .bool true) (cs' := #[.int .i64 y, .bool true]) (blk_set (j := 0) (u := .int .i64 y) (cs' := #[.int .i64 y, .bool s]) h rfl) rfl)
  have HG := hide (grownBy_trans (grownBy_set w b 0 (.int .i64 y)) (grownBy_set _ b 1 (.bool true)))
  go_enter Try.func7, Try.ntmps7
  go_wp2
  go_end0
  exact ⟨rfl, HS.out, HG.out⟩
theorem num_to (e : Int) (w : World) :
    Calls Try.prog 9 #[.int .i64 e] w fun r w' => r = .returned (.int .i64 e) ∧ w = w' := by
  go_enter Try.func9, Try.ntmps9
  go_wp2
  go_ret
  exact ⟨rfl, rfl⟩
theorem awake_any (w : World) :
    Calls Try.prog 8 #[] w fun e w' => e = .returned (.bool true) ∧ w.grownBy w' none := by
  have CN := hide (num_to 0)
  go_enter Try.func8, Try.ntmps8
  go_wp2_with (first | fail)
  refine (new_any w).mono ?_; rintro e w1 ⟨rfl, r1, g1⟩
  generalize hB : w.heap.size = B at *
  have HL := hide (show w.heap.size ≤ B by omega)
  clear hB
  have R1 := hide r1
  have G1 := hide g1
  clear r1 g1
  go_wp2_with (first | fail)
  refine (read_any B 0 false w1 R1.out).mono ?_; rintro e w2 ⟨rfl, hg⟩
  have R2 := hide (R1.out.grown hg (by simp))
  have G2 := hide (grownBy_trans G1.out hg)
  clear hg R1 G1
  go_wp2_with (first | fail)
  refine (write_any B 0 5 false w2 R2.out).mono ?_; rintro e w3 ⟨rfl, r3, hg⟩
  have R3 := hide r3
  have G3 := hide (grown_spoil G2.out HL.out hg)
  clear hg r3 R2 G2
  go_wp2_with (first | fail)
  refine (read_any B 5 true w3 R3.out).mono ?_; rintro e w4 ⟨rfl, hg⟩
  have R4 := hide (R3.out.grown hg (by simp))
  have G4 := hide (grownBy_trans G3.out hg)
  clear hg R3 G3
  go_wp2_with (first | fail)
  refine (write_any B 5 6 true w4 R4.out).mono ?_; rintro e w5 ⟨rfl, r5, hg⟩
  have R5 := hide r5
  have G5 := hide (grown_spoil G4.out HL.out hg)
  clear hg r5 R4 G4
  go_wp2_with (first | fail)
  refine (read_any B 6 true w5 R5.out).mono ?_; rintro e w6 ⟨rfl, hg⟩
  have G6 := hide (grownBy_trans G5.out hg)
  clear hg R5 G5
  go_wp2_with (first | (go_at_call 9; refine (CN.out _).mono ?_; rintro e w' ⟨rfl, rfl⟩))
  go_ret
  exact ⟨rfl, G6.out⟩
#print axioms awake_any
end Go.Proofs.Ytedgecioglidlaa
