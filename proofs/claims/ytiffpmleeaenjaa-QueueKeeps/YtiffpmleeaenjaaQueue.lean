/- Contracts of package queuing: New, Write, Read, Len, over the ring that a queue embeds; the document's NewQueue; the statements' own Num and awake. -/
import Derived.Test.YtiffpmleeaenjaaRef
namespace Go.Proofs.Ytiffpmleeaenjaa
open Go.RowKit
attribute [local go_sem] alloc_drewN setCell_drewN

/-- A queue at block b + 1, the ring of which lies at block b: its size, and the row. -/
structure QAt (W : World) (b k : Nat) (row : List Int) : Prop where
  ring : RingAt W b k row
  box : W.heap[b + 1]? = some (.cells #[.pointer (some ⟨b, 0, none⟩)] 45 (0, 0))
theorem QAt.lt {W : World} {b k : Nat} {row : List Int} (h : QAt W b k row) : b + 1 < W.heap.size := box_lt h.box
theorem QAt.grown {W W' : World} {b k : Nat} {row : List Int} (h : QAt W b k row) {r : Option Nat} (hg : W.grownBy W' r) (h1 : some b ≠ r) (h2 : r ≠ some (b + 1)) : QAt W' b k row := ⟨h.ring.grown hg h1, box_grown h.box hg h2⟩
theorem QAt.below {W W' : World} {b k B : Nat} {row : List Int} (h : QAt W b k row) (hg : Below B W W') (hb : b + 1 < B) : QAt W' b k row := ⟨h.ring.below hg (by omega), (hg.block (b + 1) hb).trans h.box⟩

theorem num_to (e : Int) (w : World) :
    Calls Try.prog 7 #[.int .i64 e] w fun r w' => r = .returned (.int .i64 e) ∧ w = w' := by
  go_enter Try.func7, Try.ntmps7
  go_wp2
  go_ret
  exact ⟨rfl, rfl⟩
theorem qnew_no (l : Int) (h : l < 1 ∨ 8 < l) (w : World) :
    Calls Try.prog 5 #[.int .i64 l] w fun e w' => e = .returned (.tuple #[.pointer none, .int .i64 1600]) ∧ w = w' := by
  rcases h with h | h
  · go_enter Try.func5, Try.ntmps5
    go_wp2
    go_ret2
    exact ⟨rfl, rfl⟩
  · have h' : 1 ≤ l := by omega
    go_enter Try.func5, Try.ntmps5
    go_wp2
    go_ret2
    exact ⟨rfl, rfl⟩
theorem qnew_ok (k : Nat) (h : 1 ≤ k) (h' : k ≤ 8) (w : World) :
    Calls Try.prog 5 #[.int .i64 k] w fun e w' => e = .returned (.tuple #[.pointer (some ⟨w.heap.size + 1, 0, none⟩), .int .i64 0]) ∧ QAt w' w.heap.size k [] ∧ w.grownBy w' none ∧ w'.heap.size = w.heap.size + 2 := by
  have C := hide (new_ring k h (by omega) w)
  go_enter Try.func5, Try.ntmps5
  go_wp2_with (first | fail)
  refine C.out.mono ?_; rintro e w1 ⟨rfl, r1, g1, s1⟩
  have HQ := hide (World.grownBy_alloc w1 (.cells #[.pointer (some ⟨w.heap.size, 0, none⟩)] 45) none)
  have HA := hide (heap_alloc_new w1 (.cells #[.pointer (some ⟨w.heap.size, 0, none⟩)] 45))
  have R1 := hide r1
  have G1 := hide g1
  have S1 := hide s1
  clear r1 g1
  rw [s1] at HA
  go_wp2
  go_ret2
  refine ⟨rfl, ⟨R1.out.grown HQ.out (by simp), HA.out⟩, grownBy_trans G1.out HQ.out, by simp [S1.out]⟩
theorem write_any (b k : Nat) (row : List Int) (x : Int) (hk : 0 < k) (w : World) (h : QAt w b k row) :
    Calls Try.prog 10 #[.pointer (some ⟨b + 1, 0, none⟩), .int .i64 x] w fun e w' => e = .returned (.bool (pushIs k row)) ∧ QAt w' b k (pushed k row x) ∧ w.grownBy w' (some b) ∧ w'.heap.size = w.heap.size := by
  have c0 := blk_cell h.box 0
  simp only [List.getElem?_toArray, List.getElem?_cons_zero] at c0
  have C := hide (push_any b k row x hk w h.ring)
  have HX := hide h.box
  clear h
  go_enter Try.func10, Try.ntmps10
  go_wp2_with (first | fail)
  refine C.out.mono ?_; rintro e w1 ⟨rfl, r1, g1, s1⟩
  have HB := hide (box_grown HX.out g1 (by simp))
  clear c0 HX
  go_wp2
  go_ret
  exact ⟨rfl, ⟨r1, HB.out⟩, g1, s1⟩
theorem read_any (b k : Nat) (row : List Int) (w : World) (h : QAt w b k row) :
    Calls Try.prog 11 #[.pointer (some ⟨b + 1, 0, none⟩)] w fun e w' => e = .returned (.tuple #[.int .i64 (popOut row), .bool (popIs row)]) ∧ QAt w' b k (popped row) ∧ w.grownBy w' (some b) ∧ w'.heap.size = w.heap.size := by
  have c0 := blk_cell h.box 0
  simp only [List.getElem?_toArray, List.getElem?_cons_zero] at c0
  have C := hide (pop_any b k row w h.ring)
  have HX := hide h.box
  clear h
  go_enter Try.func11, Try.ntmps11
  go_wp2_with (first | fail)
  refine C.out.mono ?_; rintro e w1 ⟨rfl, r1, g1, s1⟩
  have HB := hide (box_grown HX.out g1 (by simp))
  clear c0 HX
  go_wp2
  go_ret2
  exact ⟨rfl, ⟨r1, HB.out⟩, g1, s1⟩
theorem len_any (b k : Nat) (row : List Int) (n : Nat) (hn : row.length = n) (w : World) (h : QAt w b k row) :
    Calls Try.prog 13 #[.pointer (some ⟨b + 1, 0, none⟩)] w fun e w' => e = .returned (.int .i64 n) ∧ w.grownBy w' none := by
  have c0 := blk_cell h.box 0
  simp only [List.getElem?_toArray, List.getElem?_cons_zero] at c0
  have C := all_any b k row w h.ring
  rw [hn] at C
  have C := hide C
  clear h hn
  go_enter Try.func13, Try.ntmps13
  go_wp2_with (first | fail)
  refine C.out.mono ?_; rintro e w1 ⟨rfl, -, g1⟩
  clear c0
  go_wp2
  go_ret
  exact ⟨rfl, g1⟩
theorem rqnew_no (l : Int) (h : l < 1 ∨ 8 < l) (w : World) :
    Calls Try.prog 6 #[.int .i64 l] w fun e w' => e = .returned (.tuple #[.pointer none, .int .i64 1600]) ∧ w = w' := by
  rcases h with h | h
  · go_enter Try.func6, Try.ntmps6
    go_wp2
    go_ret2
    exact ⟨rfl, rfl⟩
  · have h' : 1 ≤ l := by omega
    go_enter Try.func6, Try.ntmps6
    go_wp2
    go_ret2
    exact ⟨rfl, rfl⟩
theorem rqnew_ok (l : Nat) (h : 1 ≤ l) (h' : l ≤ 8) (w : World) :
    Calls Try.prog 6 #[.int .i64 l] w fun e w' => e = .returned (.tuple #[.pointer (some ⟨w.heap.size, 0, none⟩), .int .i64 0]) ∧ RefAt w' w.heap.size l [] (.slice none 0 0) ∧ w.grownBy w' none ∧ w'.heap.size = w.heap.size + 1 := by
  have C := hide (rnew_ok l h (by omega) w)
  go_enter Try.func6, Try.ntmps6
  go_wp2_with (first | fail)
  refine C.out.mono ?_; rintro e w1 ⟨rfl, r1, g1, s1⟩
  go_wp2
  go_ret2
  exact ⟨rfl, r1, g1, s1⟩

theorem write56 (b : Nat) (w : World) (h : QAt w b 2 [5]) :
    Calls Try.prog 10 #[.pointer (some ⟨b + 1, 0, none⟩), .int .i64 6] w fun e w' => e = .returned (.bool false) ∧ QAt w' b 2 [5, 6] ∧ w.grownBy w' (some b) ∧ w'.heap.size = w.heap.size :=
  write_any b 2 [5] 6 (by omega) w h
theorem write5 (b : Nat) (w : World) (h : QAt w b 2 []) :
    Calls Try.prog 10 #[.pointer (some ⟨b + 1, 0, none⟩), .int .i64 5] w fun e w' => e = .returned (.bool false) ∧ QAt w' b 2 [5] ∧ w.grownBy w' (some b) ∧ w'.heap.size = w.heap.size :=
  write_any b 2 [] 5 (by omega) w h
theorem write567 (b : Nat) (w : World) (h : QAt w b 2 [5, 6]) :
    Calls Try.prog 10 #[.pointer (some ⟨b + 1, 0, none⟩), .int .i64 7] w fun e w' => e = .returned (.bool true) ∧ QAt w' b 2 [6, 7] ∧ w.grownBy w' (some b) ∧ w'.heap.size = w.heap.size :=
  write_any b 2 [5, 6] 7 (by omega) w h
theorem read67 (b : Nat) (w : World) (h : QAt w b 2 [6, 7]) :
    Calls Try.prog 11 #[.pointer (some ⟨b + 1, 0, none⟩)] w fun e w' => e = .returned (.tuple #[.int .i64 6, .bool true]) ∧ QAt w' b 2 [7] ∧ w.grownBy w' (some b) ∧ w'.heap.size = w.heap.size :=
  read_any b 2 [6, 7] w h

theorem awake_any (w : World) :
    Calls Try.prog 8 #[] w fun e w' => e = .returned (.bool true) ∧ w.grownBy w' none := by
  have CN := hide num_to
  go_enter Try.func8, Try.ntmps8
  go_wp2_with (first | fail)
  refine (qnew_ok 2 (by omega) (by omega) w).mono ?_; rintro e w1 ⟨rfl, r1, g1, -⟩
  generalize hB : w.heap.size = B at *
  have HL := hide (show w.heap.size ≤ B by omega)
  clear hB
  have R1 := hide r1
  have G1 := hide g1
  clear r1 g1
  go_wp2_with (first | fail)
  refine (qnew_no 9 (by omega) w1).mono ?_; rintro e w' ⟨rfl, rfl⟩
  go_wp2_with (first | (go_at_call 7; refine (CN.out _ _).mono ?_; rintro e w' ⟨rfl, rfl⟩))
  refine (write5 B w1 R1.out).mono ?_; rintro e w2 ⟨rfl, r2, hg, -⟩
  have R2 := hide r2
  have G2 := hide (grown_spoil G1.out HL.out hg)
  clear hg r2 R1 G1
  go_wp2_with (first | fail)
  refine (write56 B w2 R2.out).mono ?_; rintro e w3 ⟨rfl, r3, hg, -⟩
  have R3 := hide r3
  have G3 := hide (grown_spoil G2.out HL.out hg)
  clear hg r3 R2 G2
  go_wp2_with (first | fail)
  refine (write567 B w3 R3.out).mono ?_; rintro e w4 ⟨rfl, r4, hg, -⟩
  have R4 := hide r4
  have G4 := hide (grown_spoil G3.out HL.out hg)
  clear hg r4 R3 G3
  go_wp2_with (first | fail)
  refine (read67 B w4 R4.out).mono ?_; rintro e w5 ⟨rfl, r5, hg, -⟩
  have R5 := hide r5
  have G5 := hide (grown_spoil G4.out HL.out hg)
  clear hg r5 R4 G4
  have CL := hide (len_any B 2 [7] 1 rfl w5 R5.out)
  go_wp2_with (first | (go_at_call 7; refine (CN.out _ _).mono ?_; rintro e w' ⟨rfl, rfl⟩) | (go_at_call 13; refine CL.out.mono ?_; rintro e w6 ⟨rfl, hg⟩))
  go_ret
  exact ⟨rfl, grownBy_trans G5.out hg⟩
#print axioms awake_any
end Go.Proofs.Ytiffpmleeaenjaa
