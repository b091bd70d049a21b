/- Contracts of the readers of an instruction, a task, a window and a port, proved over the translation. -/
import Derived.Test.YtgaegggiehhcpaaDoorRead
namespace Go.Proofs.YtgaegggiehhcpaaDoor
open Go.RowKit
attribute [local go_sem] alloc_drewN setCell_drewN

theorem number_1 (b : Nat) (st : St) (w : World) (h : RAt w b st) : Calls Tryd.prog 63 #[.pointer (some ⟨b, 0, none⟩), .int .i64 1] w fun e w' => e = .returned (.int .i64 (numR 1 st).1) ∧ RAt w' b (numR 1 st).2 ∧ w.grownBy w' (some b) := number_any b 1 (by decide) st w h
theorem number_2 (b : Nat) (st : St) (w : World) (h : RAt w b st) : Calls Tryd.prog 63 #[.pointer (some ⟨b, 0, none⟩), .int .i64 2] w fun e w' => e = .returned (.int .i64 (numR 2 st).1) ∧ RAt w' b (numR 2 st).2 ∧ w.grownBy w' (some b) := number_any b 2 (by decide) st w h
theorem RAt.other {W : World} {b R j : Nat} {st : St} {u : Value} (hne : R ≠ b) (h : RAt W b st) : RAt (W.setCell ⟨R, j, none⟩ u) b st := by
  obtain ⟨h0, s, h1, h2⟩ := h
  exact ⟨h0, s, h1, box_grown h2 (grownBy_set W R j u) (by simp; omega)⟩
theorem grown_set_new {w W : World} {R j : Nat} {r : Option Nat} {u : Value} (hR : w.heap.size ≤ R) (h : w.grownBy W r) : w.grownBy (W.setCell ⟨R, j, none⟩ u) r :=
  ⟨h.os, h.tape, h.output, by simpa [World.setCell] using h.size, fun k hk hn => (Below.heap_setCell _ _ _ _ (by simp; omega)).trans (h.block k hk hn)⟩
theorem blk_cell {W : World} {b t : Nat} {cs : Array Value} (h : W.heap[b]? = some (.cells cs t (0, 0))) (j : Nat) : W.cell? ⟨b, j, none⟩ = cs[j]? := by simp [World.cell?, h]
theorem blk_free {W : World} {b t : Nat} {cs : Array Value} (h : W.heap[b]? = some (.cells cs t (0, 0))) (j : Nat) : W.frozen? ⟨b, j, none⟩ = false := by simp [World.frozen?, h]
theorem grown_alloc_some (w : World) (o : Obj) (r : Option Nat) : w.grownBy (w.alloc o) r := World.grownBy_alloc _ _ _
def insR (st : St) : Ins × St :=
  let r1 := numR 1 st
  let r2 := numR 1 r1.2
  ((r1.1, r2.1), r2.2)
theorem size54 : (Tryd.prog.info? 54).map (·.size) = some 2 := by kernel_rfl
set_option maxRecDepth 100000 in
set_option maxHeartbeats 4000000 in
theorem read_I (b : Nat) (st : St) (w : World) (h : RAt w b st) :
    Calls Tryd.prog 93 #[.pointer (some ⟨b, 0, none⟩)] w fun e w' => e = .returned (.agg #[.int .i64 (insR st).1.1, .int .i64 (insR st).1.2]) ∧ RAt w' b (insR st).2 ∧ w.grownBy w' (some b) := by
  obtain ⟨r1, e1⟩ : ∃ r, r = numR 1 st := ⟨_, rfl⟩
  have C1 := hide (fun W (h : RAt W b st) => show Calls Tryd.prog 63 #[.pointer (some ⟨b, 0, none⟩), .int .i64 1] W fun e w' => e = .returned (.int .i64 r1.1) ∧ RAt w' b r1.2 ∧ W.grownBy w' (some b) by rw [e1]; exact number_1 b _ W h)
  obtain ⟨r2, e2⟩ : ∃ r, r = numR 1 r1.2 := ⟨_, rfl⟩
  have C2 := hide (fun W (h : RAt W b r1.2) => show Calls Tryd.prog 63 #[.pointer (some ⟨b, 0, none⟩), .int .i64 1] W fun e w' => e = .returned (.int .i64 r2.1) ∧ RAt w' b r2.2 ∧ W.grownBy w' (some b) by rw [e2]; exact number_1 b _ W h)
  have hF : insR st = ((r1.1, r2.1), r2.2) := by rw [e2, e1]; rfl
  rw [hF]
  clear hF e1 e2
  dsimp only
  have hbl := h.lt
  have hbn : w.heap.size ≠ b := by omega
  have G0 := hide (grown_alloc_some w (.cells #[.int .i64 0, .int .i64 0] 54) (some b))
  have R0 := hide ((h.grown (World.grownBy_alloc w (.cells #[.int .i64 0, .int .i64 0] 54) none)).grown (drew_grown _))
  have B0 := hide (heap_alloc_new w (.cells #[.int .i64 0, .int .i64 0] 54))
  have G0d := hide (grownBy_trans G0.out (grownBy_any (drew_grown (w.alloc (.cells #[.int .i64 0, .int .i64 0] 54)))))
  clear h
  go_enter Tryd.func93, Tryd.ntmps93
  go_wp2
  go_region_held3 (fun _ => True) (trivial) (first | (go_at_call 63; refine (C2.out _ R1.out).mono ?_; rintro e w2 ⟨rfl, hr, hg⟩; have R2 := hide hr; have G2 := hide (grownBy_trans G1.out hg); have B2 := hide ((hg.block w.heap.size (box_lt B1.out) (by simp; omega)).trans B1.out); clear hr hg; have k0 : w2.cell? ⟨w.heap.size, 0, none⟩ = some (.int .i64 0) := blk_cell B2.out 0; have k1 : w2.cell? ⟨w.heap.size, 1, none⟩ = some (.int .i64 0) := blk_cell B2.out 1; have kf : ∀ j, w2.frozen? ⟨w.heap.size, j, none⟩ = false := blk_free B2.out) | (go_at_call 63; refine (C1.out _ R0.out).mono ?_; rintro e w1 ⟨rfl, hr, hg⟩; have R1 := hide hr; have G1 := hide (grownBy_trans G0d.out hg); have B1 := hide ((hg.block w.heap.size (by simp) (by simp; omega)).trans B0.out); clear hr hg))
  all_goals
    go_wp2
    (try simp only [Exit.inBlock, Exit.then])
    refine bodyPost_ret (results_cell_row rfl _ _ w.heap.size 54 #[.int .i64 r1.1, .int .i64 r2.1] (0, 0) _ rfl (by simp [World.setCell, Array.getElem?_modify, B2.out]) Tryd.underlying54 rfl size54) rfl ?_
    refine ⟨rfl, ?_, ?_⟩
    · repeat refine RAt.other hbn ?_
      exact R2.out
    · repeat refine grown_set_new (Nat.le_refl _) ?_
      exact G2.out

def taskR (st : St) : TaskV × St :=
  let r1 := numR 1 st
  let r2 := numR 2 r1.2
  let r3 := numR 2 r2.2
  let r4 := numR 2 r3.2
  let r5 := numR 2 r4.2
  let r6 := numR 1 r5.2
  (⟨r1.1, r2.1, r3.1, r4.1, r5.1, r6.1⟩, r6.2)
theorem size52 : (Tryd.prog.info? 52).map (·.size) = some 6 := by kernel_rfl
set_option maxRecDepth 100000 in
set_option maxHeartbeats 4000000 in
theorem read_T (b : Nat) (st : St) (w : World) (h : RAt w b st) :
    Calls Tryd.prog 91 #[.pointer (some ⟨b, 0, none⟩)] w fun e w' => e = .returned (.agg #[.int .i64 (taskR st).1.kind, .int .i64 (taskR st).1.period, .int .i64 (taskR st).1.deadline, .int .i64 (taskR st).1.clow, .int .i64 (taskR st).1.chigh, .int .i64 (taskR st).1.prio]) ∧ RAt w' b (taskR st).2 ∧ w.grownBy w' (some b) := by
  obtain ⟨r1, e1⟩ : ∃ r, r = numR 1 st := ⟨_, rfl⟩
  have C1 := hide (fun W (h : RAt W b st) => show Calls Tryd.prog 63 #[.pointer (some ⟨b, 0, none⟩), .int .i64 1] W fun e w' => e = .returned (.int .i64 r1.1) ∧ RAt w' b r1.2 ∧ W.grownBy w' (some b) by rw [e1]; exact number_1 b _ W h)
  obtain ⟨r2, e2⟩ : ∃ r, r = numR 2 r1.2 := ⟨_, rfl⟩
  have C2 := hide (fun W (h : RAt W b r1.2) => show Calls Tryd.prog 63 #[.pointer (some ⟨b, 0, none⟩), .int .i64 2] W fun e w' => e = .returned (.int .i64 r2.1) ∧ RAt w' b r2.2 ∧ W.grownBy w' (some b) by rw [e2]; exact number_2 b _ W h)
  obtain ⟨r3, e3⟩ : ∃ r, r = numR 2 r2.2 := ⟨_, rfl⟩
  have C3 := hide (fun W (h : RAt W b r2.2) => show Calls Tryd.prog 63 #[.pointer (some ⟨b, 0, none⟩), .int .i64 2] W fun e w' => e = .returned (.int .i64 r3.1) ∧ RAt w' b r3.2 ∧ W.grownBy w' (some b) by rw [e3]; exact number_2 b _ W h)
  obtain ⟨r4, e4⟩ : ∃ r, r = numR 2 r3.2 := ⟨_, rfl⟩
  have C4 := hide (fun W (h : RAt W b r3.2) => show Calls Tryd.prog 63 #[.pointer (some ⟨b, 0, none⟩), .int .i64 2] W fun e w' => e = .returned (.int .i64 r4.1) ∧ RAt w' b r4.2 ∧ W.grownBy w' (some b) by rw [e4]; exact number_2 b _ W h)
  obtain ⟨r5, e5⟩ : ∃ r, r = numR 2 r4.2 := ⟨_, rfl⟩
  have C5 := hide (fun W (h : RAt W b r4.2) => show Calls Tryd.prog 63 #[.pointer (some ⟨b, 0, none⟩), .int .i64 2] W fun e w' => e = .returned (.int .i64 r5.1) ∧ RAt w' b r5.2 ∧ W.grownBy w' (some b) by rw [e5]; exact number_2 b _ W h)
  obtain ⟨r6, e6⟩ : ∃ r, r = numR 1 r5.2 := ⟨_, rfl⟩
  have C6 := hide (fun W (h : RAt W b r5.2) => show Calls Tryd.prog 63 #[.pointer (some ⟨b, 0, none⟩), .int .i64 1] W fun e w' => e = .returned (.int .i64 r6.1) ∧ RAt w' b r6.2 ∧ W.grownBy w' (some b) by rw [e6]; exact number_1 b _ W h)
  have hF : taskR st = (⟨r1.1, r2.1, r3.1, r4.1, r5.1, r6.1⟩, r6.2) := by rw [e6, e5, e4, e3, e2, e1]; rfl
  rw [hF]
  clear hF e1 e2 e3 e4 e5 e6
  dsimp only
  have hbl := h.lt
  have hbn : w.heap.size ≠ b := by omega
  have G0 := hide (grown_alloc_some w (.cells #[.int .i64 0, .int .i64 0, .int .i64 0, .int .i64 0, .int .i64 0, .int .i64 0] 52) (some b))
  have R0 := hide ((h.grown (World.grownBy_alloc w (.cells #[.int .i64 0, .int .i64 0, .int .i64 0, .int .i64 0, .int .i64 0, .int .i64 0] 52) none)).grown (drew_grown _))
  have B0 := hide (heap_alloc_new w (.cells #[.int .i64 0, .int .i64 0, .int .i64 0, .int .i64 0, .int .i64 0, .int .i64 0] 52))
  have G0d := hide (grownBy_trans G0.out (grownBy_any (drew_grown (w.alloc (.cells #[.int .i64 0, .int .i64 0, .int .i64 0, .int .i64 0, .int .i64 0, .int .i64 0] 52)))))
  clear h
  go_enter Tryd.func91, Tryd.ntmps91
  go_wp2
  go_region_held3 (fun _ => True) (trivial) (first | (go_at_call 63; refine (C6.out _ R5.out).mono ?_; rintro e w6 ⟨rfl, hr, hg⟩; have R6 := hide hr; have G6 := hide (grownBy_trans G5.out hg); have B6 := hide ((hg.block w.heap.size (box_lt B5.out) (by simp; omega)).trans B5.out); clear hr hg; have k0 : w6.cell? ⟨w.heap.size, 0, none⟩ = some (.int .i64 0) := blk_cell B6.out 0; have k1 : w6.cell? ⟨w.heap.size, 1, none⟩ = some (.int .i64 0) := blk_cell B6.out 1; have k2 : w6.cell? ⟨w.heap.size, 2, none⟩ = some (.int .i64 0) := blk_cell B6.out 2; have k3 : w6.cell? ⟨w.heap.size, 3, none⟩ = some (.int .i64 0) := blk_cell B6.out 3; have k4 : w6.cell? ⟨w.heap.size, 4, none⟩ = some (.int .i64 0) := blk_cell B6.out 4; have k5 : w6.cell? ⟨w.heap.size, 5, none⟩ = some (.int .i64 0) := blk_cell B6.out 5; have kf : ∀ j, w6.frozen? ⟨w.heap.size, j, none⟩ = false := blk_free B6.out) | (go_at_call 63; refine (C5.out _ R4.out).mono ?_; rintro e w5 ⟨rfl, hr, hg⟩; have R5 := hide hr; have G5 := hide (grownBy_trans G4.out hg); have B5 := hide ((hg.block w.heap.size (box_lt B4.out) (by simp; omega)).trans B4.out); clear hr hg) | (go_at_call 63; refine (C4.out _ R3.out).mono ?_; rintro e w4 ⟨rfl, hr, hg⟩; have R4 := hide hr; have G4 := hide (grownBy_trans G3.out hg); have B4 := hide ((hg.block w.heap.size (box_lt B3.out) (by simp; omega)).trans B3.out); clear hr hg) | (go_at_call 63; refine (C3.out _ R2.out).mono ?_; rintro e w3 ⟨rfl, hr, hg⟩; have R3 := hide hr; have G3 := hide (grownBy_trans G2.out hg); have B3 := hide ((hg.block w.heap.size (box_lt B2.out) (by simp; omega)).trans B2.out); clear hr hg) | (go_at_call 63; refine (C2.out _ R1.out).mono ?_; rintro e w2 ⟨rfl, hr, hg⟩; have R2 := hide hr; have G2 := hide (grownBy_trans G1.out hg); have B2 := hide ((hg.block w.heap.size (box_lt B1.out) (by simp; omega)).trans B1.out); clear hr hg) | (go_at_call 63; refine (C1.out _ R0.out).mono ?_; rintro e w1 ⟨rfl, hr, hg⟩; have R1 := hide hr; have G1 := hide (grownBy_trans G0d.out hg); have B1 := hide ((hg.block w.heap.size (by simp) (by simp; omega)).trans B0.out); clear hr hg))
  all_goals
    go_wp2
    (try simp only [Exit.inBlock, Exit.then])
    refine bodyPost_ret (results_cell_row rfl _ _ w.heap.size 52 #[.int .i64 r1.1, .int .i64 r2.1, .int .i64 r3.1, .int .i64 r4.1, .int .i64 r5.1, .int .i64 r6.1] (0, 0) _ rfl (by simp [World.setCell, Array.getElem?_modify, B6.out]) Tryd.underlying52 rfl size52) rfl ?_
    refine ⟨rfl, ?_, ?_⟩
    · repeat refine RAt.other hbn ?_
      exact R6.out
    · repeat refine grown_set_new (Nat.le_refl _) ?_
      exact G6.out

def winR (st : St) : WinV × St :=
  let r1 := numR 2 st
  let r2 := numR 2 r1.2
  let r3 := numR 1 r2.2
  (⟨r1.1, r2.1, r3.1⟩, r3.2)
theorem size59 : (Tryd.prog.info? 59).map (·.size) = some 3 := by kernel_rfl
set_option maxRecDepth 100000 in
set_option maxHeartbeats 4000000 in
theorem read_W (b : Nat) (st : St) (w : World) (h : RAt w b st) :
    Calls Tryd.prog 67 #[.pointer (some ⟨b, 0, none⟩)] w fun e w' => e = .returned (.agg #[.int .i64 (winR st).1.fr, .int .i64 (winR st).1.til, .int .i64 (winR st).1.part]) ∧ RAt w' b (winR st).2 ∧ w.grownBy w' (some b) := by
  obtain ⟨r1, e1⟩ : ∃ r, r = numR 2 st := ⟨_, rfl⟩
  have C1 := hide (fun W (h : RAt W b st) => show Calls Tryd.prog 63 #[.pointer (some ⟨b, 0, none⟩), .int .i64 2] W fun e w' => e = .returned (.int .i64 r1.1) ∧ RAt w' b r1.2 ∧ W.grownBy w' (some b) by rw [e1]; exact number_2 b _ W h)
  obtain ⟨r2, e2⟩ : ∃ r, r = numR 2 r1.2 := ⟨_, rfl⟩
  have C2 := hide (fun W (h : RAt W b r1.2) => show Calls Tryd.prog 63 #[.pointer (some ⟨b, 0, none⟩), .int .i64 2] W fun e w' => e = .returned (.int .i64 r2.1) ∧ RAt w' b r2.2 ∧ W.grownBy w' (some b) by rw [e2]; exact number_2 b _ W h)
  obtain ⟨r3, e3⟩ : ∃ r, r = numR 1 r2.2 := ⟨_, rfl⟩
  have C3 := hide (fun W (h : RAt W b r2.2) => show Calls Tryd.prog 63 #[.pointer (some ⟨b, 0, none⟩), .int .i64 1] W fun e w' => e = .returned (.int .i64 r3.1) ∧ RAt w' b r3.2 ∧ W.grownBy w' (some b) by rw [e3]; exact number_1 b _ W h)
  have hF : winR st = (⟨r1.1, r2.1, r3.1⟩, r3.2) := by rw [e3, e2, e1]; rfl
  rw [hF]
  clear hF e1 e2 e3
  dsimp only
  have hbl := h.lt
  have hbn : w.heap.size ≠ b := by omega
  have G0 := hide (grown_alloc_some w (.cells #[.int .i64 0, .int .i64 0, .int .i64 0] 59) (some b))
  have R0 := hide ((h.grown (World.grownBy_alloc w (.cells #[.int .i64 0, .int .i64 0, .int .i64 0] 59) none)).grown (drew_grown _))
  have B0 := hide (heap_alloc_new w (.cells #[.int .i64 0, .int .i64 0, .int .i64 0] 59))
  have G0d := hide (grownBy_trans G0.out (grownBy_any (drew_grown (w.alloc (.cells #[.int .i64 0, .int .i64 0, .int .i64 0] 59)))))
  clear h
  go_enter Tryd.func67, Tryd.ntmps67
  go_wp2
  go_region_held3 (fun _ => True) (trivial) (first | (go_at_call 63; refine (C3.out _ R2.out).mono ?_; rintro e w3 ⟨rfl, hr, hg⟩; have R3 := hide hr; have G3 := hide (grownBy_trans G2.out hg); have B3 := hide ((hg.block w.heap.size (box_lt B2.out) (by simp; omega)).trans B2.out); clear hr hg; have k0 : w3.cell? ⟨w.heap.size, 0, none⟩ = some (.int .i64 0) := blk_cell B3.out 0; have k1 : w3.cell? ⟨w.heap.size, 1, none⟩ = some (.int .i64 0) := blk_cell B3.out 1; have k2 : w3.cell? ⟨w.heap.size, 2, none⟩ = some (.int .i64 0) := blk_cell B3.out 2; have kf : ∀ j, w3.frozen? ⟨w.heap.size, j, none⟩ = false := blk_free B3.out) | (go_at_call 63; refine (C2.out _ R1.out).mono ?_; rintro e w2 ⟨rfl, hr, hg⟩; have R2 := hide hr; have G2 := hide (grownBy_trans G1.out hg); have B2 := hide ((hg.block w.heap.size (box_lt B1.out) (by simp; omega)).trans B1.out); clear hr hg) | (go_at_call 63; refine (C1.out _ R0.out).mono ?_; rintro e w1 ⟨rfl, hr, hg⟩; have R1 := hide hr; have G1 := hide (grownBy_trans G0d.out hg); have B1 := hide ((hg.block w.heap.size (by simp) (by simp; omega)).trans B0.out); clear hr hg))
  all_goals
    go_wp2
    (try simp only [Exit.inBlock, Exit.then])
    refine bodyPost_ret (results_cell_row rfl _ _ w.heap.size 59 #[.int .i64 r1.1, .int .i64 r2.1, .int .i64 r3.1] (0, 0) _ rfl (by simp [World.setCell, Array.getElem?_modify, B3.out]) Tryd.underlying59 rfl size59) rfl ?_
    refine ⟨rfl, ?_, ?_⟩
    · repeat refine RAt.other hbn ?_
      exact R3.out
    · repeat refine grown_set_new (Nat.le_refl _) ?_
      exact G3.out

def portR (st : St) : PortV × St :=
  let r1 := numR 1 st
  let r2 := numR 1 r1.2
  let r3 := numR 1 r2.2
  let r4 := numR 1 r3.2
  (⟨r1.1, r2.1, r3.1, r4.1⟩, r4.2)
theorem size57 : (Tryd.prog.info? 57).map (·.size) = some 4 := by kernel_rfl
set_option maxRecDepth 100000 in
set_option maxHeartbeats 4000000 in
theorem read_O (b : Nat) (st : St) (w : World) (h : RAt w b st) :
    Calls Tryd.prog 69 #[.pointer (some ⟨b, 0, none⟩)] w fun e w' => e = .returned (.agg #[.int .i64 (portR st).1.kind, .int .i64 (portR st).1.fr, .int .i64 (portR st).1.til, .int .i64 (portR st).1.size]) ∧ RAt w' b (portR st).2 ∧ w.grownBy w' (some b) := by
  obtain ⟨r1, e1⟩ : ∃ r, r = numR 1 st := ⟨_, rfl⟩
  have C1 := hide (fun W (h : RAt W b st) => show Calls Tryd.prog 63 #[.pointer (some ⟨b, 0, none⟩), .int .i64 1] W fun e w' => e = .returned (.int .i64 r1.1) ∧ RAt w' b r1.2 ∧ W.grownBy w' (some b) by rw [e1]; exact number_1 b _ W h)
  obtain ⟨r2, e2⟩ : ∃ r, r = numR 1 r1.2 := ⟨_, rfl⟩
  have C2 := hide (fun W (h : RAt W b r1.2) => show Calls Tryd.prog 63 #[.pointer (some ⟨b, 0, none⟩), .int .i64 1] W fun e w' => e = .returned (.int .i64 r2.1) ∧ RAt w' b r2.2 ∧ W.grownBy w' (some b) by rw [e2]; exact number_1 b _ W h)
  obtain ⟨r3, e3⟩ : ∃ r, r = numR 1 r2.2 := ⟨_, rfl⟩
  have C3 := hide (fun W (h : RAt W b r2.2) => show Calls Tryd.prog 63 #[.pointer (some ⟨b, 0, none⟩), .int .i64 1] W fun e w' => e = .returned (.int .i64 r3.1) ∧ RAt w' b r3.2 ∧ W.grownBy w' (some b) by rw [e3]; exact number_1 b _ W h)
  obtain ⟨r4, e4⟩ : ∃ r, r = numR 1 r3.2 := ⟨_, rfl⟩
  have C4 := hide (fun W (h : RAt W b r3.2) => show Calls Tryd.prog 63 #[.pointer (some ⟨b, 0, none⟩), .int .i64 1] W fun e w' => e = .returned (.int .i64 r4.1) ∧ RAt w' b r4.2 ∧ W.grownBy w' (some b) by rw [e4]; exact number_1 b _ W h)
  have hF : portR st = (⟨r1.1, r2.1, r3.1, r4.1⟩, r4.2) := by rw [e4, e3, e2, e1]; rfl
  rw [hF]
  clear hF e1 e2 e3 e4
  dsimp only
  have hbl := h.lt
  have hbn : w.heap.size ≠ b := by omega
  have G0 := hide (grown_alloc_some w (.cells #[.int .i64 0, .int .i64 0, .int .i64 0, .int .i64 0] 57) (some b))
  have R0 := hide ((h.grown (World.grownBy_alloc w (.cells #[.int .i64 0, .int .i64 0, .int .i64 0, .int .i64 0] 57) none)).grown (drew_grown _))
  have B0 := hide (heap_alloc_new w (.cells #[.int .i64 0, .int .i64 0, .int .i64 0, .int .i64 0] 57))
  have G0d := hide (grownBy_trans G0.out (grownBy_any (drew_grown (w.alloc (.cells #[.int .i64 0, .int .i64 0, .int .i64 0, .int .i64 0] 57)))))
  clear h
  go_enter Tryd.func69, Tryd.ntmps69
  go_wp2
  go_region_held3 (fun _ => True) (trivial) (first | (go_at_call 63; refine (C4.out _ R3.out).mono ?_; rintro e w4 ⟨rfl, hr, hg⟩; have R4 := hide hr; have G4 := hide (grownBy_trans G3.out hg); have B4 := hide ((hg.block w.heap.size (box_lt B3.out) (by simp; omega)).trans B3.out); clear hr hg; have k0 : w4.cell? ⟨w.heap.size, 0, none⟩ = some (.int .i64 0) := blk_cell B4.out 0; have k1 : w4.cell? ⟨w.heap.size, 1, none⟩ = some (.int .i64 0) := blk_cell B4.out 1; have k2 : w4.cell? ⟨w.heap.size, 2, none⟩ = some (.int .i64 0) := blk_cell B4.out 2; have k3 : w4.cell? ⟨w.heap.size, 3, none⟩ = some (.int .i64 0) := blk_cell B4.out 3; have kf : ∀ j, w4.frozen? ⟨w.heap.size, j, none⟩ = false := blk_free B4.out) | (go_at_call 63; refine (C3.out _ R2.out).mono ?_; rintro e w3 ⟨rfl, hr, hg⟩; have R3 := hide hr; have G3 := hide (grownBy_trans G2.out hg); have B3 := hide ((hg.block w.heap.size (box_lt B2.out) (by simp; omega)).trans B2.out); clear hr hg) | (go_at_call 63; refine (C2.out _ R1.out).mono ?_; rintro e w2 ⟨rfl, hr, hg⟩; have R2 := hide hr; have G2 := hide (grownBy_trans G1.out hg); have B2 := hide ((hg.block w.heap.size (box_lt B1.out) (by simp; omega)).trans B1.out); clear hr hg) | (go_at_call 63; refine (C1.out _ R0.out).mono ?_; rintro e w1 ⟨rfl, hr, hg⟩; have R1 := hide hr; have G1 := hide (grownBy_trans G0d.out hg); have B1 := hide ((hg.block w.heap.size (by simp) (by simp; omega)).trans B0.out); clear hr hg))
  all_goals
    go_wp2
    (try simp only [Exit.inBlock, Exit.then])
    refine bodyPost_ret (results_cell_row rfl _ _ w.heap.size 57 #[.int .i64 r1.1, .int .i64 r2.1, .int .i64 r3.1, .int .i64 r4.1] (0, 0) _ rfl (by simp [World.setCell, Array.getElem?_modify, B4.out]) Tryd.underlying57 rfl size57) rfl ?_
    refine ⟨rfl, ?_, ?_⟩
    · repeat refine RAt.other hbn ?_
      exact R4.out
    · repeat refine grown_set_new (Nat.le_refl _) ?_
      exact G4.out


#print axioms read_O
end Go.Proofs.YtgaegggiehhcpaaDoor
