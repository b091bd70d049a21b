/- Contracts of the two budgets, their method, and what may be charged, proved over the translation. -/
import Derived.Test.YtlppfocoonnpjaaGreatDoorJRow
import Derived.Test.YtlppfocoonnpjaaGreatDoorTaskMay
import Derived.Test.YtlppfocoonnpjaaGreatDoorQb
namespace Go.Proofs.YtlppfocoonnpjaaGreatDoor.J
open Go.RowKit
attribute [local go_sem] alloc_drewN setCell_drewN

theorem hoped_any (t : TaskV) (w : World) : Calls Tryz.prog 72 #[taskVal t] w fun e w' => e = .returned (.int .i64 t.clow) ∧ w.grownBy w' none := by
  obtain ⟨x0, x1, x2, x3, x4, x5⟩ := t
  dsimp only [taskVal]
  go_enter Tryz.func72, Tryz.ntmps72
  go_wp2
  go_ret
  exact ⟨rfl, World.grownBy_alloc _ _ _⟩
theorem granted_high (t : TaskV) (w : World) : Calls Tryz.prog 74 #[taskVal t, .int .i64 1] w fun e w' => e = .returned (.int .i64 t.chigh) ∧ w.grownBy w' none := by
  obtain ⟨x0, x1, x2, x3, x4, x5⟩ := t
  dsimp only [taskVal]
  go_enter Tryz.func74, Tryz.ntmps74
  go_wp2
  go_ret
  exact ⟨rfl, World.grownBy_alloc _ _ _⟩
theorem granted_low (t : TaskV) (l : Int) (hl : l ≠ 1) (w : World) : Calls Tryz.prog 74 #[taskVal t, .int .i64 l] w fun e w' => e = .returned (.int .i64 t.clow) ∧ w.grownBy w' none := by
  have C := hide (fun W => hoped_any t W)
  obtain ⟨x0, x1, x2, x3, x4, x5⟩ := t
  dsimp only [taskVal] at *
  go_enter Tryz.func74, Tryz.ntmps74
  go_wp2_with (first | fail)
  refine (C.out _).mono ?_; rintro e w2 ⟨rfl, hg⟩
  have HG := hide (grownBy_trans (World.grownBy_alloc _ _ _) hg)
  clear hg C
  go_wp2
  go_ret
  exact ⟨rfl, HG.out⟩
theorem spent_any (b : Int) (j : JobV) (w : World) : Calls Tryz.prog 73 #[.int .i64 b, jobVal j] w fun e w' => e = .returned (.bool (spentB b j)) ∧ w.grownBy w' none := by
  obtain ⟨x0, x1, x2, x3, x4, x5, x6⟩ := j
  dsimp only [jobVal]
  unfold spentB
  dsimp only
  by_cases h1 : x6 = b
  · subst h1
    rw [decide_eq_true rfl, Bool.true_and]
    by_cases h2 : x6 < x5
    · rw [decide_eq_true h2]
      go_enter Tryz.func73, Tryz.ntmps73
      go_wp2
      go_ret
      exact ⟨rfl, World.grownBy_alloc _ _ _⟩
    · rw [decide_eq_false h2]
      go_enter Tryz.func73, Tryz.ntmps73
      go_wp2
      go_ret
      exact ⟨rfl, World.grownBy_alloc _ _ _⟩
  · rw [decide_eq_false h1, Bool.false_and]
    go_enter Tryz.func73, Tryz.ntmps73
    go_wp2
    go_ret
    exact ⟨rfl, World.grownBy_alloc _ _ _⟩
theorem tmay_any (t : TaskV) (w : World) : Calls Tryz.prog 96 #[taskVal t] w fun e w' => e = .returned (.bool (taskMay t)) ∧ w.grownBy w' none := by
  have C := hide (fun W => task_any t W)
  generalize taskMay t = b at *
  obtain ⟨x0, x1, x2, x3, x4, x5⟩ := t
  dsimp only [taskVal] at *
  go_enter Tryz.func96, Tryz.ntmps96
  go_wp2_with (first | fail)
  refine (C.out _).mono ?_; rintro e w2 ⟨rfl, hg⟩
  have HG := hide (grownBy_trans (World.grownBy_alloc _ _ _) hg)
  clear hg C
  go_wp2
  go_ret
  exact ⟨rfl, HG.out⟩
theorem blk_row {W : World} {b n : Nat} {xs : List JobV} {cs : Array Value} (h : W.heap[b]? = some (.cells cs 70 (0, 0))) (hc : cs = (shJ.cells xs).toArray) (hn : xs.length = n) (hl : xs.length ≤ 9223372036854775807) : RowAt shJ 0 W (.slice (some ⟨b, 0, none⟩) n n) xs := by
  subst hc hn
  refine ⟨hl, _, _, rfl, fun _ => ⟨b, 0, rfl, ⟨Nat.zero_le _, Nat.le_refl _⟩, fun i x hx j u hu => ?_⟩⟩
  have := shJ.cells_get xs i x hx j u hu
  rw [blk_cell h, Nat.zero_add]
  simpa using this
theorem may_one {lo : Nat} (v : Value) (j : JobV) (W : World) (hv : RowAt shJ lo W v [j]) : Calls Tryz.prog 70 #[v] W fun e w' => e = .returned (.bool (jobMay j)) ∧ W.grownBy w' none := by
  rw [← row_one j]; exact may_any v [j] W hv
set_option maxRecDepth 100000 in
set_option maxHeartbeats 4000000 in
theorem cmay_j (j : JobV) (t : TaskV) (l : Int) (w w0 : World) (hg0 : w.grownBy w0 none) (hj : jobMay j = false) :
    Calls Tryz.prog 71 #[jobVal j, taskVal t, .int .i64 l] w0 fun e w' => e = .returned (.bool false) ∧ w.grownBy w' none := by
  have CR := hide (fun v W (hv : RowAt shJ 0 W v [j]) => may_one v j W hv)
  have CT := hide (fun W => tmay_any t W)
  have HG := hide hg0
  rw [hj] at CR
  clear hg0 hj
  obtain ⟨y0, y1, y2, y3, y4, y5, y6⟩ := j
  obtain ⟨x0, x1, x2, x3, x4, x5⟩ := t
  dsimp only [jobVal, taskVal] at *
  go_enter Tryz.func71, Tryz.ntmps71
  go_upto_region 1 with (first | fail)
  have hg := grownBy_trans (World.grownBy_alloc w0 (.cells #[.int .i64 y0, .int .i64 y1, .int .i64 y2, .int .i64 y3, .int .i64 y4, .int .i64 y5, .int .i64 y6] 70) none) (World.grownBy_alloc _ (.cells #[.int .i64 x0, .int .i64 x1, .int .i64 x2, .int .i64 x3, .int .i64 x4, .int .i64 x5] 73) none)
  have HJq := hide (hp_up (heap_alloc_new w0 (.cells #[.int .i64 y0, .int .i64 y1, .int .i64 y2, .int .i64 y3, .int .i64 y4, .int .i64 y5, .int .i64 y6] 70)) (.cells #[.int .i64 x0, .int .i64 x1, .int .i64 x2, .int .i64 x3, .int .i64 x4, .int .i64 x5] 73))
  have HTq := hide (alloc_next w0 (.cells #[.int .i64 y0, .int .i64 y1, .int .i64 y2, .int .i64 y3, .int .i64 y4, .int .i64 y5, .int .i64 y6] 70) (.cells #[.int .i64 x0, .int .i64 x1, .int .i64 x2, .int .i64 x3, .int .i64 x4, .int .i64 x5] 73))
  have LJ := hide HG.out.size
  have LT := hide (show w.heap.size ≤ w0.heap.size + 1 from Nat.le_trans HG.out.size (Nat.le_succ _))
  have HGn := hide (grownBy_trans HG.out hg)
  clear HG
  have HG := HGn
  clear HGn
  clear hg
  have HJ := HJq
  have HT := HTq
  clear HJq HTq
  generalize hWx : (w0.alloc (.cells #[.int .i64 y0, .int .i64 y1, .int .i64 y2, .int .i64 y3, .int .i64 y4, .int .i64 y5, .int .i64 y6] 70)).alloc (.cells #[.int .i64 x0, .int .i64 x1, .int .i64 x2, .int .i64 x3, .int .i64 x4, .int .i64 x5] 73) = w1 at *
  clear hWx
  have NJT : Hid (w0.heap.size < w0.heap.size + 1) := hide (Nat.lt_succ_self _)
  generalize hBx : w0.heap.size + 1 = BT at *
  clear hBx
  generalize hBx : w0.heap.size = BJ at *
  clear hBx
  have cJ0 : w1.cell? ⟨BJ, 0, none⟩ = some (.int .i64 y0) := blk_cell HJ.out 0
  have cJ1 : w1.cell? ⟨BJ, 1, none⟩ = some (.int .i64 y1) := blk_cell HJ.out 1
  have cJ2 : w1.cell? ⟨BJ, 2, none⟩ = some (.int .i64 y2) := blk_cell HJ.out 2
  have cJ3 : w1.cell? ⟨BJ, 3, none⟩ = some (.int .i64 y3) := blk_cell HJ.out 3
  have cJ4 : w1.cell? ⟨BJ, 4, none⟩ = some (.int .i64 y4) := blk_cell HJ.out 4
  have cJ5 : w1.cell? ⟨BJ, 5, none⟩ = some (.int .i64 y5) := blk_cell HJ.out 5
  have cJ6 : w1.cell? ⟨BJ, 6, none⟩ = some (.int .i64 y6) := blk_cell HJ.out 6
  have cT0 : w1.cell? ⟨BT, 0, none⟩ = some (.int .i64 x0) := blk_cell HT.out 0
  have cT1 : w1.cell? ⟨BT, 1, none⟩ = some (.int .i64 x1) := blk_cell HT.out 1
  have cT2 : w1.cell? ⟨BT, 2, none⟩ = some (.int .i64 x2) := blk_cell HT.out 2
  have cT3 : w1.cell? ⟨BT, 3, none⟩ = some (.int .i64 x3) := blk_cell HT.out 3
  have cT4 : w1.cell? ⟨BT, 4, none⟩ = some (.int .i64 x4) := blk_cell HT.out 4
  have cT5 : w1.cell? ⟨BT, 5, none⟩ = some (.int .i64 x5) := blk_cell HT.out 5
  go_wp2_with (first | fail)
  refine (CR.out _ _ (blk_row (heap_alloc_new _ _) rfl rfl (by simp))).mono ?_; rintro e w2 ⟨rfl, hg⟩
  clear cJ0 cJ1 cJ2 cJ3 cJ4 cJ5 cJ6 cT0 cT1 cT2 cT3 cT4 cT5
  replace hg := grownBy_trans (World.grownBy_alloc _ _ _) hg
  have HGn := hide (grownBy_trans HG.out hg)
  have HJn := hide (box_grown HJ.out hg (by simp))
  have HTn := hide (box_grown HT.out hg (by simp))
  clear HG HJ HT
  have HG := HGn
  have HJ := HJn
  have HT := HTn
  clear HGn HJn HTn
  clear hg
  go_wp2_with (first | fail)
  go_ret
  exact ⟨rfl, HG.out⟩
set_option maxRecDepth 100000 in
set_option maxHeartbeats 4000000 in
theorem cmay_t (j : JobV) (t : TaskV) (l : Int) (w w0 : World) (hg0 : w.grownBy w0 none) (hj : jobMay j = true) (ht : taskMay t = false) :
    Calls Tryz.prog 71 #[jobVal j, taskVal t, .int .i64 l] w0 fun e w' => e = .returned (.bool false) ∧ w.grownBy w' none := by
  have CR := hide (fun v W (hv : RowAt shJ 0 W v [j]) => may_one v j W hv)
  have CT := hide (fun W => tmay_any t W)
  have HG := hide hg0
  rw [hj] at CR
  clear hg0 hj
  rw [ht] at CT
  clear ht
  obtain ⟨y0, y1, y2, y3, y4, y5, y6⟩ := j
  obtain ⟨x0, x1, x2, x3, x4, x5⟩ := t
  dsimp only [jobVal, taskVal] at *
  go_enter Tryz.func71, Tryz.ntmps71
  go_upto_region 1 with (first | fail)
  have hg := grownBy_trans (World.grownBy_alloc w0 (.cells #[.int .i64 y0, .int .i64 y1, .int .i64 y2, .int .i64 y3, .int .i64 y4, .int .i64 y5, .int .i64 y6] 70) none) (World.grownBy_alloc _ (.cells #[.int .i64 x0, .int .i64 x1, .int .i64 x2, .int .i64 x3, .int .i64 x4, .int .i64 x5] 73) none)
  have HJq := hide (hp_up (heap_alloc_new w0 (.cells #[.int .i64 y0, .int .i64 y1, .int .i64 y2, .int .i64 y3, .int .i64 y4, .int .i64 y5, .int .i64 y6] 70)) (.cells #[.int .i64 x0, .int .i64 x1, .int .i64 x2, .int .i64 x3, .int .i64 x4, .int .i64 x5] 73))
  have HTq := hide (alloc_next w0 (.cells #[.int .i64 y0, .int .i64 y1, .int .i64 y2, .int .i64 y3, .int .i64 y4, .int .i64 y5, .int .i64 y6] 70) (.cells #[.int .i64 x0, .int .i64 x1, .int .i64 x2, .int .i64 x3, .int .i64 x4, .int .i64 x5] 73))
  have LJ := hide HG.out.size
  have LT := hide (show w.heap.size ≤ w0.heap.size + 1 from Nat.le_trans HG.out.size (Nat.le_succ _))
  have HGn := hide (grownBy_trans HG.out hg)
  clear HG
  have HG := HGn
  clear HGn
  clear hg
  have HJ := HJq
  have HT := HTq
  clear HJq HTq
  generalize hWx : (w0.alloc (.cells #[.int .i64 y0, .int .i64 y1, .int .i64 y2, .int .i64 y3, .int .i64 y4, .int .i64 y5, .int .i64 y6] 70)).alloc (.cells #[.int .i64 x0, .int .i64 x1, .int .i64 x2, .int .i64 x3, .int .i64 x4, .int .i64 x5] 73) = w1 at *
  clear hWx
  have NJT : Hid (w0.heap.size < w0.heap.size + 1) := hide (Nat.lt_succ_self _)
  generalize hBx : w0.heap.size + 1 = BT at *
  clear hBx
  generalize hBx : w0.heap.size = BJ at *
  clear hBx
  have cJ0 : w1.cell? ⟨BJ, 0, none⟩ = some (.int .i64 y0) := blk_cell HJ.out 0
  have cJ1 : w1.cell? ⟨BJ, 1, none⟩ = some (.int .i64 y1) := blk_cell HJ.out 1
  have cJ2 : w1.cell? ⟨BJ, 2, none⟩ = some (.int .i64 y2) := blk_cell HJ.out 2
  have cJ3 : w1.cell? ⟨BJ, 3, none⟩ = some (.int .i64 y3) := blk_cell HJ.out 3
  have cJ4 : w1.cell? ⟨BJ, 4, none⟩ = some (.int .i64 y4) := blk_cell HJ.out 4
  have cJ5 : w1.cell? ⟨BJ, 5, none⟩ = some (.int .i64 y5) := blk_cell HJ.out 5
  have cJ6 : w1.cell? ⟨BJ, 6, none⟩ = some (.int .i64 y6) := blk_cell HJ.out 6
  have cT0 : w1.cell? ⟨BT, 0, none⟩ = some (.int .i64 x0) := blk_cell HT.out 0
  have cT1 : w1.cell? ⟨BT, 1, none⟩ = some (.int .i64 x1) := blk_cell HT.out 1
  have cT2 : w1.cell? ⟨BT, 2, none⟩ = some (.int .i64 x2) := blk_cell HT.out 2
  have cT3 : w1.cell? ⟨BT, 3, none⟩ = some (.int .i64 x3) := blk_cell HT.out 3
  have cT4 : w1.cell? ⟨BT, 4, none⟩ = some (.int .i64 x4) := blk_cell HT.out 4
  have cT5 : w1.cell? ⟨BT, 5, none⟩ = some (.int .i64 x5) := blk_cell HT.out 5
  go_wp2_with (first | fail)
  refine (CR.out _ _ (blk_row (heap_alloc_new _ _) rfl rfl (by simp))).mono ?_; rintro e w2 ⟨rfl, hg⟩
  clear cJ0 cJ1 cJ2 cJ3 cJ4 cJ5 cJ6 cT0 cT1 cT2 cT3 cT4 cT5
  replace hg := grownBy_trans (World.grownBy_alloc _ _ _) hg
  have HGn := hide (grownBy_trans HG.out hg)
  have HJn := hide (box_grown HJ.out hg (by simp))
  have HTn := hide (box_grown HT.out hg (by simp))
  clear HG HJ HT
  have HG := HGn
  have HJ := HJn
  have HT := HTn
  clear HGn HJn HTn
  clear hg
  have cJ0 : w2.cell? ⟨BJ, 0, none⟩ = some (.int .i64 y0) := blk_cell HJ.out 0
  have cJ1 : w2.cell? ⟨BJ, 1, none⟩ = some (.int .i64 y1) := blk_cell HJ.out 1
  have cJ2 : w2.cell? ⟨BJ, 2, none⟩ = some (.int .i64 y2) := blk_cell HJ.out 2
  have cJ3 : w2.cell? ⟨BJ, 3, none⟩ = some (.int .i64 y3) := blk_cell HJ.out 3
  have cJ4 : w2.cell? ⟨BJ, 4, none⟩ = some (.int .i64 y4) := blk_cell HJ.out 4
  have cJ5 : w2.cell? ⟨BJ, 5, none⟩ = some (.int .i64 y5) := blk_cell HJ.out 5
  have cJ6 : w2.cell? ⟨BJ, 6, none⟩ = some (.int .i64 y6) := blk_cell HJ.out 6
  have cT0 : w2.cell? ⟨BT, 0, none⟩ = some (.int .i64 x0) := blk_cell HT.out 0
  have cT1 : w2.cell? ⟨BT, 1, none⟩ = some (.int .i64 x1) := blk_cell HT.out 1
  have cT2 : w2.cell? ⟨BT, 2, none⟩ = some (.int .i64 x2) := blk_cell HT.out 2
  have cT3 : w2.cell? ⟨BT, 3, none⟩ = some (.int .i64 x3) := blk_cell HT.out 3
  have cT4 : w2.cell? ⟨BT, 4, none⟩ = some (.int .i64 x4) := blk_cell HT.out 4
  have cT5 : w2.cell? ⟨BT, 5, none⟩ = some (.int .i64 x5) := blk_cell HT.out 5
  go_wp2_with (first | fail)
  refine (CT.out _).mono ?_; rintro e w3 ⟨rfl, hg⟩
  clear cJ0 cJ1 cJ2 cJ3 cJ4 cJ5 cJ6 cT0 cT1 cT2 cT3 cT4 cT5
  have HGn := hide (grownBy_trans HG.out hg)
  have HJn := hide (box_grown HJ.out hg (by simp))
  have HTn := hide (box_grown HT.out hg (by simp))
  clear HG HJ HT
  have HG := HGn
  have HJ := HJn
  have HT := HTn
  clear HGn HJn HTn
  clear hg
  go_wp2_with (first | fail)
  go_ret
  exact ⟨rfl, HG.out⟩
set_option maxRecDepth 100000 in
set_option maxHeartbeats 4000000 in
theorem cmay_l (j : JobV) (t : TaskV) (l : Int) (w w0 : World) (hg0 : w.grownBy w0 none) (hj : jobMay j = true) (ht : taskMay t = true) (hl0 : l ≠ 0) (hl1 : l ≠ 1) :
    Calls Tryz.prog 71 #[jobVal j, taskVal t, .int .i64 l] w0 fun e w' => e = .returned (.bool false) ∧ w.grownBy w' none := by
  have CR := hide (fun v W (hv : RowAt shJ 0 W v [j]) => may_one v j W hv)
  have CT := hide (fun W => tmay_any t W)
  have HG := hide hg0
  rw [hj] at CR
  clear hg0 hj
  rw [ht] at CT
  clear ht
  obtain ⟨y0, y1, y2, y3, y4, y5, y6⟩ := j
  obtain ⟨x0, x1, x2, x3, x4, x5⟩ := t
  dsimp only [jobVal, taskVal] at *
  go_enter Tryz.func71, Tryz.ntmps71
  go_upto_region 1 with (first | fail)
  have hg := grownBy_trans (World.grownBy_alloc w0 (.cells #[.int .i64 y0, .int .i64 y1, .int .i64 y2, .int .i64 y3, .int .i64 y4, .int .i64 y5, .int .i64 y6] 70) none) (World.grownBy_alloc _ (.cells #[.int .i64 x0, .int .i64 x1, .int .i64 x2, .int .i64 x3, .int .i64 x4, .int .i64 x5] 73) none)
  have HJq := hide (hp_up (heap_alloc_new w0 (.cells #[.int .i64 y0, .int .i64 y1, .int .i64 y2, .int .i64 y3, .int .i64 y4, .int .i64 y5, .int .i64 y6] 70)) (.cells #[.int .i64 x0, .int .i64 x1, .int .i64 x2, .int .i64 x3, .int .i64 x4, .int .i64 x5] 73))
  have HTq := hide (alloc_next w0 (.cells #[.int .i64 y0, .int .i64 y1, .int .i64 y2, .int .i64 y3, .int .i64 y4, .int .i64 y5, .int .i64 y6] 70) (.cells #[.int .i64 x0, .int .i64 x1, .int .i64 x2, .int .i64 x3, .int .i64 x4, .int .i64 x5] 73))
  have LJ := hide HG.out.size
  have LT := hide (show w.heap.size ≤ w0.heap.size + 1 from Nat.le_trans HG.out.size (Nat.le_succ _))
  have HGn := hide (grownBy_trans HG.out hg)
  clear HG
  have HG := HGn
  clear HGn
  clear hg
  have HJ := HJq
  have HT := HTq
  clear HJq HTq
  generalize hWx : (w0.alloc (.cells #[.int .i64 y0, .int .i64 y1, .int .i64 y2, .int .i64 y3, .int .i64 y4, .int .i64 y5, .int .i64 y6] 70)).alloc (.cells #[.int .i64 x0, .int .i64 x1, .int .i64 x2, .int .i64 x3, .int .i64 x4, .int .i64 x5] 73) = w1 at *
  clear hWx
  have NJT : Hid (w0.heap.size < w0.heap.size + 1) := hide (Nat.lt_succ_self _)
  generalize hBx : w0.heap.size + 1 = BT at *
  clear hBx
  generalize hBx : w0.heap.size = BJ at *
  clear hBx
  have cJ0 : w1.cell? ⟨BJ, 0, none⟩ = some (.int .i64 y0) := blk_cell HJ.out 0
  have cJ1 : w1.cell? ⟨BJ, 1, none⟩ = some (.int .i64 y1) := blk_cell HJ.out 1
  have cJ2 : w1.cell? ⟨BJ, 2, none⟩ = some (.int .i64 y2) := blk_cell HJ.out 2
  have cJ3 : w1.cell? ⟨BJ, 3, none⟩ = some (.int .i64 y3) := blk_cell HJ.out 3
  have cJ4 : w1.cell? ⟨BJ, 4, none⟩ = some (.int .i64 y4) := blk_cell HJ.out 4
  have cJ5 : w1.cell? ⟨BJ, 5, none⟩ = some (.int .i64 y5) := blk_cell HJ.out 5
  have cJ6 : w1.cell? ⟨BJ, 6, none⟩ = some (.int .i64 y6) := blk_cell HJ.out 6
  have cT0 : w1.cell? ⟨BT, 0, none⟩ = some (.int .i64 x0) := blk_cell HT.out 0
  have cT1 : w1.cell? ⟨BT, 1, none⟩ = some (.int .i64 x1) := blk_cell HT.out 1
  have cT2 : w1.cell? ⟨BT, 2, none⟩ = some (.int .i64 x2) := blk_cell HT.out 2
  have cT3 : w1.cell? ⟨BT, 3, none⟩ = some (.int .i64 x3) := blk_cell HT.out 3
  have cT4 : w1.cell? ⟨BT, 4, none⟩ = some (.int .i64 x4) := blk_cell HT.out 4
  have cT5 : w1.cell? ⟨BT, 5, none⟩ = some (.int .i64 x5) := blk_cell HT.out 5
  go_wp2_with (first | fail)
  refine (CR.out _ _ (blk_row (heap_alloc_new _ _) rfl rfl (by simp))).mono ?_; rintro e w2 ⟨rfl, hg⟩
  clear cJ0 cJ1 cJ2 cJ3 cJ4 cJ5 cJ6 cT0 cT1 cT2 cT3 cT4 cT5
  replace hg := grownBy_trans (World.grownBy_alloc _ _ _) hg
  have HGn := hide (grownBy_trans HG.out hg)
  have HJn := hide (box_grown HJ.out hg (by simp))
  have HTn := hide (box_grown HT.out hg (by simp))
  clear HG HJ HT
  have HG := HGn
  have HJ := HJn
  have HT := HTn
  clear HGn HJn HTn
  clear hg
  have cJ0 : w2.cell? ⟨BJ, 0, none⟩ = some (.int .i64 y0) := blk_cell HJ.out 0
  have cJ1 : w2.cell? ⟨BJ, 1, none⟩ = some (.int .i64 y1) := blk_cell HJ.out 1
  have cJ2 : w2.cell? ⟨BJ, 2, none⟩ = some (.int .i64 y2) := blk_cell HJ.out 2
  have cJ3 : w2.cell? ⟨BJ, 3, none⟩ = some (.int .i64 y3) := blk_cell HJ.out 3
  have cJ4 : w2.cell? ⟨BJ, 4, none⟩ = some (.int .i64 y4) := blk_cell HJ.out 4
  have cJ5 : w2.cell? ⟨BJ, 5, none⟩ = some (.int .i64 y5) := blk_cell HJ.out 5
  have cJ6 : w2.cell? ⟨BJ, 6, none⟩ = some (.int .i64 y6) := blk_cell HJ.out 6
  have cT0 : w2.cell? ⟨BT, 0, none⟩ = some (.int .i64 x0) := blk_cell HT.out 0
  have cT1 : w2.cell? ⟨BT, 1, none⟩ = some (.int .i64 x1) := blk_cell HT.out 1
  have cT2 : w2.cell? ⟨BT, 2, none⟩ = some (.int .i64 x2) := blk_cell HT.out 2
  have cT3 : w2.cell? ⟨BT, 3, none⟩ = some (.int .i64 x3) := blk_cell HT.out 3
  have cT4 : w2.cell? ⟨BT, 4, none⟩ = some (.int .i64 x4) := blk_cell HT.out 4
  have cT5 : w2.cell? ⟨BT, 5, none⟩ = some (.int .i64 x5) := blk_cell HT.out 5
  go_wp2_with (first | fail)
  refine (CT.out _).mono ?_; rintro e w3 ⟨rfl, hg⟩
  clear cJ0 cJ1 cJ2 cJ3 cJ4 cJ5 cJ6 cT0 cT1 cT2 cT3 cT4 cT5
  have HGn := hide (grownBy_trans HG.out hg)
  have HJn := hide (box_grown HJ.out hg (by simp))
  have HTn := hide (box_grown HT.out hg (by simp))
  clear HG HJ HT
  have HG := HGn
  have HJ := HJn
  have HT := HTn
  clear HGn HJn HTn
  clear hg
  go_wp2_with (first | fail)
  go_ret
  exact ⟨by first | rfl | simp [hl0, hl1], HG.out⟩
set_option maxRecDepth 100000 in
set_option maxHeartbeats 4000000 in
theorem cmay_lo (j : JobV) (t : TaskV) (w w0 : World) (hg0 : w.grownBy w0 none) (hj : jobMay j = true) (ht : taskMay t = true) :
    Calls Tryz.prog 71 #[jobVal j, taskVal t, .int .i64 0] w0 fun e w' => e = .returned (.bool true) ∧ w.grownBy w' none := by
  have CR := hide (fun v W (hv : RowAt shJ 0 W v [j]) => may_one v j W hv)
  have CT := hide (fun W => tmay_any t W)
  have HG := hide hg0
  rw [hj] at CR
  clear hg0 hj
  rw [ht] at CT
  clear ht
  obtain ⟨y0, y1, y2, y3, y4, y5, y6⟩ := j
  obtain ⟨x0, x1, x2, x3, x4, x5⟩ := t
  dsimp only [jobVal, taskVal] at *
  go_enter Tryz.func71, Tryz.ntmps71
  go_upto_region 1 with (first | fail)
  have hg := grownBy_trans (World.grownBy_alloc w0 (.cells #[.int .i64 y0, .int .i64 y1, .int .i64 y2, .int .i64 y3, .int .i64 y4, .int .i64 y5, .int .i64 y6] 70) none) (World.grownBy_alloc _ (.cells #[.int .i64 x0, .int .i64 x1, .int .i64 x2, .int .i64 x3, .int .i64 x4, .int .i64 x5] 73) none)
  have HJq := hide (hp_up (heap_alloc_new w0 (.cells #[.int .i64 y0, .int .i64 y1, .int .i64 y2, .int .i64 y3, .int .i64 y4, .int .i64 y5, .int .i64 y6] 70)) (.cells #[.int .i64 x0, .int .i64 x1, .int .i64 x2, .int .i64 x3, .int .i64 x4, .int .i64 x5] 73))
  have HTq := hide (alloc_next w0 (.cells #[.int .i64 y0, .int .i64 y1, .int .i64 y2, .int .i64 y3, .int .i64 y4, .int .i64 y5, .int .i64 y6] 70) (.cells #[.int .i64 x0, .int .i64 x1, .int .i64 x2, .int .i64 x3, .int .i64 x4, .int .i64 x5] 73))
  have LJ := hide HG.out.size
  have LT := hide (show w.heap.size ≤ w0.heap.size + 1 from Nat.le_trans HG.out.size (Nat.le_succ _))
  have HGn := hide (grownBy_trans HG.out hg)
  clear HG
  have HG := HGn
  clear HGn
  clear hg
  have HJ := HJq
  have HT := HTq
  clear HJq HTq
  generalize hWx : (w0.alloc (.cells #[.int .i64 y0, .int .i64 y1, .int .i64 y2, .int .i64 y3, .int .i64 y4, .int .i64 y5, .int .i64 y6] 70)).alloc (.cells #[.int .i64 x0, .int .i64 x1, .int .i64 x2, .int .i64 x3, .int .i64 x4, .int .i64 x5] 73) = w1 at *
  clear hWx
  have NJT : Hid (w0.heap.size < w0.heap.size + 1) := hide (Nat.lt_succ_self _)
  generalize hBx : w0.heap.size + 1 = BT at *
  clear hBx
  generalize hBx : w0.heap.size = BJ at *
  clear hBx
  have cJ0 : w1.cell? ⟨BJ, 0, none⟩ = some (.int .i64 y0) := blk_cell HJ.out 0
  have cJ1 : w1.cell? ⟨BJ, 1, none⟩ = some (.int .i64 y1) := blk_cell HJ.out 1
  have cJ2 : w1.cell? ⟨BJ, 2, none⟩ = some (.int .i64 y2) := blk_cell HJ.out 2
  have cJ3 : w1.cell? ⟨BJ, 3, none⟩ = some (.int .i64 y3) := blk_cell HJ.out 3
  have cJ4 : w1.cell? ⟨BJ, 4, none⟩ = some (.int .i64 y4) := blk_cell HJ.out 4
  have cJ5 : w1.cell? ⟨BJ, 5, none⟩ = some (.int .i64 y5) := blk_cell HJ.out 5
  have cJ6 : w1.cell? ⟨BJ, 6, none⟩ = some (.int .i64 y6) := blk_cell HJ.out 6
  have cT0 : w1.cell? ⟨BT, 0, none⟩ = some (.int .i64 x0) := blk_cell HT.out 0
  have cT1 : w1.cell? ⟨BT, 1, none⟩ = some (.int .i64 x1) := blk_cell HT.out 1
  have cT2 : w1.cell? ⟨BT, 2, none⟩ = some (.int .i64 x2) := blk_cell HT.out 2
  have cT3 : w1.cell? ⟨BT, 3, none⟩ = some (.int .i64 x3) := blk_cell HT.out 3
  have cT4 : w1.cell? ⟨BT, 4, none⟩ = some (.int .i64 x4) := blk_cell HT.out 4
  have cT5 : w1.cell? ⟨BT, 5, none⟩ = some (.int .i64 x5) := blk_cell HT.out 5
  go_wp2_with (first | fail)
  refine (CR.out _ _ (blk_row (heap_alloc_new _ _) rfl rfl (by simp))).mono ?_; rintro e w2 ⟨rfl, hg⟩
  clear cJ0 cJ1 cJ2 cJ3 cJ4 cJ5 cJ6 cT0 cT1 cT2 cT3 cT4 cT5
  replace hg := grownBy_trans (World.grownBy_alloc _ _ _) hg
  have HGn := hide (grownBy_trans HG.out hg)
  have HJn := hide (box_grown HJ.out hg (by simp))
  have HTn := hide (box_grown HT.out hg (by simp))
  clear HG HJ HT
  have HG := HGn
  have HJ := HJn
  have HT := HTn
  clear HGn HJn HTn
  clear hg
  have cJ0 : w2.cell? ⟨BJ, 0, none⟩ = some (.int .i64 y0) := blk_cell HJ.out 0
  have cJ1 : w2.cell? ⟨BJ, 1, none⟩ = some (.int .i64 y1) := blk_cell HJ.out 1
  have cJ2 : w2.cell? ⟨BJ, 2, none⟩ = some (.int .i64 y2) := blk_cell HJ.out 2
  have cJ3 : w2.cell? ⟨BJ, 3, none⟩ = some (.int .i64 y3) := blk_cell HJ.out 3
  have cJ4 : w2.cell? ⟨BJ, 4, none⟩ = some (.int .i64 y4) := blk_cell HJ.out 4
  have cJ5 : w2.cell? ⟨BJ, 5, none⟩ = some (.int .i64 y5) := blk_cell HJ.out 5
  have cJ6 : w2.cell? ⟨BJ, 6, none⟩ = some (.int .i64 y6) := blk_cell HJ.out 6
  have cT0 : w2.cell? ⟨BT, 0, none⟩ = some (.int .i64 x0) := blk_cell HT.out 0
  have cT1 : w2.cell? ⟨BT, 1, none⟩ = some (.int .i64 x1) := blk_cell HT.out 1
  have cT2 : w2.cell? ⟨BT, 2, none⟩ = some (.int .i64 x2) := blk_cell HT.out 2
  have cT3 : w2.cell? ⟨BT, 3, none⟩ = some (.int .i64 x3) := blk_cell HT.out 3
  have cT4 : w2.cell? ⟨BT, 4, none⟩ = some (.int .i64 x4) := blk_cell HT.out 4
  have cT5 : w2.cell? ⟨BT, 5, none⟩ = some (.int .i64 x5) := blk_cell HT.out 5
  go_wp2_with (first | fail)
  refine (CT.out _).mono ?_; rintro e w3 ⟨rfl, hg⟩
  clear cJ0 cJ1 cJ2 cJ3 cJ4 cJ5 cJ6 cT0 cT1 cT2 cT3 cT4 cT5
  have HGn := hide (grownBy_trans HG.out hg)
  have HJn := hide (box_grown HJ.out hg (by simp))
  have HTn := hide (box_grown HT.out hg (by simp))
  clear HG HJ HT
  have HG := HGn
  have HJ := HJn
  have HT := HTn
  clear HGn HJn HTn
  clear hg
  go_wp2_with (first | fail)
  go_ret
  exact ⟨rfl, HG.out⟩
set_option maxRecDepth 100000 in
set_option maxHeartbeats 4000000 in
theorem cmay_hi (j : JobV) (t : TaskV) (w w0 : World) (hg0 : w.grownBy w0 none) (hj : jobMay j = true) (ht : taskMay t = true) :
    Calls Tryz.prog 71 #[jobVal j, taskVal t, .int .i64 1] w0 fun e w' => e = .returned (.bool true) ∧ w.grownBy w' none := by
  have CR := hide (fun v W (hv : RowAt shJ 0 W v [j]) => may_one v j W hv)
  have CT := hide (fun W => tmay_any t W)
  have HG := hide hg0
  rw [hj] at CR
  clear hg0 hj
  rw [ht] at CT
  clear ht
  obtain ⟨y0, y1, y2, y3, y4, y5, y6⟩ := j
  obtain ⟨x0, x1, x2, x3, x4, x5⟩ := t
  dsimp only [jobVal, taskVal] at *
  go_enter Tryz.func71, Tryz.ntmps71
  go_upto_region 1 with (first | fail)
  have hg := grownBy_trans (World.grownBy_alloc w0 (.cells #[.int .i64 y0, .int .i64 y1, .int .i64 y2, .int .i64 y3, .int .i64 y4, .int .i64 y5, .int .i64 y6] 70) none) (World.grownBy_alloc _ (.cells #[.int .i64 x0, .int .i64 x1, .int .i64 x2, .int .i64 x3, .int .i64 x4, .int .i64 x5] 73) none)
  have HJq := hide (hp_up (heap_alloc_new w0 (.cells #[.int .i64 y0, .int .i64 y1, .int .i64 y2, .int .i64 y3, .int .i64 y4, .int .i64 y5, .int .i64 y6] 70)) (.cells #[.int .i64 x0, .int .i64 x1, .int .i64 x2, .int .i64 x3, .int .i64 x4, .int .i64 x5] 73))
  have HTq := hide (alloc_next w0 (.cells #[.int .i64 y0, .int .i64 y1, .int .i64 y2, .int .i64 y3, .int .i64 y4, .int .i64 y5, .int .i64 y6] 70) (.cells #[.int .i64 x0, .int .i64 x1, .int .i64 x2, .int .i64 x3, .int .i64 x4, .int .i64 x5] 73))
  have LJ := hide HG.out.size
  have LT := hide (show w.heap.size ≤ w0.heap.size + 1 from Nat.le_trans HG.out.size (Nat.le_succ _))
  have HGn := hide (grownBy_trans HG.out hg)
  clear HG
  have HG := HGn
  clear HGn
  clear hg
  have HJ := HJq
  have HT := HTq
  clear HJq HTq
  generalize hWx : (w0.alloc (.cells #[.int .i64 y0, .int .i64 y1, .int .i64 y2, .int .i64 y3, .int .i64 y4, .int .i64 y5, .int .i64 y6] 70)).alloc (.cells #[.int .i64 x0, .int .i64 x1, .int .i64 x2, .int .i64 x3, .int .i64 x4, .int .i64 x5] 73) = w1 at *
  clear hWx
  have NJT : Hid (w0.heap.size < w0.heap.size + 1) := hide (Nat.lt_succ_self _)
  generalize hBx : w0.heap.size + 1 = BT at *
  clear hBx
  generalize hBx : w0.heap.size = BJ at *
  clear hBx
  have cJ0 : w1.cell? ⟨BJ, 0, none⟩ = some (.int .i64 y0) := blk_cell HJ.out 0
  have cJ1 : w1.cell? ⟨BJ, 1, none⟩ = some (.int .i64 y1) := blk_cell HJ.out 1
  have cJ2 : w1.cell? ⟨BJ, 2, none⟩ = some (.int .i64 y2) := blk_cell HJ.out 2
  have cJ3 : w1.cell? ⟨BJ, 3, none⟩ = some (.int .i64 y3) := blk_cell HJ.out 3
  have cJ4 : w1.cell? ⟨BJ, 4, none⟩ = some (.int .i64 y4) := blk_cell HJ.out 4
  have cJ5 : w1.cell? ⟨BJ, 5, none⟩ = some (.int .i64 y5) := blk_cell HJ.out 5
  have cJ6 : w1.cell? ⟨BJ, 6, none⟩ = some (.int .i64 y6) := blk_cell HJ.out 6
  have cT0 : w1.cell? ⟨BT, 0, none⟩ = some (.int .i64 x0) := blk_cell HT.out 0
  have cT1 : w1.cell? ⟨BT, 1, none⟩ = some (.int .i64 x1) := blk_cell HT.out 1
  have cT2 : w1.cell? ⟨BT, 2, none⟩ = some (.int .i64 x2) := blk_cell HT.out 2
  have cT3 : w1.cell? ⟨BT, 3, none⟩ = some (.int .i64 x3) := blk_cell HT.out 3
  have cT4 : w1.cell? ⟨BT, 4, none⟩ = some (.int .i64 x4) := blk_cell HT.out 4
  have cT5 : w1.cell? ⟨BT, 5, none⟩ = some (.int .i64 x5) := blk_cell HT.out 5
  go_wp2_with (first | fail)
  refine (CR.out _ _ (blk_row (heap_alloc_new _ _) rfl rfl (by simp))).mono ?_; rintro e w2 ⟨rfl, hg⟩
  clear cJ0 cJ1 cJ2 cJ3 cJ4 cJ5 cJ6 cT0 cT1 cT2 cT3 cT4 cT5
  replace hg := grownBy_trans (World.grownBy_alloc _ _ _) hg
  have HGn := hide (grownBy_trans HG.out hg)
  have HJn := hide (box_grown HJ.out hg (by simp))
  have HTn := hide (box_grown HT.out hg (by simp))
  clear HG HJ HT
  have HG := HGn
  have HJ := HJn
  have HT := HTn
  clear HGn HJn HTn
  clear hg
  have cJ0 : w2.cell? ⟨BJ, 0, none⟩ = some (.int .i64 y0) := blk_cell HJ.out 0
  have cJ1 : w2.cell? ⟨BJ, 1, none⟩ = some (.int .i64 y1) := blk_cell HJ.out 1
  have cJ2 : w2.cell? ⟨BJ, 2, none⟩ = some (.int .i64 y2) := blk_cell HJ.out 2
  have cJ3 : w2.cell? ⟨BJ, 3, none⟩ = some (.int .i64 y3) := blk_cell HJ.out 3
  have cJ4 : w2.cell? ⟨BJ, 4, none⟩ = some (.int .i64 y4) := blk_cell HJ.out 4
  have cJ5 : w2.cell? ⟨BJ, 5, none⟩ = some (.int .i64 y5) := blk_cell HJ.out 5
  have cJ6 : w2.cell? ⟨BJ, 6, none⟩ = some (.int .i64 y6) := blk_cell HJ.out 6
  have cT0 : w2.cell? ⟨BT, 0, none⟩ = some (.int .i64 x0) := blk_cell HT.out 0
  have cT1 : w2.cell? ⟨BT, 1, none⟩ = some (.int .i64 x1) := blk_cell HT.out 1
  have cT2 : w2.cell? ⟨BT, 2, none⟩ = some (.int .i64 x2) := blk_cell HT.out 2
  have cT3 : w2.cell? ⟨BT, 3, none⟩ = some (.int .i64 x3) := blk_cell HT.out 3
  have cT4 : w2.cell? ⟨BT, 4, none⟩ = some (.int .i64 x4) := blk_cell HT.out 4
  have cT5 : w2.cell? ⟨BT, 5, none⟩ = some (.int .i64 x5) := blk_cell HT.out 5
  go_wp2_with (first | fail)
  refine (CT.out _).mono ?_; rintro e w3 ⟨rfl, hg⟩
  clear cJ0 cJ1 cJ2 cJ3 cJ4 cJ5 cJ6 cT0 cT1 cT2 cT3 cT4 cT5
  have HGn := hide (grownBy_trans HG.out hg)
  have HJn := hide (box_grown HJ.out hg (by simp))
  have HTn := hide (box_grown HT.out hg (by simp))
  clear HG HJ HT
  have HG := HGn
  have HJ := HJn
  have HT := HTn
  clear HGn HJn HTn
  clear hg
  go_wp2_with (first | fail)
  go_ret
  exact ⟨rfl, HG.out⟩

theorem cmay_any (j : JobV) (t : TaskV) (l : Int) (w : World) : Calls Tryz.prog 71 #[jobVal j, taskVal t, .int .i64 l] w fun e w' => e = .returned (.bool (chMay j t l)) ∧ w.grownBy w' none := by
  unfold chMay levMay
  cases hj : jobMay j with
  | false => rw [Bool.false_and]; exact cmay_j j t l w w (grownBy_refl _ _) hj
  | true =>
    cases ht : taskMay t with
    | false => rw [Bool.false_and, Bool.and_false]; exact cmay_t j t l w w (grownBy_refl _ _) hj ht
    | true =>
      rw [Bool.true_and, Bool.true_and]
      by_cases h0 : l = 0
      · subst h0; exact cmay_lo j t w w (grownBy_refl _ _) hj ht
      · by_cases h1 : l = 1
        · subst h1; exact cmay_hi j t w w (grownBy_refl _ _) hj ht
        · rw [decide_eq_false (fun h => h.elim h0 h1)]; exact cmay_l j t l w w (grownBy_refl _ _) hj ht h0 h1
#print axioms cmay_any
end Go.Proofs.YtlppfocoonnpjaaGreatDoor.J
