/- The contract of the document's own Charge, proved over the translation. -/
import Derived.Test.YtlppfocoonnpjaaGreatDoorJCha
import Derived.Test.YtlppfocoonnpjaaGreatDoorRefTask
import Derived.Test.YtlppfocoonnpjaaGreatDoorJRefJ
namespace Go.Proofs.YtlppfocoonnpjaaGreatDoor.J
open Go.RowKit
attribute [local go_sem] alloc_drewN setCell_drewN

set_option maxRecDepth 100000 in
set_option maxHeartbeats 8000000 in
theorem rch_hi00 (j : JobV) (t : TaskV) (w w0 : World) (hg0 : w.grownBy w0 none) (hj : jobMay j = true) (ht : taskMay t = true) (hc : (j.used + 1 == t.clow) = false) (hd : (j.used + 1 == j.dem) = false) :
    Calls Tryz.prog 54 #[jobVal j, taskVal t, .int .i64 1] w0 fun e w' => e = .returned (.tuple #[jobVal (oneMore j), verVal false false (j.used + 1 == t.chigh), .int .i64 0]) ∧ w.grownBy w' none := by
  have CM := hide (fun W => rjob_any j W)
  have CT := hide (fun W => R6.rtask_any t W)
  rw [hj] at CM
  rw [ht] at CT
  have HG := hide hg0
  have hj2 := job_parts hj
  clear hg0 hj ht
  obtain ⟨y0, y1, y2, y3, y4, y5, y6⟩ := j
  obtain ⟨x0, x1, x2, x3, x4, x5⟩ := t
  dsimp only [jobVal, taskVal, oneMore] at *
  have hu1 : 0 ≤ y6 := hj2.2.2.2.2.2.2.2.2.2.2.1
  have hu2 : y6 < 65535 := by omega
  have HC := hide hc
  have HD := hide hd
  clear hj2 hd hc
  go_enter Tryz.func54, Tryz.ntmps54
  go_upto_region 1 with (first | fail)
  have hg : w0.grownBy ((((w0.alloc (.cells #[.int .i64 y0, .int .i64 y1, .int .i64 y2, .int .i64 y3, .int .i64 y4, .int .i64 y5, .int .i64 y6] 70)).alloc (.cells #[.int .i64 x0, .int .i64 x1, .int .i64 x2, .int .i64 x3, .int .i64 x4, .int .i64 x5] 73)).alloc (.cells #[.int .i64 0, .int .i64 0, .int .i64 0, .int .i64 0, .int .i64 0, .int .i64 0, .int .i64 0] 70)).alloc (.cells #[.bool false, .bool false, .bool false] 50)) none := (grownBy_trans (grownBy_trans (grownBy_trans (grownBy_trans (grownBy_refl _ _) (World.grownBy_alloc _ _ none)) (World.grownBy_alloc _ _ none)) (World.grownBy_alloc _ _ none)) (World.grownBy_alloc _ _ none))
  have hJ := heap_alloc_new w0 (.cells #[.int .i64 y0, .int .i64 y1, .int .i64 y2, .int .i64 y3, .int .i64 y4, .int .i64 y5, .int .i64 y6] 70)
  have HJq := hide (hp_up (hp_up (hp_up hJ (.cells #[.int .i64 x0, .int .i64 x1, .int .i64 x2, .int .i64 x3, .int .i64 x4, .int .i64 x5] 73)) (.cells #[.int .i64 0, .int .i64 0, .int .i64 0, .int .i64 0, .int .i64 0, .int .i64 0, .int .i64 0] 70)) (.cells #[.bool false, .bool false, .bool false] 50))
  clear hJ
  have LJ : Hid (w.heap.size ≤ w0.heap.size) := hide (by have := HG.out.size; omega)
  have hT : ((w0.alloc (.cells #[.int .i64 y0, .int .i64 y1, .int .i64 y2, .int .i64 y3, .int .i64 y4, .int .i64 y5, .int .i64 y6] 70)).alloc (.cells #[.int .i64 x0, .int .i64 x1, .int .i64 x2, .int .i64 x3, .int .i64 x4, .int .i64 x5] 73)).heap[w0.heap.size + 1]? = some (.cells #[.int .i64 x0, .int .i64 x1, .int .i64 x2, .int .i64 x3, .int .i64 x4, .int .i64 x5] 73) := by have h := heap_alloc_new (w0.alloc (.cells #[.int .i64 y0, .int .i64 y1, .int .i64 y2, .int .i64 y3, .int .i64 y4, .int .i64 y5, .int .i64 y6] 70)) (.cells #[.int .i64 x0, .int .i64 x1, .int .i64 x2, .int .i64 x3, .int .i64 x4, .int .i64 x5] 73); rwa [show (w0.alloc (.cells #[.int .i64 y0, .int .i64 y1, .int .i64 y2, .int .i64 y3, .int .i64 y4, .int .i64 y5, .int .i64 y6] 70)).heap.size = w0.heap.size + 1 by simp] at h
  have HTq := hide (hp_up (hp_up hT (.cells #[.int .i64 0, .int .i64 0, .int .i64 0, .int .i64 0, .int .i64 0, .int .i64 0, .int .i64 0] 70)) (.cells #[.bool false, .bool false, .bool false] 50))
  clear hT
  have LT : Hid (w.heap.size ≤ w0.heap.size + 1) := hide (by have := HG.out.size; omega)
  have hR : (((w0.alloc (.cells #[.int .i64 y0, .int .i64 y1, .int .i64 y2, .int .i64 y3, .int .i64 y4, .int .i64 y5, .int .i64 y6] 70)).alloc (.cells #[.int .i64 x0, .int .i64 x1, .int .i64 x2, .int .i64 x3, .int .i64 x4, .int .i64 x5] 73)).alloc (.cells #[.int .i64 0, .int .i64 0, .int .i64 0, .int .i64 0, .int .i64 0, .int .i64 0, .int .i64 0] 70)).heap[w0.heap.size + 1 + 1]? = some (.cells #[.int .i64 0, .int .i64 0, .int .i64 0, .int .i64 0, .int .i64 0, .int .i64 0, .int .i64 0] 70) := by have h := heap_alloc_new ((w0.alloc (.cells #[.int .i64 y0, .int .i64 y1, .int .i64 y2, .int .i64 y3, .int .i64 y4, .int .i64 y5, .int .i64 y6] 70)).alloc (.cells #[.int .i64 x0, .int .i64 x1, .int .i64 x2, .int .i64 x3, .int .i64 x4, .int .i64 x5] 73)) (.cells #[.int .i64 0, .int .i64 0, .int .i64 0, .int .i64 0, .int .i64 0, .int .i64 0, .int .i64 0] 70); rwa [show ((w0.alloc (.cells #[.int .i64 y0, .int .i64 y1, .int .i64 y2, .int .i64 y3, .int .i64 y4, .int .i64 y5, .int .i64 y6] 70)).alloc (.cells #[.int .i64 x0, .int .i64 x1, .int .i64 x2, .int .i64 x3, .int .i64 x4, .int .i64 x5] 73)).heap.size = w0.heap.size + 1 + 1 by simp] at h
  have HRq := hide (hp_up hR (.cells #[.bool false, .bool false, .bool false] 50))
  clear hR
  have LR : Hid (w.heap.size ≤ w0.heap.size + 1 + 1) := hide (by have := HG.out.size; omega)
  have hV : ((((w0.alloc (.cells #[.int .i64 y0, .int .i64 y1, .int .i64 y2, .int .i64 y3, .int .i64 y4, .int .i64 y5, .int .i64 y6] 70)).alloc (.cells #[.int .i64 x0, .int .i64 x1, .int .i64 x2, .int .i64 x3, .int .i64 x4, .int .i64 x5] 73)).alloc (.cells #[.int .i64 0, .int .i64 0, .int .i64 0, .int .i64 0, .int .i64 0, .int .i64 0, .int .i64 0] 70)).alloc (.cells #[.bool false, .bool false, .bool false] 50)).heap[w0.heap.size + 1 + 1 + 1]? = some (.cells #[.bool false, .bool false, .bool false] 50) := by have h := heap_alloc_new (((w0.alloc (.cells #[.int .i64 y0, .int .i64 y1, .int .i64 y2, .int .i64 y3, .int .i64 y4, .int .i64 y5, .int .i64 y6] 70)).alloc (.cells #[.int .i64 x0, .int .i64 x1, .int .i64 x2, .int .i64 x3, .int .i64 x4, .int .i64 x5] 73)).alloc (.cells #[.int .i64 0, .int .i64 0, .int .i64 0, .int .i64 0, .int .i64 0, .int .i64 0, .int .i64 0] 70)) (.cells #[.bool false, .bool false, .bool false] 50); rwa [show (((w0.alloc (.cells #[.int .i64 y0, .int .i64 y1, .int .i64 y2, .int .i64 y3, .int .i64 y4, .int .i64 y5, .int .i64 y6] 70)).alloc (.cells #[.int .i64 x0, .int .i64 x1, .int .i64 x2, .int .i64 x3, .int .i64 x4, .int .i64 x5] 73)).alloc (.cells #[.int .i64 0, .int .i64 0, .int .i64 0, .int .i64 0, .int .i64 0, .int .i64 0, .int .i64 0] 70)).heap.size = w0.heap.size + 1 + 1 + 1 by simp] at h
  have HVq := hide hV
  clear hV
  have LV : Hid (w.heap.size ≤ w0.heap.size + 1 + 1 + 1) := hide (by have := HG.out.size; omega)
  have HGn := hide (grownBy_trans HG.out hg)
  clear HG
  have HG := HGn
  clear HGn
  clear hg
  have HJ := HJq
  clear HJq
  have HT := HTq
  clear HTq
  have HR := HRq
  clear HRq
  have HV := HVq
  clear HVq
  have HOJ : Hid (w0.heap.size < w0.heap.size + 1 ∧ w0.heap.size + 1 < w0.heap.size + 1 + 1 ∧ w0.heap.size + 1 + 1 < w0.heap.size + 1 + 1 + 1) := hide (by omega)
  generalize hWx : ((((w0.alloc (.cells #[.int .i64 y0, .int .i64 y1, .int .i64 y2, .int .i64 y3, .int .i64 y4, .int .i64 y5, .int .i64 y6] 70)).alloc (.cells #[.int .i64 x0, .int .i64 x1, .int .i64 x2, .int .i64 x3, .int .i64 x4, .int .i64 x5] 73)).alloc (.cells #[.int .i64 0, .int .i64 0, .int .i64 0, .int .i64 0, .int .i64 0, .int .i64 0, .int .i64 0] 70)).alloc (.cells #[.bool false, .bool false, .bool false] 50)) = w1 at *
  clear hWx
  generalize hBx : w0.heap.size + 1 + 1 + 1 = BV at *
  clear hBx
  generalize hBx : w0.heap.size + 1 + 1 = BR at *
  clear hBx
  generalize hBx : w0.heap.size + 1 = BT at *
  clear hBx
  generalize hBx : w0.heap.size = BJ at *
  clear hBx
  have cJ0 : w1.cell? ⟨BJ, 0, none⟩ = some (.int .i64 y0) := blk_cell HJ.out 0
  have cJ1 : w1.cell? ⟨BJ, 1, none⟩ = some (.int .i64 y1) := blk_cell HJ.out 1
  have cJ2 : w1.cell? ⟨BJ, 2, none⟩ = some (.int .i64 y2) := blk_cell HJ.out 2
  have cJ3 : w1.cell? ⟨BJ, 3, none⟩ = some (.int .i64 y3) := blk_cell HJ.out 3
  have cJ4 : w1.cell? ⟨BJ, 4, none⟩ = some (.int .i64 y4) := blk_cell HJ.out 4
  have cJ5 : w1.cell? ⟨BJ, 5, none⟩ = some (.int .i64 y5) := blk_cell HJ.out 5
  have cJ6 : w1.cell? ⟨BJ, 6, none⟩ = some (.int .i64 y6) := blk_cell HJ.out 6
  go_wp2_with (first | fail)
  refine (CM.out _).mono ?_; rintro e w2 ⟨rfl, hg⟩
  clear cJ0 cJ1 cJ2 cJ3 cJ4 cJ5 cJ6
  have HGn := hide (grownBy_trans HG.out hg)
  have HJn := hide (box_grown HJ.out hg (by simp))
  have HTn := hide (box_grown HT.out hg (by simp))
  have HRn := hide (box_grown HR.out hg (by simp))
  have HVn := hide (box_grown HV.out hg (by simp))
  clear HG HJ HT HR HV
  have HG := HGn
  have HJ := HJn
  have HT := HTn
  have HR := HRn
  have HV := HVn
  clear HGn HJn HTn HRn HVn
  clear hg
  have cT0 : w2.cell? ⟨BT, 0, none⟩ = some (.int .i64 x0) := blk_cell HT.out 0
  have cT1 : w2.cell? ⟨BT, 1, none⟩ = some (.int .i64 x1) := blk_cell HT.out 1
  have cT2 : w2.cell? ⟨BT, 2, none⟩ = some (.int .i64 x2) := blk_cell HT.out 2
  have cT3 : w2.cell? ⟨BT, 3, none⟩ = some (.int .i64 x3) := blk_cell HT.out 3
  have cT4 : w2.cell? ⟨BT, 4, none⟩ = some (.int .i64 x4) := blk_cell HT.out 4
  have cT5 : w2.cell? ⟨BT, 5, none⟩ = some (.int .i64 x5) := blk_cell HT.out 5
  go_wp2_with (first | fail)
  refine (CT.out _).mono ?_; rintro e w3 ⟨rfl, hg⟩
  clear cT0 cT1 cT2 cT3 cT4 cT5
  have HGn := hide (grownBy_trans HG.out hg)
  have HJn := hide (box_grown HJ.out hg (by simp))
  have HTn := hide (box_grown HT.out hg (by simp))
  have HRn := hide (box_grown HR.out hg (by simp))
  have HVn := hide (box_grown HV.out hg (by simp))
  clear HG HJ HT HR HV
  have HG := HGn
  have HJ := HJn
  have HT := HTn
  have HR := HRn
  have HV := HVn
  clear HGn HJn HTn HRn HVn
  clear hg
  have cJ6 : w3.cell? ⟨BJ, 6, none⟩ = some (.int .i64 y6) := blk_cell HJ.out 6
  have fJ6 := blk_free HJ.out 6
  go_upto_region 4 with (first | fail)
  generalize hU : y6 + 1 = u at *
  have HU := hide hU
  clear hU hu1 hu2
  clear cJ6 fJ6
  have hg := grownBy_set w3 BJ 6 (.int .i64 u)
  have HGn := hide (grown_spoil HG.out LJ.out hg)
  have HTn := hide (box_type HT.out hg (type_box HJ.out) (by decide))
  have HRn := hide (box_grown HR.out hg (by simp; have := HOJ.out; omega))
  have HVn := hide (box_type HV.out hg (type_box HJ.out) (by decide))
  have HJn := hide (blk_set (j := 6) (u := .int .i64 u) (cs' := #[.int .i64 y0, .int .i64 y1, .int .i64 y2, .int .i64 y3, .int .i64 y4, .int .i64 y5, .int .i64 u]) HJ.out rfl)
  clear HG HT HR HV HJ
  have HG := HGn
  have HT := HTn
  have HR := HRn
  have HV := HVn
  have HJ := HJn
  clear HGn HTn HRn HVn HJn
  clear hg
  generalize hWx : w3.setCell ⟨BJ, 6, none⟩ (.int .i64 u) = w4 at *
  clear hWx
  have hd := HD.out
  have cJ6 : w4.cell? ⟨BJ, 6, none⟩ = some (.int .i64 u) := blk_cell HJ.out 6
  have cJ5 : w4.cell? ⟨BJ, 5, none⟩ = some (.int .i64 y5) := blk_cell HJ.out 5
  have cT3 : w4.cell? ⟨BT, 3, none⟩ = some (.int .i64 x3) := blk_cell HT.out 3
  have cT4 : w4.cell? ⟨BT, 4, none⟩ = some (.int .i64 x4) := blk_cell HT.out 4
  go_upto_region 8 with (first | fail)
  clear cJ6 cJ5 cT3 cT4
  have hc := HC.out
  have HSS : Hid ((fun W => W.heap[BJ]? = some (.cells #[.int .i64 y0, .int .i64 y1, .int .i64 y2, .int .i64 y3, .int .i64 y4, .int .i64 y5, .int .i64 u] 70 (0, 0)) ∧ W.heap[BT]? = some (.cells #[.int .i64 x0, .int .i64 x1, .int .i64 x2, .int .i64 x3, .int .i64 x4, .int .i64 x5] 73 (0, 0))) w4) := hide ⟨HJ.out, HT.out⟩
  refine wp_region_held_drew (S := fun W => W.heap[BJ]? = some (.cells #[.int .i64 y0, .int .i64 y1, .int .i64 y2, .int .i64 y3, .int .i64 y4, .int .i64 y5, .int .i64 u] 70 (0, 0)) ∧ W.heap[BT]? = some (.cells #[.int .i64 x0, .int .i64 x1, .int .i64 x2, .int .i64 x3, .int .i64 x4, .int .i64 x5] 73 (0, 0))) (by kernel_rfl) HSS.out (fun hHeld => ?_)
  have HGd : Hid (w.grownBy w4.drew none) := hide (grownBy_trans HG.out (grownBy_draws w4 1 none))
  have HSSd : Hid ((fun W => W.heap[BJ]? = some (.cells #[.int .i64 y0, .int .i64 y1, .int .i64 y2, .int .i64 y3, .int .i64 y4, .int .i64 y5, .int .i64 u] 70 (0, 0)) ∧ W.heap[BT]? = some (.cells #[.int .i64 x0, .int .i64 x1, .int .i64 x2, .int .i64 x3, .int .i64 x4, .int .i64 x5] 73 (0, 0))) w4.drew) := hide HSS.out
  have HRd := hide (box_grown HR.out (grownBy_draws w4 1 none) (by simp))
  have HVd := hide (box_grown HV.out (grownBy_draws w4 1 none) (by simp))
  clear HG HSS HR HV HJ HT
  have hdd : w4.drewN 1 = w4.drew := rfl
  rw [hdd] at HRd HVd
  clear hdd
  generalize w4.drew = W at *
  have HG := HGd
  have HSS := HSSd
  have HR := HRd
  have HV := HVd
  clear HGd HSSd HRd HVd
  refine take_put (i := 0) (v := .agg #[.int .i64 y0, .int .i64 y1, .int .i64 y2, .int .i64 y3, .int .i64 y4, .int .i64 y5, .int .i64 u]) 44 rfl rfl (by kernel_rfl) (by kernel_rfl) (by kernel_rfl) (fun _ _ _ h => h) (Or.inl ⟨by rfl, by intro Wy hSW; have hc := (⟨blk_cell hSW.1 0, blk_cell hSW.1 1, blk_cell hSW.1 2, blk_cell hSW.1 3, blk_cell hSW.1 4, blk_cell hSW.1 5, blk_cell hSW.1 6⟩ : _ ∧ _ ∧ _ ∧ _ ∧ _ ∧ _ ∧ _); go_simp⟩) (by assumption) ?_
  (try simp only [Act.put, List.setIfInBounds_toArray, List.set_cons_zero, List.set_cons_succ])
  refine take_put (i := 1) (v := .int .i64 1) 45 rfl rfl (by kernel_rfl) (by kernel_rfl) (by kernel_rfl) (fun _ _ _ h => h) (Or.inl ⟨by rfl, by intro Wy hSW; go_simp⟩) (by assumption) ?_
  (try simp only [Act.put, List.setIfInBounds_toArray, List.set_cons_zero, List.set_cons_succ])
  refine take_put (i := 2) (v := .bool true) 46 rfl rfl (by kernel_rfl) (by kernel_rfl) (by kernel_rfl) (fun _ _ _ h => h) (Or.inl ⟨by rfl, by intro Wy hSW; go_simp⟩) (by assumption) ?_
  (try simp only [Act.put, List.setIfInBounds_toArray, List.set_cons_zero, List.set_cons_succ])
  refine take_put (i := 3) (v := .bool true) 47 rfl rfl (by kernel_rfl) (by kernel_rfl) (by kernel_rfl) (fun _ _ _ h => h) (Or.inl ⟨by rfl, by intro Wy hSW; go_simp⟩) (by assumption) ?_
  (try simp only [Act.put, List.setIfInBounds_toArray, List.set_cons_zero, List.set_cons_succ])
  refine take_put (i := 4) (v := .pointer (some ⟨BJ, 6, none⟩)) 48 rfl rfl (by kernel_rfl) (by kernel_rfl) (by kernel_rfl) (fun _ _ _ h => h) (Or.inl ⟨by rfl, by intro Wy hSW; go_simp⟩) (by assumption) ?_
  (try simp only [Act.put, List.setIfInBounds_toArray, List.set_cons_zero, List.set_cons_succ])
  refine take_put (i := 5) (v := .int .i64 u) 49 rfl rfl (by kernel_rfl) (by kernel_rfl) (by kernel_rfl) (fun _ _ _ h => h) (Or.inl ⟨by rfl, by intro Wy hSW; have hc := blk_cell hSW.1 6; go_simp⟩) (by assumption) ?_
  (try simp only [Act.put, List.setIfInBounds_toArray, List.set_cons_zero, List.set_cons_succ])
  refine take_put (i := 6) (v := .pointer (some ⟨BT, 3, none⟩)) 50 rfl rfl (by kernel_rfl) (by kernel_rfl) (by kernel_rfl) (fun _ _ _ h => h) (Or.inl ⟨by rfl, by intro Wy hSW; go_simp⟩) (by assumption) ?_
  (try simp only [Act.put, List.setIfInBounds_toArray, List.set_cons_zero, List.set_cons_succ])
  refine take_put (i := 7) (v := .int .i64 x3) 51 rfl rfl (by kernel_rfl) (by kernel_rfl) (by kernel_rfl) (fun _ _ _ h => h) (Or.inl ⟨by rfl, by intro Wy hSW; have hc := blk_cell hSW.2 3; go_simp⟩) (by assumption) ?_
  (try simp only [Act.put, List.setIfInBounds_toArray, List.set_cons_zero, List.set_cons_succ])
  refine take_put (i := 8) (v := .bool false) 52 rfl rfl (by kernel_rfl) (by kernel_rfl) (by kernel_rfl) (fun _ _ _ h => h) (Or.inl ⟨by rfl, by intro Wy hSW; go_simp⟩) (by assumption) ?_
  (try simp only [Act.put, List.setIfInBounds_toArray, List.set_cons_zero, List.set_cons_succ])
  refine take_put (i := 9) (v := .bool false) 53 rfl rfl (by kernel_rfl) (by kernel_rfl) (by kernel_rfl) (fun _ _ _ h => h) (Or.inl ⟨by rfl, by intro Wy hSW; go_simp⟩) (by assumption) ?_
  (try simp only [Act.put, List.setIfInBounds_toArray, List.set_cons_zero, List.set_cons_succ])
  refine take_put (i := 10) (v := .bool false) 54 rfl rfl (by kernel_rfl) (by kernel_rfl) (by kernel_rfl) (fun _ _ _ h => h) (Or.inl ⟨by rfl, by intro Wy hSW; go_simp⟩) (by assumption) ?_
  (try simp only [Act.put, List.setIfInBounds_toArray, List.set_cons_zero, List.set_cons_succ])
  refine take_put (i := 11) (v := undef) 55 rfl rfl (by kernel_rfl) (by kernel_rfl) (by kernel_rfl) (fun _ _ _ h => h) (Or.inr ⟨by rfl, rfl⟩) (by assumption) ?_
  (try simp only [Act.put, List.setIfInBounds_toArray, List.set_cons_zero, List.set_cons_succ])
  refine take_put (i := 12) (v := undef) 56 rfl rfl (by kernel_rfl) (by kernel_rfl) (by kernel_rfl) (fun _ _ _ h => h) (Or.inr ⟨by rfl, rfl⟩) (by assumption) ?_
  (try simp only [Act.put, List.setIfInBounds_toArray, List.set_cons_zero, List.set_cons_succ])
  refine take_put (i := 13) (v := .bool false) 57 rfl rfl (by kernel_rfl) (by kernel_rfl) (by kernel_rfl) (fun _ _ _ h => h) (Or.inl ⟨by rfl, by intro Wy hSW; go_simp⟩) (by assumption) ?_
  (try simp only [Act.put, List.setIfInBounds_toArray, List.set_cons_zero, List.set_cons_succ])
  refine take_put (i := 14) (v := .bool false) 58 rfl rfl (by kernel_rfl) (by kernel_rfl) (by kernel_rfl) (fun _ _ _ h => h) (Or.inl ⟨by rfl, by intro Wy hSW; go_simp⟩) (by assumption) ?_
  (try simp only [Act.put, List.setIfInBounds_toArray, List.set_cons_zero, List.set_cons_succ])
  refine take_put (i := 15) (v := .bool false) 59 rfl rfl (by kernel_rfl) (by kernel_rfl) (by kernel_rfl) (fun _ _ _ h => h) (Or.inl ⟨by rfl, by intro Wy hSW; go_simp⟩) (by assumption) ?_
  (try simp only [Act.put, List.setIfInBounds_toArray, List.set_cons_zero, List.set_cons_succ])
  refine take_put (i := 16) (v := .bool true) 60 rfl rfl (by kernel_rfl) (by kernel_rfl) (by kernel_rfl) (fun _ _ _ h => h) (Or.inl ⟨by rfl, by intro Wy hSW; go_simp⟩) (by assumption) ?_
  (try simp only [Act.put, List.setIfInBounds_toArray, List.set_cons_zero, List.set_cons_succ])
  refine take_put (i := 17) (v := .bool true) 61 rfl rfl (by kernel_rfl) (by kernel_rfl) (by kernel_rfl) (fun _ _ _ h => h) (Or.inl ⟨by rfl, by intro Wy hSW; go_simp⟩) (by assumption) ?_
  (try simp only [Act.put, List.setIfInBounds_toArray, List.set_cons_zero, List.set_cons_succ])
  refine take_put (i := 18) (v := .pointer (some ⟨BJ, 6, none⟩)) 62 rfl rfl (by kernel_rfl) (by kernel_rfl) (by kernel_rfl) (fun _ _ _ h => h) (Or.inl ⟨by rfl, by intro Wy hSW; go_simp⟩) (by assumption) ?_
  (try simp only [Act.put, List.setIfInBounds_toArray, List.set_cons_zero, List.set_cons_succ])
  refine take_put (i := 19) (v := .int .i64 u) 63 rfl rfl (by kernel_rfl) (by kernel_rfl) (by kernel_rfl) (fun _ _ _ h => h) (Or.inl ⟨by rfl, by intro Wy hSW; have hc := blk_cell hSW.1 6; go_simp⟩) (by assumption) ?_
  (try simp only [Act.put, List.setIfInBounds_toArray, List.set_cons_zero, List.set_cons_succ])
  refine take_put (i := 20) (v := .int .i64 x4) 64 rfl rfl (by kernel_rfl) (by kernel_rfl) (by kernel_rfl) (fun _ _ _ h => h) (Or.inl ⟨by rfl, by intro Wy hSW; go_simp⟩) (by assumption) ?_
  (try simp only [Act.put, List.setIfInBounds_toArray, List.set_cons_zero, List.set_cons_succ])
  refine take_put (i := 21) (v := .bool (u == x4)) 65 rfl rfl (by kernel_rfl) (by kernel_rfl) (by kernel_rfl) (fun _ _ _ h => h) (Or.inl ⟨by rfl, by intro Wy hSW; go_simp⟩) (by assumption) ?_
  (try simp only [Act.put, List.setIfInBounds_toArray, List.set_cons_zero, List.set_cons_succ])
  refine take_put (i := 22) (v := .bool (u == x4)) 66 rfl rfl (by kernel_rfl) (by kernel_rfl) (by kernel_rfl) (fun _ _ _ h => h) (Or.inl ⟨by rfl, by intro Wy hSW; go_simp⟩) (by assumption) ?_
  (try simp only [Act.put, List.setIfInBounds_toArray, List.set_cons_zero, List.set_cons_succ])
  refine take_put (i := 23) (v := .agg #[.bool false, .bool false, .bool (u == x4)]) 67 rfl rfl (by kernel_rfl) (by kernel_rfl) (by kernel_rfl) (fun _ _ _ h => h) (Or.inl ⟨by rfl, by intro Wy hSW; go_simp⟩) (by assumption) ?_
  (try simp only [Act.put, List.setIfInBounds_toArray, List.set_cons_zero, List.set_cons_succ])
  refine wpAnyH_ready (rs := [24]) (by kernel_rfl) (by simp) ?_
  refine AllReadyH.cons rfl (fun Kx hKx => ?_) AllReadyH.nil
  refine step_store 70 (.tmp 6) (.tmp 44) BR #[.int .i64 y0, .int .i64 y1, .int .i64 y2, .int .i64 y3, .int .i64 y4, .int .i64 y5, .int .i64 u] 70 #[.int .i64 0, .int .i64 0, .int .i64 0, .int .i64 0, .int .i64 0, .int .i64 0, .int .i64 0] rfl rfl HR.out sizeJ rfl (by simp [Value.oneCell']) ?_
  intro Y1 h1 e1 g1
  have HSSn : Hid ((fun W => W.heap[BJ]? = some (.cells #[.int .i64 y0, .int .i64 y1, .int .i64 y2, .int .i64 y3, .int .i64 y4, .int .i64 y5, .int .i64 u] 70 (0, 0)) ∧ W.heap[BT]? = some (.cells #[.int .i64 x0, .int .i64 x1, .int .i64 x2, .int .i64 x3, .int .i64 x4, .int .i64 x5] 73 (0, 0))) Y1) := hide ⟨(e1 BJ (by have := HOJ.out; omega)).trans HSS.out.1, (e1 BT (by have := HOJ.out; omega)).trans HSS.out.2⟩
  have HVn := hide ((e1 BV (by have := HOJ.out; omega)).trans HV.out)
  have HRn := hide h1
  have HGn := hide (grown_spoil HG.out LR.out g1)
  clear hHeld h1 e1 g1 HG HSS HR HV
  have HG := HGn
  have HSS := HSSn
  have HR := HRn
  have HV := HVn
  clear HGn HSSn HRn HVn
  refine hKx.out _ _ HSS.out (fun hHeld => ?_)
  clear hKx Kx
  (try simp only [Act.put])
  refine wpAnyH_ready (rs := [25]) (by kernel_rfl) (by simp) ?_
  refine AllReadyH.cons rfl (fun Kx hKx => ?_) AllReadyH.nil
  refine step_store 50 (.tmp 7) (.tmp 67) BV #[.bool false, .bool false, .bool (u == x4)] 50 #[.bool false, .bool false, .bool false] rfl rfl HV.out sizeV rfl (by simp [Value.oneCell']) ?_
  intro Y2 h1 e1 g1
  have HSSn : Hid ((fun W => W.heap[BJ]? = some (.cells #[.int .i64 y0, .int .i64 y1, .int .i64 y2, .int .i64 y3, .int .i64 y4, .int .i64 y5, .int .i64 u] 70 (0, 0)) ∧ W.heap[BT]? = some (.cells #[.int .i64 x0, .int .i64 x1, .int .i64 x2, .int .i64 x3, .int .i64 x4, .int .i64 x5] 73 (0, 0))) Y2) := hide ⟨(e1 BJ (by have := HOJ.out; omega)).trans HSS.out.1, (e1 BT (by have := HOJ.out; omega)).trans HSS.out.2⟩
  have HRn := hide ((e1 BR (by have := HOJ.out; omega)).trans HR.out)
  have HVn := hide h1
  have HGn := hide (grown_spoil HG.out LV.out g1)
  clear hHeld h1 e1 g1 HG HSS HR HV
  have HG := HGn
  have HSS := HSSn
  have HR := HRn
  have HV := HVn
  clear HGn HSSn HRn HVn
  refine hKx.out _ _ HSS.out (fun hHeld => ?_)
  clear hKx Kx
  (try simp only [Act.put])
  refine take_put (i := 26) (v := .int .i64 0) 8 rfl rfl (by kernel_rfl) (by kernel_rfl) (by kernel_rfl) (fun _ _ _ h => h) (Or.inl ⟨by rfl, by intro Wy hSW; go_simp⟩) (by assumption) ?_
  (try simp only [Act.put, List.setIfInBounds_toArray, List.set_cons_zero, List.set_cons_succ])
  refine wpAnyH_done (by kernel_rfl) ?_ _
  clear hHeld
  go_wp2
  refine bodyPost_ret (results_rrt rfl _ _ BR 70 #[.int .i64 y0, .int .i64 y1, .int .i64 y2, .int .i64 y3, .int .i64 y4, .int .i64 y5, .int .i64 u] (0, 0) _ BV 50 #[.bool false, .bool false, .bool (u == x4)] (0, 0) _ rfl HR.out Tryz.underlying70 rfl sizeJ rfl HV.out Tryz.underlying50 rfl sizeV) rfl ?_
  rw [HU.out]
  exact ⟨rfl, HG.out⟩
set_option maxRecDepth 100000 in
set_option maxHeartbeats 8000000 in
theorem rch_hi01 (j : JobV) (t : TaskV) (w w0 : World) (hg0 : w.grownBy w0 none) (hj : jobMay j = true) (ht : taskMay t = true) (hc : (j.used + 1 == t.clow) = false) (hd : (j.used + 1 == j.dem) = true) :
    Calls Tryz.prog 54 #[jobVal j, taskVal t, .int .i64 1] w0 fun e w' => e = .returned (.tuple #[jobVal (oneMore j), verVal false true false, .int .i64 0]) ∧ w.grownBy w' none := by
  have CM := hide (fun W => rjob_any j W)
  have CT := hide (fun W => R6.rtask_any t W)
  rw [hj] at CM
  rw [ht] at CT
  have HG := hide hg0
  have hj2 := job_parts hj
  clear hg0 hj ht
  obtain ⟨y0, y1, y2, y3, y4, y5, y6⟩ := j
  obtain ⟨x0, x1, x2, x3, x4, x5⟩ := t
  dsimp only [jobVal, taskVal, oneMore] at *
  have hu1 : 0 ≤ y6 := hj2.2.2.2.2.2.2.2.2.2.2.1
  have hu2 : y6 < 65535 := by omega
  have HC := hide hc
  have HD := hide hd
  clear hj2 hd hc
  go_enter Tryz.func54, Tryz.ntmps54
  go_upto_region 1 with (first | fail)
  have hg : w0.grownBy ((((w0.alloc (.cells #[.int .i64 y0, .int .i64 y1, .int .i64 y2, .int .i64 y3, .int .i64 y4, .int .i64 y5, .int .i64 y6] 70)).alloc (.cells #[.int .i64 x0, .int .i64 x1, .int .i64 x2, .int .i64 x3, .int .i64 x4, .int .i64 x5] 73)).alloc (.cells #[.int .i64 0, .int .i64 0, .int .i64 0, .int .i64 0, .int .i64 0, .int .i64 0, .int .i64 0] 70)).alloc (.cells #[.bool false, .bool false, .bool false] 50)) none := (grownBy_trans (grownBy_trans (grownBy_trans (grownBy_trans (grownBy_refl _ _) (World.grownBy_alloc _ _ none)) (World.grownBy_alloc _ _ none)) (World.grownBy_alloc _ _ none)) (World.grownBy_alloc _ _ none))
  have hJ := heap_alloc_new w0 (.cells #[.int .i64 y0, .int .i64 y1, .int .i64 y2, .int .i64 y3, .int .i64 y4, .int .i64 y5, .int .i64 y6] 70)
  have HJq := hide (hp_up (hp_up (hp_up hJ (.cells #[.int .i64 x0, .int .i64 x1, .int .i64 x2, .int .i64 x3, .int .i64 x4, .int .i64 x5] 73)) (.cells #[.int .i64 0, .int .i64 0, .int .i64 0, .int .i64 0, .int .i64 0, .int .i64 0, .int .i64 0] 70)) (.cells #[.bool false, .bool false, .bool false] 50))
  clear hJ
  have LJ : Hid (w.heap.size ≤ w0.heap.size) := hide (by have := HG.out.size; omega)
  have hT : ((w0.alloc (.cells #[.int .i64 y0, .int .i64 y1, .int .i64 y2, .int .i64 y3, .int .i64 y4, .int .i64 y5, .int .i64 y6] 70)).alloc (.cells #[.int .i64 x0, .int .i64 x1, .int .i64 x2, .int .i64 x3, .int .i64 x4, .int .i64 x5] 73)).heap[w0.heap.size + 1]? = some (.cells #[.int .i64 x0, .int .i64 x1, .int .i64 x2, .int .i64 x3, .int .i64 x4, .int .i64 x5] 73) := by have h := heap_alloc_new (w0.alloc (.cells #[.int .i64 y0, .int .i64 y1, .int .i64 y2, .int .i64 y3, .int .i64 y4, .int .i64 y5, .int .i64 y6] 70)) (.cells #[.int .i64 x0, .int .i64 x1, .int .i64 x2, .int .i64 x3, .int .i64 x4, .int .i64 x5] 73); rwa [show (w0.alloc (.cells #[.int .i64 y0, .int .i64 y1, .int .i64 y2, .int .i64 y3, .int .i64 y4, .int .i64 y5, .int .i64 y6] 70)).heap.size = w0.heap.size + 1 by simp] at h
  have HTq := hide (hp_up (hp_up hT (.cells #[.int .i64 0, .int .i64 0, .int .i64 0, .int .i64 0, .int .i64 0, .int .i64 0, .int .i64 0] 70)) (.cells #[.bool false, .bool false, .bool false] 50))
  clear hT
  have LT : Hid (w.heap.size ≤ w0.heap.size + 1) := hide (by have := HG.out.size; omega)
  have hR : (((w0.alloc (.cells #[.int .i64 y0, .int .i64 y1, .int .i64 y2, .int .i64 y3, .int .i64 y4, .int .i64 y5, .int .i64 y6] 70)).alloc (.cells #[.int .i64 x0, .int .i64 x1, .int .i64 x2, .int .i64 x3, .int .i64 x4, .int .i64 x5] 73)).alloc (.cells #[.int .i64 0, .int .i64 0, .int .i64 0, .int .i64 0, .int .i64 0, .int .i64 0, .int .i64 0] 70)).heap[w0.heap.size + 1 + 1]? = some (.cells #[.int .i64 0, .int .i64 0, .int .i64 0, .int .i64 0, .int .i64 0, .int .i64 0, .int .i64 0] 70) := by have h := heap_alloc_new ((w0.alloc (.cells #[.int .i64 y0, .int .i64 y1, .int .i64 y2, .int .i64 y3, .int .i64 y4, .int .i64 y5, .int .i64 y6] 70)).alloc (.cells #[.int .i64 x0, .int .i64 x1, .int .i64 x2, .int .i64 x3, .int .i64 x4, .int .i64 x5] 73)) (.cells #[.int .i64 0, .int .i64 0, .int .i64 0, .int .i64 0, .int .i64 0, .int .i64 0, .int .i64 0] 70); rwa [show ((w0.alloc (.cells #[.int .i64 y0, .int .i64 y1, .int .i64 y2, .int .i64 y3, .int .i64 y4, .int .i64 y5, .int .i64 y6] 70)).alloc (.cells #[.int .i64 x0, .int .i64 x1, .int .i64 x2, .int .i64 x3, .int .i64 x4, .int .i64 x5] 73)).heap.size = w0.heap.size + 1 + 1 by simp] at h
  have HRq := hide (hp_up hR (.cells #[.bool false, .bool false, .bool false] 50))
  clear hR
  have LR : Hid (w.heap.size ≤ w0.heap.size + 1 + 1) := hide (by have := HG.out.size; omega)
  have hV : ((((w0.alloc (.cells #[.int .i64 y0, .int .i64 y1, .int .i64 y2, .int .i64 y3, .int .i64 y4, .int .i64 y5, .int .i64 y6] 70)).alloc (.cells #[.int .i64 x0, .int .i64 x1, .int .i64 x2, .int .i64 x3, .int .i64 x4, .int .i64 x5] 73)).alloc (.cells #[.int .i64 0, .int .i64 0, .int .i64 0, .int .i64 0, .int .i64 0, .int .i64 0, .int .i64 0] 70)).alloc (.cells #[.bool false, .bool false, .bool false] 50)).heap[w0.heap.size + 1 + 1 + 1]? = some (.cells #[.bool false, .bool false, .bool false] 50) := by have h := heap_alloc_new (((w0.alloc (.cells #[.int .i64 y0, .int .i64 y1, .int .i64 y2, .int .i64 y3, .int .i64 y4, .int .i64 y5, .int .i64 y6] 70)).alloc (.cells #[.int .i64 x0, .int .i64 x1, .int .i64 x2, .int .i64 x3, .int .i64 x4, .int .i64 x5] 73)).alloc (.cells #[.int .i64 0, .int .i64 0, .int .i64 0, .int .i64 0, .int .i64 0, .int .i64 0, .int .i64 0] 70)) (.cells #[.bool false, .bool false, .bool false] 50); rwa [show (((w0.alloc (.cells #[.int .i64 y0, .int .i64 y1, .int .i64 y2, .int .i64 y3, .int .i64 y4, .int .i64 y5, .int .i64 y6] 70)).alloc (.cells #[.int .i64 x0, .int .i64 x1, .int .i64 x2, .int .i64 x3, .int .i64 x4, .int .i64 x5] 73)).alloc (.cells #[.int .i64 0, .int .i64 0, .int .i64 0, .int .i64 0, .int .i64 0, .int .i64 0, .int .i64 0] 70)).heap.size = w0.heap.size + 1 + 1 + 1 by simp] at h
  have HVq := hide hV
  clear hV
  have LV : Hid (w.heap.size ≤ w0.heap.size + 1 + 1 + 1) := hide (by have := HG.out.size; omega)
  have HGn := hide (grownBy_trans HG.out hg)
  clear HG
  have HG := HGn
  clear HGn
  clear hg
  have HJ := HJq
  clear HJq
  have HT := HTq
  clear HTq
  have HR := HRq
  clear HRq
  have HV := HVq
  clear HVq
  have HOJ : Hid (w0.heap.size < w0.heap.size + 1 ∧ w0.heap.size + 1 < w0.heap.size + 1 + 1 ∧ w0.heap.size + 1 + 1 < w0.heap.size + 1 + 1 + 1) := hide (by omega)
  generalize hWx : ((((w0.alloc (.cells #[.int .i64 y0, .int .i64 y1, .int .i64 y2, .int .i64 y3, .int .i64 y4, .int .i64 y5, .int .i64 y6] 70)).alloc (.cells #[.int .i64 x0, .int .i64 x1, .int .i64 x2, .int .i64 x3, .int .i64 x4, .int .i64 x5] 73)).alloc (.cells #[.int .i64 0, .int .i64 0, .int .i64 0, .int .i64 0, .int .i64 0, .int .i64 0, .int .i64 0] 70)).alloc (.cells #[.bool false, .bool false, .bool false] 50)) = w1 at *
  clear hWx
  generalize hBx : w0.heap.size + 1 + 1 + 1 = BV at *
  clear hBx
  generalize hBx : w0.heap.size + 1 + 1 = BR at *
  clear hBx
  generalize hBx : w0.heap.size + 1 = BT at *
  clear hBx
  generalize hBx : w0.heap.size = BJ at *
  clear hBx
  have cJ0 : w1.cell? ⟨BJ, 0, none⟩ = some (.int .i64 y0) := blk_cell HJ.out 0
  have cJ1 : w1.cell? ⟨BJ, 1, none⟩ = some (.int .i64 y1) := blk_cell HJ.out 1
  have cJ2 : w1.cell? ⟨BJ, 2, none⟩ = some (.int .i64 y2) := blk_cell HJ.out 2
  have cJ3 : w1.cell? ⟨BJ, 3, none⟩ = some (.int .i64 y3) := blk_cell HJ.out 3
  have cJ4 : w1.cell? ⟨BJ, 4, none⟩ = some (.int .i64 y4) := blk_cell HJ.out 4
  have cJ5 : w1.cell? ⟨BJ, 5, none⟩ = some (.int .i64 y5) := blk_cell HJ.out 5
  have cJ6 : w1.cell? ⟨BJ, 6, none⟩ = some (.int .i64 y6) := blk_cell HJ.out 6
  go_wp2_with (first | fail)
  refine (CM.out _).mono ?_; rintro e w2 ⟨rfl, hg⟩
  clear cJ0 cJ1 cJ2 cJ3 cJ4 cJ5 cJ6
  have HGn := hide (grownBy_trans HG.out hg)
  have HJn := hide (box_grown HJ.out hg (by simp))
  have HTn := hide (box_grown HT.out hg (by simp))
  have HRn := hide (box_grown HR.out hg (by simp))
  have HVn := hide (box_grown HV.out hg (by simp))
  clear HG HJ HT HR HV
  have HG := HGn
  have HJ := HJn
  have HT := HTn
  have HR := HRn
  have HV := HVn
  clear HGn HJn HTn HRn HVn
  clear hg
  have cT0 : w2.cell? ⟨BT, 0, none⟩ = some (.int .i64 x0) := blk_cell HT.out 0
  have cT1 : w2.cell? ⟨BT, 1, none⟩ = some (.int .i64 x1) := blk_cell HT.out 1
  have cT2 : w2.cell? ⟨BT, 2, none⟩ = some (.int .i64 x2) := blk_cell HT.out 2
  have cT3 : w2.cell? ⟨BT, 3, none⟩ = some (.int .i64 x3) := blk_cell HT.out 3
  have cT4 : w2.cell? ⟨BT, 4, none⟩ = some (.int .i64 x4) := blk_cell HT.out 4
  have cT5 : w2.cell? ⟨BT, 5, none⟩ = some (.int .i64 x5) := blk_cell HT.out 5
  go_wp2_with (first | fail)
  refine (CT.out _).mono ?_; rintro e w3 ⟨rfl, hg⟩
  clear cT0 cT1 cT2 cT3 cT4 cT5
  have HGn := hide (grownBy_trans HG.out hg)
  have HJn := hide (box_grown HJ.out hg (by simp))
  have HTn := hide (box_grown HT.out hg (by simp))
  have HRn := hide (box_grown HR.out hg (by simp))
  have HVn := hide (box_grown HV.out hg (by simp))
  clear HG HJ HT HR HV
  have HG := HGn
  have HJ := HJn
  have HT := HTn
  have HR := HRn
  have HV := HVn
  clear HGn HJn HTn HRn HVn
  clear hg
  have cJ6 : w3.cell? ⟨BJ, 6, none⟩ = some (.int .i64 y6) := blk_cell HJ.out 6
  have fJ6 := blk_free HJ.out 6
  go_upto_region 4 with (first | fail)
  generalize hU : y6 + 1 = u at *
  have HU := hide hU
  clear hU hu1 hu2
  clear cJ6 fJ6
  have hg := grownBy_set w3 BJ 6 (.int .i64 u)
  have HGn := hide (grown_spoil HG.out LJ.out hg)
  have HTn := hide (box_type HT.out hg (type_box HJ.out) (by decide))
  have HRn := hide (box_grown HR.out hg (by simp; have := HOJ.out; omega))
  have HVn := hide (box_type HV.out hg (type_box HJ.out) (by decide))
  have HJn := hide (blk_set (j := 6) (u := .int .i64 u) (cs' := #[.int .i64 y0, .int .i64 y1, .int .i64 y2, .int .i64 y3, .int .i64 y4, .int .i64 y5, .int .i64 u]) HJ.out rfl)
  clear HG HT HR HV HJ
  have HG := HGn
  have HT := HTn
  have HR := HRn
  have HV := HVn
  have HJ := HJn
  clear HGn HTn HRn HVn HJn
  clear hg
  generalize hWx : w3.setCell ⟨BJ, 6, none⟩ (.int .i64 u) = w4 at *
  clear hWx
  have hd := HD.out
  have cJ6 : w4.cell? ⟨BJ, 6, none⟩ = some (.int .i64 u) := blk_cell HJ.out 6
  have cJ5 : w4.cell? ⟨BJ, 5, none⟩ = some (.int .i64 y5) := blk_cell HJ.out 5
  have cT3 : w4.cell? ⟨BT, 3, none⟩ = some (.int .i64 x3) := blk_cell HT.out 3
  have cT4 : w4.cell? ⟨BT, 4, none⟩ = some (.int .i64 x4) := blk_cell HT.out 4
  go_upto_region 8 with (first | fail)
  clear cJ6 cJ5 cT3 cT4
  have hc := HC.out
  have HSS : Hid ((fun W => W.heap[BJ]? = some (.cells #[.int .i64 y0, .int .i64 y1, .int .i64 y2, .int .i64 y3, .int .i64 y4, .int .i64 y5, .int .i64 u] 70 (0, 0)) ∧ W.heap[BT]? = some (.cells #[.int .i64 x0, .int .i64 x1, .int .i64 x2, .int .i64 x3, .int .i64 x4, .int .i64 x5] 73 (0, 0))) w4) := hide ⟨HJ.out, HT.out⟩
  refine wp_region_held_drew (S := fun W => W.heap[BJ]? = some (.cells #[.int .i64 y0, .int .i64 y1, .int .i64 y2, .int .i64 y3, .int .i64 y4, .int .i64 y5, .int .i64 u] 70 (0, 0)) ∧ W.heap[BT]? = some (.cells #[.int .i64 x0, .int .i64 x1, .int .i64 x2, .int .i64 x3, .int .i64 x4, .int .i64 x5] 73 (0, 0))) (by kernel_rfl) HSS.out (fun hHeld => ?_)
  have HGd : Hid (w.grownBy w4.drew none) := hide (grownBy_trans HG.out (grownBy_draws w4 1 none))
  have HSSd : Hid ((fun W => W.heap[BJ]? = some (.cells #[.int .i64 y0, .int .i64 y1, .int .i64 y2, .int .i64 y3, .int .i64 y4, .int .i64 y5, .int .i64 u] 70 (0, 0)) ∧ W.heap[BT]? = some (.cells #[.int .i64 x0, .int .i64 x1, .int .i64 x2, .int .i64 x3, .int .i64 x4, .int .i64 x5] 73 (0, 0))) w4.drew) := hide HSS.out
  have HRd := hide (box_grown HR.out (grownBy_draws w4 1 none) (by simp))
  have HVd := hide (box_grown HV.out (grownBy_draws w4 1 none) (by simp))
  clear HG HSS HR HV HJ HT
  have hdd : w4.drewN 1 = w4.drew := rfl
  rw [hdd] at HRd HVd
  clear hdd
  generalize w4.drew = W at *
  have HG := HGd
  have HSS := HSSd
  have HR := HRd
  have HV := HVd
  clear HGd HSSd HRd HVd
  refine take_put (i := 0) (v := .agg #[.int .i64 y0, .int .i64 y1, .int .i64 y2, .int .i64 y3, .int .i64 y4, .int .i64 y5, .int .i64 u]) 44 rfl rfl (by kernel_rfl) (by kernel_rfl) (by kernel_rfl) (fun _ _ _ h => h) (Or.inl ⟨by rfl, by intro Wy hSW; have hc := (⟨blk_cell hSW.1 0, blk_cell hSW.1 1, blk_cell hSW.1 2, blk_cell hSW.1 3, blk_cell hSW.1 4, blk_cell hSW.1 5, blk_cell hSW.1 6⟩ : _ ∧ _ ∧ _ ∧ _ ∧ _ ∧ _ ∧ _); go_simp⟩) (by assumption) ?_
  (try simp only [Act.put, List.setIfInBounds_toArray, List.set_cons_zero, List.set_cons_succ])
  refine take_put (i := 1) (v := .int .i64 1) 45 rfl rfl (by kernel_rfl) (by kernel_rfl) (by kernel_rfl) (fun _ _ _ h => h) (Or.inl ⟨by rfl, by intro Wy hSW; go_simp⟩) (by assumption) ?_
  (try simp only [Act.put, List.setIfInBounds_toArray, List.set_cons_zero, List.set_cons_succ])
  refine take_put (i := 2) (v := .bool true) 46 rfl rfl (by kernel_rfl) (by kernel_rfl) (by kernel_rfl) (fun _ _ _ h => h) (Or.inl ⟨by rfl, by intro Wy hSW; go_simp⟩) (by assumption) ?_
  (try simp only [Act.put, List.setIfInBounds_toArray, List.set_cons_zero, List.set_cons_succ])
  refine take_put (i := 3) (v := .bool true) 47 rfl rfl (by kernel_rfl) (by kernel_rfl) (by kernel_rfl) (fun _ _ _ h => h) (Or.inl ⟨by rfl, by intro Wy hSW; go_simp⟩) (by assumption) ?_
  (try simp only [Act.put, List.setIfInBounds_toArray, List.set_cons_zero, List.set_cons_succ])
  refine take_put (i := 4) (v := .pointer (some ⟨BJ, 6, none⟩)) 48 rfl rfl (by kernel_rfl) (by kernel_rfl) (by kernel_rfl) (fun _ _ _ h => h) (Or.inl ⟨by rfl, by intro Wy hSW; go_simp⟩) (by assumption) ?_
  (try simp only [Act.put, List.setIfInBounds_toArray, List.set_cons_zero, List.set_cons_succ])
  refine take_put (i := 5) (v := .int .i64 u) 49 rfl rfl (by kernel_rfl) (by kernel_rfl) (by kernel_rfl) (fun _ _ _ h => h) (Or.inl ⟨by rfl, by intro Wy hSW; have hc := blk_cell hSW.1 6; go_simp⟩) (by assumption) ?_
  (try simp only [Act.put, List.setIfInBounds_toArray, List.set_cons_zero, List.set_cons_succ])
  refine take_put (i := 6) (v := .pointer (some ⟨BT, 3, none⟩)) 50 rfl rfl (by kernel_rfl) (by kernel_rfl) (by kernel_rfl) (fun _ _ _ h => h) (Or.inl ⟨by rfl, by intro Wy hSW; go_simp⟩) (by assumption) ?_
  (try simp only [Act.put, List.setIfInBounds_toArray, List.set_cons_zero, List.set_cons_succ])
  refine take_put (i := 7) (v := .int .i64 x3) 51 rfl rfl (by kernel_rfl) (by kernel_rfl) (by kernel_rfl) (fun _ _ _ h => h) (Or.inl ⟨by rfl, by intro Wy hSW; have hc := blk_cell hSW.2 3; go_simp⟩) (by assumption) ?_
  (try simp only [Act.put, List.setIfInBounds_toArray, List.set_cons_zero, List.set_cons_succ])
  refine take_put (i := 8) (v := .bool false) 52 rfl rfl (by kernel_rfl) (by kernel_rfl) (by kernel_rfl) (fun _ _ _ h => h) (Or.inl ⟨by rfl, by intro Wy hSW; go_simp⟩) (by assumption) ?_
  (try simp only [Act.put, List.setIfInBounds_toArray, List.set_cons_zero, List.set_cons_succ])
  refine take_put (i := 9) (v := .bool false) 53 rfl rfl (by kernel_rfl) (by kernel_rfl) (by kernel_rfl) (fun _ _ _ h => h) (Or.inl ⟨by rfl, by intro Wy hSW; go_simp⟩) (by assumption) ?_
  (try simp only [Act.put, List.setIfInBounds_toArray, List.set_cons_zero, List.set_cons_succ])
  refine take_put (i := 10) (v := .bool false) 54 rfl rfl (by kernel_rfl) (by kernel_rfl) (by kernel_rfl) (fun _ _ _ h => h) (Or.inl ⟨by rfl, by intro Wy hSW; go_simp⟩) (by assumption) ?_
  (try simp only [Act.put, List.setIfInBounds_toArray, List.set_cons_zero, List.set_cons_succ])
  refine take_put (i := 11) (v := undef) 55 rfl rfl (by kernel_rfl) (by kernel_rfl) (by kernel_rfl) (fun _ _ _ h => h) (Or.inr ⟨by rfl, rfl⟩) (by assumption) ?_
  (try simp only [Act.put, List.setIfInBounds_toArray, List.set_cons_zero, List.set_cons_succ])
  refine take_put (i := 12) (v := undef) 56 rfl rfl (by kernel_rfl) (by kernel_rfl) (by kernel_rfl) (fun _ _ _ h => h) (Or.inr ⟨by rfl, rfl⟩) (by assumption) ?_
  (try simp only [Act.put, List.setIfInBounds_toArray, List.set_cons_zero, List.set_cons_succ])
  refine take_put (i := 13) (v := .bool false) 57 rfl rfl (by kernel_rfl) (by kernel_rfl) (by kernel_rfl) (fun _ _ _ h => h) (Or.inl ⟨by rfl, by intro Wy hSW; go_simp⟩) (by assumption) ?_
  (try simp only [Act.put, List.setIfInBounds_toArray, List.set_cons_zero, List.set_cons_succ])
  refine take_put (i := 14) (v := .bool true) 58 rfl rfl (by kernel_rfl) (by kernel_rfl) (by kernel_rfl) (fun _ _ _ h => h) (Or.inl ⟨by rfl, by intro Wy hSW; go_simp⟩) (by assumption) ?_
  (try simp only [Act.put, List.setIfInBounds_toArray, List.set_cons_zero, List.set_cons_succ])
  refine take_put (i := 15) (v := .bool true) 59 rfl rfl (by kernel_rfl) (by kernel_rfl) (by kernel_rfl) (fun _ _ _ h => h) (Or.inl ⟨by rfl, by intro Wy hSW; go_simp⟩) (by assumption) ?_
  (try simp only [Act.put, List.setIfInBounds_toArray, List.set_cons_zero, List.set_cons_succ])
  refine take_put (i := 16) (v := .bool false) 60 rfl rfl (by kernel_rfl) (by kernel_rfl) (by kernel_rfl) (fun _ _ _ h => h) (Or.inl ⟨by rfl, by intro Wy hSW; go_simp⟩) (by assumption) ?_
  (try simp only [Act.put, List.setIfInBounds_toArray, List.set_cons_zero, List.set_cons_succ])
  refine take_put (i := 17) (v := .bool false) 61 rfl rfl (by kernel_rfl) (by kernel_rfl) (by kernel_rfl) (fun _ _ _ h => h) (Or.inl ⟨by rfl, by intro Wy hSW; go_simp⟩) (by assumption) ?_
  (try simp only [Act.put, List.setIfInBounds_toArray, List.set_cons_zero, List.set_cons_succ])
  refine take_put (i := 18) (v := undef) 62 rfl rfl (by kernel_rfl) (by kernel_rfl) (by kernel_rfl) (fun _ _ _ h => h) (Or.inr ⟨by rfl, rfl⟩) (by assumption) ?_
  (try simp only [Act.put, List.setIfInBounds_toArray, List.set_cons_zero, List.set_cons_succ])
  refine take_put (i := 19) (v := undef) 63 rfl rfl (by kernel_rfl) (by kernel_rfl) (by kernel_rfl) (fun _ _ _ h => h) (Or.inr ⟨by rfl, rfl⟩) (by assumption) ?_
  (try simp only [Act.put, List.setIfInBounds_toArray, List.set_cons_zero, List.set_cons_succ])
  refine take_put (i := 20) (v := undef) 64 rfl rfl (by kernel_rfl) (by kernel_rfl) (by kernel_rfl) (fun _ _ _ h => h) (Or.inr ⟨by rfl, rfl⟩) (by assumption) ?_
  (try simp only [Act.put, List.setIfInBounds_toArray, List.set_cons_zero, List.set_cons_succ])
  refine take_put (i := 21) (v := undef) 65 rfl rfl (by kernel_rfl) (by kernel_rfl) (by kernel_rfl) (fun _ _ _ h => h) (Or.inr ⟨by rfl, rfl⟩) (by assumption) ?_
  (try simp only [Act.put, List.setIfInBounds_toArray, List.set_cons_zero, List.set_cons_succ])
  refine take_put (i := 22) (v := .bool false) 66 rfl rfl (by kernel_rfl) (by kernel_rfl) (by kernel_rfl) (fun _ _ _ h => h) (Or.inl ⟨by rfl, by intro Wy hSW; go_simp⟩) (by assumption) ?_
  (try simp only [Act.put, List.setIfInBounds_toArray, List.set_cons_zero, List.set_cons_succ])
  refine take_put (i := 23) (v := .agg #[.bool false, .bool true, .bool false]) 67 rfl rfl (by kernel_rfl) (by kernel_rfl) (by kernel_rfl) (fun _ _ _ h => h) (Or.inl ⟨by rfl, by intro Wy hSW; go_simp⟩) (by assumption) ?_
  (try simp only [Act.put, List.setIfInBounds_toArray, List.set_cons_zero, List.set_cons_succ])
  refine wpAnyH_ready (rs := [24]) (by kernel_rfl) (by simp) ?_
  refine AllReadyH.cons rfl (fun Kx hKx => ?_) AllReadyH.nil
  refine step_store 70 (.tmp 6) (.tmp 44) BR #[.int .i64 y0, .int .i64 y1, .int .i64 y2, .int .i64 y3, .int .i64 y4, .int .i64 y5, .int .i64 u] 70 #[.int .i64 0, .int .i64 0, .int .i64 0, .int .i64 0, .int .i64 0, .int .i64 0, .int .i64 0] rfl rfl HR.out sizeJ rfl (by simp [Value.oneCell']) ?_
  intro Y1 h1 e1 g1
  have HSSn : Hid ((fun W => W.heap[BJ]? = some (.cells #[.int .i64 y0, .int .i64 y1, .int .i64 y2, .int .i64 y3, .int .i64 y4, .int .i64 y5, .int .i64 u] 70 (0, 0)) ∧ W.heap[BT]? = some (.cells #[.int .i64 x0, .int .i64 x1, .int .i64 x2, .int .i64 x3, .int .i64 x4, .int .i64 x5] 73 (0, 0))) Y1) := hide ⟨(e1 BJ (by have := HOJ.out; omega)).trans HSS.out.1, (e1 BT (by have := HOJ.out; omega)).trans HSS.out.2⟩
  have HVn := hide ((e1 BV (by have := HOJ.out; omega)).trans HV.out)
  have HRn := hide h1
  have HGn := hide (grown_spoil HG.out LR.out g1)
  clear hHeld h1 e1 g1 HG HSS HR HV
  have HG := HGn
  have HSS := HSSn
  have HR := HRn
  have HV := HVn
  clear HGn HSSn HRn HVn
  refine hKx.out _ _ HSS.out (fun hHeld => ?_)
  clear hKx Kx
  (try simp only [Act.put])
  refine wpAnyH_ready (rs := [25]) (by kernel_rfl) (by simp) ?_
  refine AllReadyH.cons rfl (fun Kx hKx => ?_) AllReadyH.nil
  refine step_store 50 (.tmp 7) (.tmp 67) BV #[.bool false, .bool true, .bool false] 50 #[.bool false, .bool false, .bool false] rfl rfl HV.out sizeV rfl (by simp [Value.oneCell']) ?_
  intro Y2 h1 e1 g1
  have HSSn : Hid ((fun W => W.heap[BJ]? = some (.cells #[.int .i64 y0, .int .i64 y1, .int .i64 y2, .int .i64 y3, .int .i64 y4, .int .i64 y5, .int .i64 u] 70 (0, 0)) ∧ W.heap[BT]? = some (.cells #[.int .i64 x0, .int .i64 x1, .int .i64 x2, .int .i64 x3, .int .i64 x4, .int .i64 x5] 73 (0, 0))) Y2) := hide ⟨(e1 BJ (by have := HOJ.out; omega)).trans HSS.out.1, (e1 BT (by have := HOJ.out; omega)).trans HSS.out.2⟩
  have HRn := hide ((e1 BR (by have := HOJ.out; omega)).trans HR.out)
  have HVn := hide h1
  have HGn := hide (grown_spoil HG.out LV.out g1)
  clear hHeld h1 e1 g1 HG HSS HR HV
  have HG := HGn
  have HSS := HSSn
  have HR := HRn
  have HV := HVn
  clear HGn HSSn HRn HVn
  refine hKx.out _ _ HSS.out (fun hHeld => ?_)
  clear hKx Kx
  (try simp only [Act.put])
  refine take_put (i := 26) (v := .int .i64 0) 8 rfl rfl (by kernel_rfl) (by kernel_rfl) (by kernel_rfl) (fun _ _ _ h => h) (Or.inl ⟨by rfl, by intro Wy hSW; go_simp⟩) (by assumption) ?_
  (try simp only [Act.put, List.setIfInBounds_toArray, List.set_cons_zero, List.set_cons_succ])
  refine wpAnyH_done (by kernel_rfl) ?_ _
  clear hHeld
  go_wp2
  refine bodyPost_ret (results_rrt rfl _ _ BR 70 #[.int .i64 y0, .int .i64 y1, .int .i64 y2, .int .i64 y3, .int .i64 y4, .int .i64 y5, .int .i64 u] (0, 0) _ BV 50 #[.bool false, .bool true, .bool false] (0, 0) _ rfl HR.out Tryz.underlying70 rfl sizeJ rfl HV.out Tryz.underlying50 rfl sizeV) rfl ?_
  rw [HU.out]
  exact ⟨rfl, HG.out⟩
set_option maxRecDepth 100000 in
set_option maxHeartbeats 8000000 in
theorem rch_hi10 (j : JobV) (t : TaskV) (w w0 : World) (hg0 : w.grownBy w0 none) (hj : jobMay j = true) (ht : taskMay t = true) (hc : (j.used + 1 == t.clow) = true) (hd : (j.used + 1 == j.dem) = false) :
    Calls Tryz.prog 54 #[jobVal j, taskVal t, .int .i64 1] w0 fun e w' => e = .returned (.tuple #[jobVal (oneMore j), verVal true false (j.used + 1 == t.chigh), .int .i64 0]) ∧ w.grownBy w' none := by
  have CM := hide (fun W => rjob_any j W)
  have CT := hide (fun W => R6.rtask_any t W)
  rw [hj] at CM
  rw [ht] at CT
  have HG := hide hg0
  have hj2 := job_parts hj
  clear hg0 hj ht
  obtain ⟨y0, y1, y2, y3, y4, y5, y6⟩ := j
  obtain ⟨x0, x1, x2, x3, x4, x5⟩ := t
  dsimp only [jobVal, taskVal, oneMore] at *
  have hu1 : 0 ≤ y6 := hj2.2.2.2.2.2.2.2.2.2.2.1
  have hu2 : y6 < 65535 := by omega
  have HC := hide hc
  have HD := hide hd
  clear hj2 hd hc
  go_enter Tryz.func54, Tryz.ntmps54
  go_upto_region 1 with (first | fail)
  have hg : w0.grownBy ((((w0.alloc (.cells #[.int .i64 y0, .int .i64 y1, .int .i64 y2, .int .i64 y3, .int .i64 y4, .int .i64 y5, .int .i64 y6] 70)).alloc (.cells #[.int .i64 x0, .int .i64 x1, .int .i64 x2, .int .i64 x3, .int .i64 x4, .int .i64 x5] 73)).alloc (.cells #[.int .i64 0, .int .i64 0, .int .i64 0, .int .i64 0, .int .i64 0, .int .i64 0, .int .i64 0] 70)).alloc (.cells #[.bool false, .bool false, .bool false] 50)) none := (grownBy_trans (grownBy_trans (grownBy_trans (grownBy_trans (grownBy_refl _ _) (World.grownBy_alloc _ _ none)) (World.grownBy_alloc _ _ none)) (World.grownBy_alloc _ _ none)) (World.grownBy_alloc _ _ none))
  have hJ := heap_alloc_new w0 (.cells #[.int .i64 y0, .int .i64 y1, .int .i64 y2, .int .i64 y3, .int .i64 y4, .int .i64 y5, .int .i64 y6] 70)
  have HJq := hide (hp_up (hp_up (hp_up hJ (.cells #[.int .i64 x0, .int .i64 x1, .int .i64 x2, .int .i64 x3, .int .i64 x4, .int .i64 x5] 73)) (.cells #[.int .i64 0, .int .i64 0, .int .i64 0, .int .i64 0, .int .i64 0, .int .i64 0, .int .i64 0] 70)) (.cells #[.bool false, .bool false, .bool false] 50))
  clear hJ
  have LJ : Hid (w.heap.size ≤ w0.heap.size) := hide (by have := HG.out.size; omega)
  have hT : ((w0.alloc (.cells #[.int .i64 y0, .int .i64 y1, .int .i64 y2, .int .i64 y3, .int .i64 y4, .int .i64 y5, .int .i64 y6] 70)).alloc (.cells #[.int .i64 x0, .int .i64 x1, .int .i64 x2, .int .i64 x3, .int .i64 x4, .int .i64 x5] 73)).heap[w0.heap.size + 1]? = some (.cells #[.int .i64 x0, .int .i64 x1, .int .i64 x2, .int .i64 x3, .int .i64 x4, .int .i64 x5] 73) := by have h := heap_alloc_new (w0.alloc (.cells #[.int .i64 y0, .int .i64 y1, .int .i64 y2, .int .i64 y3, .int .i64 y4, .int .i64 y5, .int .i64 y6] 70)) (.cells #[.int .i64 x0, .int .i64 x1, .int .i64 x2, .int .i64 x3, .int .i64 x4, .int .i64 x5] 73); rwa [show (w0.alloc (.cells #[.int .i64 y0, .int .i64 y1, .int .i64 y2, .int .i64 y3, .int .i64 y4, .int .i64 y5, .int .i64 y6] 70)).heap.size = w0.heap.size + 1 by simp] at h
  have HTq := hide (hp_up (hp_up hT (.cells #[.int .i64 0, .int .i64 0, .int .i64 0, .int .i64 0, .int .i64 0, .int .i64 0, .int .i64 0] 70)) (.cells #[.bool false, .bool false, .bool false] 50))
  clear hT
  have LT : Hid (w.heap.size ≤ w0.heap.size + 1) := hide (by have := HG.out.size; omega)
  have hR : (((w0.alloc (.cells #[.int .i64 y0, .int .i64 y1, .int .i64 y2, .int .i64 y3, .int .i64 y4, .int .i64 y5, .int .i64 y6] 70)).alloc (.cells #[.int .i64 x0, .int .i64 x1, .int .i64 x2, .int .i64 x3, .int .i64 x4, .int .i64 x5] 73)).alloc (.cells #[.int .i64 0, .int .i64 0, .int .i64 0, .int .i64 0, .int .i64 0, .int .i64 0, .int .i64 0] 70)).heap[w0.heap.size + 1 + 1]? = some (.cells #[.int .i64 0, .int .i64 0, .int .i64 0, .int .i64 0, .int .i64 0, .int .i64 0, .int .i64 0] 70) := by have h := heap_alloc_new ((w0.alloc (.cells #[.int .i64 y0, .int .i64 y1, .int .i64 y2, .int .i64 y3, .int .i64 y4, .int .i64 y5, .int .i64 y6] 70)).alloc (.cells #[.int .i64 x0, .int .i64 x1, .int .i64 x2, .int .i64 x3, .int .i64 x4, .int .i64 x5] 73)) (.cells #[.int .i64 0, .int .i64 0, .int .i64 0, .int .i64 0, .int .i64 0, .int .i64 0, .int .i64 0] 70); rwa [show ((w0.alloc (.cells #[.int .i64 y0, .int .i64 y1, .int .i64 y2, .int .i64 y3, .int .i64 y4, .int .i64 y5, .int .i64 y6] 70)).alloc (.cells #[.int .i64 x0, .int .i64 x1, .int .i64 x2, .int .i64 x3, .int .i64 x4, .int .i64 x5] 73)).heap.size = w0.heap.size + 1 + 1 by simp] at h
  have HRq := hide (hp_up hR (.cells #[.bool false, .bool false, .bool false] 50))
  clear hR
  have LR : Hid (w.heap.size ≤ w0.heap.size + 1 + 1) := hide (by have := HG.out.size; omega)
  have hV : ((((w0.alloc (.cells #[.int .i64 y0, .int .i64 y1, .int .i64 y2, .int .i64 y3, .int .i64 y4, .int .i64 y5, .int .i64 y6] 70)).alloc (.cells #[.int .i64 x0, .int .i64 x1, .int .i64 x2, .int .i64 x3, .int .i64 x4, .int .i64 x5] 73)).alloc (.cells #[.int .i64 0, .int .i64 0, .int .i64 0, .int .i64 0, .int .i64 0, .int .i64 0, .int .i64 0] 70)).alloc (.cells #[.bool false, .bool false, .bool false] 50)).heap[w0.heap.size + 1 + 1 + 1]? = some (.cells #[.bool false, .bool false, .bool false] 50) := by have h := heap_alloc_new (((w0.alloc (.cells #[.int .i64 y0, .int .i64 y1, .int .i64 y2, .int .i64 y3, .int .i64 y4, .int .i64 y5, .int .i64 y6] 70)).alloc (.cells #[.int .i64 x0, .int .i64 x1, .int .i64 x2, .int .i64 x3, .int .i64 x4, .int .i64 x5] 73)).alloc (.cells #[.int .i64 0, .int .i64 0, .int .i64 0, .int .i64 0, .int .i64 0, .int .i64 0, .int .i64 0] 70)) (.cells #[.bool false, .bool false, .bool false] 50); rwa [show (((w0.alloc (.cells #[.int .i64 y0, .int .i64 y1, .int .i64 y2, .int .i64 y3, .int .i64 y4, .int .i64 y5, .int .i64 y6] 70)).alloc (.cells #[.int .i64 x0, .int .i64 x1, .int .i64 x2, .int .i64 x3, .int .i64 x4, .int .i64 x5] 73)).alloc (.cells #[.int .i64 0, .int .i64 0, .int .i64 0, .int .i64 0, .int .i64 0, .int .i64 0, .int .i64 0] 70)).heap.size = w0.heap.size + 1 + 1 + 1 by simp] at h
  have HVq := hide hV
  clear hV
  have LV : Hid (w.heap.size ≤ w0.heap.size + 1 + 1 + 1) := hide (by have := HG.out.size; omega)
  have HGn := hide (grownBy_trans HG.out hg)
  clear HG
  have HG := HGn
  clear HGn
  clear hg
  have HJ := HJq
  clear HJq
  have HT := HTq
  clear HTq
  have HR := HRq
  clear HRq
  have HV := HVq
  clear HVq
  have HOJ : Hid (w0.heap.size < w0.heap.size + 1 ∧ w0.heap.size + 1 < w0.heap.size + 1 + 1 ∧ w0.heap.size + 1 + 1 < w0.heap.size + 1 + 1 + 1) := hide (by omega)
  generalize hWx : ((((w0.alloc (.cells #[.int .i64 y0, .int .i64 y1, .int .i64 y2, .int .i64 y3, .int .i64 y4, .int .i64 y5, .int .i64 y6] 70)).alloc (.cells #[.int .i64 x0, .int .i64 x1, .int .i64 x2, .int .i64 x3, .int .i64 x4, .int .i64 x5] 73)).alloc (.cells #[.int .i64 0, .int .i64 0, .int .i64 0, .int .i64 0, .int .i64 0, .int .i64 0, .int .i64 0] 70)).alloc (.cells #[.bool false, .bool false, .bool false] 50)) = w1 at *
  clear hWx
  generalize hBx : w0.heap.size + 1 + 1 + 1 = BV at *
  clear hBx
  generalize hBx : w0.heap.size + 1 + 1 = BR at *
  clear hBx
  generalize hBx : w0.heap.size + 1 = BT at *
  clear hBx
  generalize hBx : w0.heap.size = BJ at *
  clear hBx
  have cJ0 : w1.cell? ⟨BJ, 0, none⟩ = some (.int .i64 y0) := blk_cell HJ.out 0
  have cJ1 : w1.cell? ⟨BJ, 1, none⟩ = some (.int .i64 y1) := blk_cell HJ.out 1
  have cJ2 : w1.cell? ⟨BJ, 2, none⟩ = some (.int .i64 y2) := blk_cell HJ.out 2
  have cJ3 : w1.cell? ⟨BJ, 3, none⟩ = some (.int .i64 y3) := blk_cell HJ.out 3
  have cJ4 : w1.cell? ⟨BJ, 4, none⟩ = some (.int .i64 y4) := blk_cell HJ.out 4
  have cJ5 : w1.cell? ⟨BJ, 5, none⟩ = some (.int .i64 y5) := blk_cell HJ.out 5
  have cJ6 : w1.cell? ⟨BJ, 6, none⟩ = some (.int .i64 y6) := blk_cell HJ.out 6
  go_wp2_with (first | fail)
  refine (CM.out _).mono ?_; rintro e w2 ⟨rfl, hg⟩
  clear cJ0 cJ1 cJ2 cJ3 cJ4 cJ5 cJ6
  have HGn := hide (grownBy_trans HG.out hg)
  have HJn := hide (box_grown HJ.out hg (by simp))
  have HTn := hide (box_grown HT.out hg (by simp))
  have HRn := hide (box_grown HR.out hg (by simp))
  have HVn := hide (box_grown HV.out hg (by simp))
  clear HG HJ HT HR HV
  have HG := HGn
  have HJ := HJn
  have HT := HTn
  have HR := HRn
  have HV := HVn
  clear HGn HJn HTn HRn HVn
  clear hg
  have cT0 : w2.cell? ⟨BT, 0, none⟩ = some (.int .i64 x0) := blk_cell HT.out 0
  have cT1 : w2.cell? ⟨BT, 1, none⟩ = some (.int .i64 x1) := blk_cell HT.out 1
  have cT2 : w2.cell? ⟨BT, 2, none⟩ = some (.int .i64 x2) := blk_cell HT.out 2
  have cT3 : w2.cell? ⟨BT, 3, none⟩ = some (.int .i64 x3) := blk_cell HT.out 3
  have cT4 : w2.cell? ⟨BT, 4, none⟩ = some (.int .i64 x4) := blk_cell HT.out 4
  have cT5 : w2.cell? ⟨BT, 5, none⟩ = some (.int .i64 x5) := blk_cell HT.out 5
  go_wp2_with (first | fail)
  refine (CT.out _).mono ?_; rintro e w3 ⟨rfl, hg⟩
  clear cT0 cT1 cT2 cT3 cT4 cT5
  have HGn := hide (grownBy_trans HG.out hg)
  have HJn := hide (box_grown HJ.out hg (by simp))
  have HTn := hide (box_grown HT.out hg (by simp))
  have HRn := hide (box_grown HR.out hg (by simp))
  have HVn := hide (box_grown HV.out hg (by simp))
  clear HG HJ HT HR HV
  have HG := HGn
  have HJ := HJn
  have HT := HTn
  have HR := HRn
  have HV := HVn
  clear HGn HJn HTn HRn HVn
  clear hg
  have cJ6 : w3.cell? ⟨BJ, 6, none⟩ = some (.int .i64 y6) := blk_cell HJ.out 6
  have fJ6 := blk_free HJ.out 6
  go_upto_region 4 with (first | fail)
  generalize hU : y6 + 1 = u at *
  have HU := hide hU
  clear hU hu1 hu2
  clear cJ6 fJ6
  have hg := grownBy_set w3 BJ 6 (.int .i64 u)
  have HGn := hide (grown_spoil HG.out LJ.out hg)
  have HTn := hide (box_type HT.out hg (type_box HJ.out) (by decide))
  have HRn := hide (box_grown HR.out hg (by simp; have := HOJ.out; omega))
  have HVn := hide (box_type HV.out hg (type_box HJ.out) (by decide))
  have HJn := hide (blk_set (j := 6) (u := .int .i64 u) (cs' := #[.int .i64 y0, .int .i64 y1, .int .i64 y2, .int .i64 y3, .int .i64 y4, .int .i64 y5, .int .i64 u]) HJ.out rfl)
  clear HG HT HR HV HJ
  have HG := HGn
  have HT := HTn
  have HR := HRn
  have HV := HVn
  have HJ := HJn
  clear HGn HTn HRn HVn HJn
  clear hg
  generalize hWx : w3.setCell ⟨BJ, 6, none⟩ (.int .i64 u) = w4 at *
  clear hWx
  have hd := HD.out
  have cJ6 : w4.cell? ⟨BJ, 6, none⟩ = some (.int .i64 u) := blk_cell HJ.out 6
  have cJ5 : w4.cell? ⟨BJ, 5, none⟩ = some (.int .i64 y5) := blk_cell HJ.out 5
  have cT3 : w4.cell? ⟨BT, 3, none⟩ = some (.int .i64 x3) := blk_cell HT.out 3
  have cT4 : w4.cell? ⟨BT, 4, none⟩ = some (.int .i64 x4) := blk_cell HT.out 4
  go_upto_region 8 with (first | fail)
  clear cJ6 cJ5 cT3 cT4
  have hc := HC.out
  have HSS : Hid ((fun W => W.heap[BJ]? = some (.cells #[.int .i64 y0, .int .i64 y1, .int .i64 y2, .int .i64 y3, .int .i64 y4, .int .i64 y5, .int .i64 u] 70 (0, 0)) ∧ W.heap[BT]? = some (.cells #[.int .i64 x0, .int .i64 x1, .int .i64 x2, .int .i64 x3, .int .i64 x4, .int .i64 x5] 73 (0, 0))) w4) := hide ⟨HJ.out, HT.out⟩
  refine wp_region_held_drew (S := fun W => W.heap[BJ]? = some (.cells #[.int .i64 y0, .int .i64 y1, .int .i64 y2, .int .i64 y3, .int .i64 y4, .int .i64 y5, .int .i64 u] 70 (0, 0)) ∧ W.heap[BT]? = some (.cells #[.int .i64 x0, .int .i64 x1, .int .i64 x2, .int .i64 x3, .int .i64 x4, .int .i64 x5] 73 (0, 0))) (by kernel_rfl) HSS.out (fun hHeld => ?_)
  have HGd : Hid (w.grownBy w4.drew none) := hide (grownBy_trans HG.out (grownBy_draws w4 1 none))
  have HSSd : Hid ((fun W => W.heap[BJ]? = some (.cells #[.int .i64 y0, .int .i64 y1, .int .i64 y2, .int .i64 y3, .int .i64 y4, .int .i64 y5, .int .i64 u] 70 (0, 0)) ∧ W.heap[BT]? = some (.cells #[.int .i64 x0, .int .i64 x1, .int .i64 x2, .int .i64 x3, .int .i64 x4, .int .i64 x5] 73 (0, 0))) w4.drew) := hide HSS.out
  have HRd := hide (box_grown HR.out (grownBy_draws w4 1 none) (by simp))
  have HVd := hide (box_grown HV.out (grownBy_draws w4 1 none) (by simp))
  clear HG HSS HR HV HJ HT
  have hdd : w4.drewN 1 = w4.drew := rfl
  rw [hdd] at HRd HVd
  clear hdd
  generalize w4.drew = W at *
  have HG := HGd
  have HSS := HSSd
  have HR := HRd
  have HV := HVd
  clear HGd HSSd HRd HVd
  refine take_put (i := 0) (v := .agg #[.int .i64 y0, .int .i64 y1, .int .i64 y2, .int .i64 y3, .int .i64 y4, .int .i64 y5, .int .i64 u]) 44 rfl rfl (by kernel_rfl) (by kernel_rfl) (by kernel_rfl) (fun _ _ _ h => h) (Or.inl ⟨by rfl, by intro Wy hSW; have hc := (⟨blk_cell hSW.1 0, blk_cell hSW.1 1, blk_cell hSW.1 2, blk_cell hSW.1 3, blk_cell hSW.1 4, blk_cell hSW.1 5, blk_cell hSW.1 6⟩ : _ ∧ _ ∧ _ ∧ _ ∧ _ ∧ _ ∧ _); go_simp⟩) (by assumption) ?_
  (try simp only [Act.put, List.setIfInBounds_toArray, List.set_cons_zero, List.set_cons_succ])
  refine take_put (i := 1) (v := .int .i64 1) 45 rfl rfl (by kernel_rfl) (by kernel_rfl) (by kernel_rfl) (fun _ _ _ h => h) (Or.inl ⟨by rfl, by intro Wy hSW; go_simp⟩) (by assumption) ?_
  (try simp only [Act.put, List.setIfInBounds_toArray, List.set_cons_zero, List.set_cons_succ])
  refine take_put (i := 2) (v := .bool true) 46 rfl rfl (by kernel_rfl) (by kernel_rfl) (by kernel_rfl) (fun _ _ _ h => h) (Or.inl ⟨by rfl, by intro Wy hSW; go_simp⟩) (by assumption) ?_
  (try simp only [Act.put, List.setIfInBounds_toArray, List.set_cons_zero, List.set_cons_succ])
  refine take_put (i := 3) (v := .bool true) 47 rfl rfl (by kernel_rfl) (by kernel_rfl) (by kernel_rfl) (fun _ _ _ h => h) (Or.inl ⟨by rfl, by intro Wy hSW; go_simp⟩) (by assumption) ?_
  (try simp only [Act.put, List.setIfInBounds_toArray, List.set_cons_zero, List.set_cons_succ])
  refine take_put (i := 4) (v := .pointer (some ⟨BJ, 6, none⟩)) 48 rfl rfl (by kernel_rfl) (by kernel_rfl) (by kernel_rfl) (fun _ _ _ h => h) (Or.inl ⟨by rfl, by intro Wy hSW; go_simp⟩) (by assumption) ?_
  (try simp only [Act.put, List.setIfInBounds_toArray, List.set_cons_zero, List.set_cons_succ])
  refine take_put (i := 5) (v := .int .i64 u) 49 rfl rfl (by kernel_rfl) (by kernel_rfl) (by kernel_rfl) (fun _ _ _ h => h) (Or.inl ⟨by rfl, by intro Wy hSW; have hc := blk_cell hSW.1 6; go_simp⟩) (by assumption) ?_
  (try simp only [Act.put, List.setIfInBounds_toArray, List.set_cons_zero, List.set_cons_succ])
  refine take_put (i := 6) (v := .pointer (some ⟨BT, 3, none⟩)) 50 rfl rfl (by kernel_rfl) (by kernel_rfl) (by kernel_rfl) (fun _ _ _ h => h) (Or.inl ⟨by rfl, by intro Wy hSW; go_simp⟩) (by assumption) ?_
  (try simp only [Act.put, List.setIfInBounds_toArray, List.set_cons_zero, List.set_cons_succ])
  refine take_put (i := 7) (v := .int .i64 x3) 51 rfl rfl (by kernel_rfl) (by kernel_rfl) (by kernel_rfl) (fun _ _ _ h => h) (Or.inl ⟨by rfl, by intro Wy hSW; have hc := blk_cell hSW.2 3; go_simp⟩) (by assumption) ?_
  (try simp only [Act.put, List.setIfInBounds_toArray, List.set_cons_zero, List.set_cons_succ])
  refine take_put (i := 8) (v := .bool true) 52 rfl rfl (by kernel_rfl) (by kernel_rfl) (by kernel_rfl) (fun _ _ _ h => h) (Or.inl ⟨by rfl, by intro Wy hSW; go_simp⟩) (by assumption) ?_
  (try simp only [Act.put, List.setIfInBounds_toArray, List.set_cons_zero, List.set_cons_succ])
  refine take_put (i := 9) (v := .bool true) 53 rfl rfl (by kernel_rfl) (by kernel_rfl) (by kernel_rfl) (fun _ _ _ h => h) (Or.inl ⟨by rfl, by intro Wy hSW; go_simp⟩) (by assumption) ?_
  (try simp only [Act.put, List.setIfInBounds_toArray, List.set_cons_zero, List.set_cons_succ])
  refine take_put (i := 10) (v := .bool true) 54 rfl rfl (by kernel_rfl) (by kernel_rfl) (by kernel_rfl) (fun _ _ _ h => h) (Or.inl ⟨by rfl, by intro Wy hSW; go_simp⟩) (by assumption) ?_
  (try simp only [Act.put, List.setIfInBounds_toArray, List.set_cons_zero, List.set_cons_succ])
  refine take_put (i := 11) (v := .bool false) 55 rfl rfl (by kernel_rfl) (by kernel_rfl) (by kernel_rfl) (fun _ _ _ h => h) (Or.inl ⟨by rfl, by intro Wy hSW; go_simp⟩) (by assumption) ?_
  (try simp only [Act.put, List.setIfInBounds_toArray, List.set_cons_zero, List.set_cons_succ])
  refine take_put (i := 12) (v := .bool true) 56 rfl rfl (by kernel_rfl) (by kernel_rfl) (by kernel_rfl) (fun _ _ _ h => h) (Or.inl ⟨by rfl, by intro Wy hSW; go_simp⟩) (by assumption) ?_
  (try simp only [Act.put, List.setIfInBounds_toArray, List.set_cons_zero, List.set_cons_succ])
  refine take_put (i := 13) (v := .bool true) 57 rfl rfl (by kernel_rfl) (by kernel_rfl) (by kernel_rfl) (fun _ _ _ h => h) (Or.inl ⟨by rfl, by intro Wy hSW; go_simp⟩) (by assumption) ?_
  (try simp only [Act.put, List.setIfInBounds_toArray, List.set_cons_zero, List.set_cons_succ])
  refine take_put (i := 14) (v := .bool false) 58 rfl rfl (by kernel_rfl) (by kernel_rfl) (by kernel_rfl) (fun _ _ _ h => h) (Or.inl ⟨by rfl, by intro Wy hSW; go_simp⟩) (by assumption) ?_
  (try simp only [Act.put, List.setIfInBounds_toArray, List.set_cons_zero, List.set_cons_succ])
  refine take_put (i := 15) (v := .bool false) 59 rfl rfl (by kernel_rfl) (by kernel_rfl) (by kernel_rfl) (fun _ _ _ h => h) (Or.inl ⟨by rfl, by intro Wy hSW; go_simp⟩) (by assumption) ?_
  (try simp only [Act.put, List.setIfInBounds_toArray, List.set_cons_zero, List.set_cons_succ])
  refine take_put (i := 16) (v := .bool true) 60 rfl rfl (by kernel_rfl) (by kernel_rfl) (by kernel_rfl) (fun _ _ _ h => h) (Or.inl ⟨by rfl, by intro Wy hSW; go_simp⟩) (by assumption) ?_
  (try simp only [Act.put, List.setIfInBounds_toArray, List.set_cons_zero, List.set_cons_succ])
  refine take_put (i := 17) (v := .bool true) 61 rfl rfl (by kernel_rfl) (by kernel_rfl) (by kernel_rfl) (fun _ _ _ h => h) (Or.inl ⟨by rfl, by intro Wy hSW; go_simp⟩) (by assumption) ?_
  (try simp only [Act.put, List.setIfInBounds_toArray, List.set_cons_zero, List.set_cons_succ])
  refine take_put (i := 18) (v := .pointer (some ⟨BJ, 6, none⟩)) 62 rfl rfl (by kernel_rfl) (by kernel_rfl) (by kernel_rfl) (fun _ _ _ h => h) (Or.inl ⟨by rfl, by intro Wy hSW; go_simp⟩) (by assumption) ?_
  (try simp only [Act.put, List.setIfInBounds_toArray, List.set_cons_zero, List.set_cons_succ])
  refine take_put (i := 19) (v := .int .i64 u) 63 rfl rfl (by kernel_rfl) (by kernel_rfl) (by kernel_rfl) (fun _ _ _ h => h) (Or.inl ⟨by rfl, by intro Wy hSW; have hc := blk_cell hSW.1 6; go_simp⟩) (by assumption) ?_
  (try simp only [Act.put, List.setIfInBounds_toArray, List.set_cons_zero, List.set_cons_succ])
  refine take_put (i := 20) (v := .int .i64 x4) 64 rfl rfl (by kernel_rfl) (by kernel_rfl) (by kernel_rfl) (fun _ _ _ h => h) (Or.inl ⟨by rfl, by intro Wy hSW; go_simp⟩) (by assumption) ?_
  (try simp only [Act.put, List.setIfInBounds_toArray, List.set_cons_zero, List.set_cons_succ])
  refine take_put (i := 21) (v := .bool (u == x4)) 65 rfl rfl (by kernel_rfl) (by kernel_rfl) (by kernel_rfl) (fun _ _ _ h => h) (Or.inl ⟨by rfl, by intro Wy hSW; go_simp⟩) (by assumption) ?_
  (try simp only [Act.put, List.setIfInBounds_toArray, List.set_cons_zero, List.set_cons_succ])
  refine take_put (i := 22) (v := .bool (u == x4)) 66 rfl rfl (by kernel_rfl) (by kernel_rfl) (by kernel_rfl) (fun _ _ _ h => h) (Or.inl ⟨by rfl, by intro Wy hSW; go_simp⟩) (by assumption) ?_
  (try simp only [Act.put, List.setIfInBounds_toArray, List.set_cons_zero, List.set_cons_succ])
  refine take_put (i := 23) (v := .agg #[.bool true, .bool false, .bool (u == x4)]) 67 rfl rfl (by kernel_rfl) (by kernel_rfl) (by kernel_rfl) (fun _ _ _ h => h) (Or.inl ⟨by rfl, by intro Wy hSW; go_simp⟩) (by assumption) ?_
  (try simp only [Act.put, List.setIfInBounds_toArray, List.set_cons_zero, List.set_cons_succ])
  refine wpAnyH_ready (rs := [24]) (by kernel_rfl) (by simp) ?_
  refine AllReadyH.cons rfl (fun Kx hKx => ?_) AllReadyH.nil
  refine step_store 70 (.tmp 6) (.tmp 44) BR #[.int .i64 y0, .int .i64 y1, .int .i64 y2, .int .i64 y3, .int .i64 y4, .int .i64 y5, .int .i64 u] 70 #[.int .i64 0, .int .i64 0, .int .i64 0, .int .i64 0, .int .i64 0, .int .i64 0, .int .i64 0] rfl rfl HR.out sizeJ rfl (by simp [Value.oneCell']) ?_
  intro Y1 h1 e1 g1
  have HSSn : Hid ((fun W => W.heap[BJ]? = some (.cells #[.int .i64 y0, .int .i64 y1, .int .i64 y2, .int .i64 y3, .int .i64 y4, .int .i64 y5, .int .i64 u] 70 (0, 0)) ∧ W.heap[BT]? = some (.cells #[.int .i64 x0, .int .i64 x1, .int .i64 x2, .int .i64 x3, .int .i64 x4, .int .i64 x5] 73 (0, 0))) Y1) := hide ⟨(e1 BJ (by have := HOJ.out; omega)).trans HSS.out.1, (e1 BT (by have := HOJ.out; omega)).trans HSS.out.2⟩
  have HVn := hide ((e1 BV (by have := HOJ.out; omega)).trans HV.out)
  have HRn := hide h1
  have HGn := hide (grown_spoil HG.out LR.out g1)
  clear hHeld h1 e1 g1 HG HSS HR HV
  have HG := HGn
  have HSS := HSSn
  have HR := HRn
  have HV := HVn
  clear HGn HSSn HRn HVn
  refine hKx.out _ _ HSS.out (fun hHeld => ?_)
  clear hKx Kx
  (try simp only [Act.put])
  refine wpAnyH_ready (rs := [25]) (by kernel_rfl) (by simp) ?_
  refine AllReadyH.cons rfl (fun Kx hKx => ?_) AllReadyH.nil
  refine step_store 50 (.tmp 7) (.tmp 67) BV #[.bool true, .bool false, .bool (u == x4)] 50 #[.bool false, .bool false, .bool false] rfl rfl HV.out sizeV rfl (by simp [Value.oneCell']) ?_
  intro Y2 h1 e1 g1
  have HSSn : Hid ((fun W => W.heap[BJ]? = some (.cells #[.int .i64 y0, .int .i64 y1, .int .i64 y2, .int .i64 y3, .int .i64 y4, .int .i64 y5, .int .i64 u] 70 (0, 0)) ∧ W.heap[BT]? = some (.cells #[.int .i64 x0, .int .i64 x1, .int .i64 x2, .int .i64 x3, .int .i64 x4, .int .i64 x5] 73 (0, 0))) Y2) := hide ⟨(e1 BJ (by have := HOJ.out; omega)).trans HSS.out.1, (e1 BT (by have := HOJ.out; omega)).trans HSS.out.2⟩
  have HRn := hide ((e1 BR (by have := HOJ.out; omega)).trans HR.out)
  have HVn := hide h1
  have HGn := hide (grown_spoil HG.out LV.out g1)
  clear hHeld h1 e1 g1 HG HSS HR HV
  have HG := HGn
  have HSS := HSSn
  have HR := HRn
  have HV := HVn
  clear HGn HSSn HRn HVn
  refine hKx.out _ _ HSS.out (fun hHeld => ?_)
  clear hKx Kx
  (try simp only [Act.put])
  refine take_put (i := 26) (v := .int .i64 0) 8 rfl rfl (by kernel_rfl) (by kernel_rfl) (by kernel_rfl) (fun _ _ _ h => h) (Or.inl ⟨by rfl, by intro Wy hSW; go_simp⟩) (by assumption) ?_
  (try simp only [Act.put, List.setIfInBounds_toArray, List.set_cons_zero, List.set_cons_succ])
  refine wpAnyH_done (by kernel_rfl) ?_ _
  clear hHeld
  go_wp2
  refine bodyPost_ret (results_rrt rfl _ _ BR 70 #[.int .i64 y0, .int .i64 y1, .int .i64 y2, .int .i64 y3, .int .i64 y4, .int .i64 y5, .int .i64 u] (0, 0) _ BV 50 #[.bool true, .bool false, .bool (u == x4)] (0, 0) _ rfl HR.out Tryz.underlying70 rfl sizeJ rfl HV.out Tryz.underlying50 rfl sizeV) rfl ?_
  rw [HU.out]
  exact ⟨rfl, HG.out⟩
set_option maxRecDepth 100000 in
set_option maxHeartbeats 8000000 in
theorem rch_hi11 (j : JobV) (t : TaskV) (w w0 : World) (hg0 : w.grownBy w0 none) (hj : jobMay j = true) (ht : taskMay t = true) (hc : (j.used + 1 == t.clow) = true) (hd : (j.used + 1 == j.dem) = true) :
    Calls Tryz.prog 54 #[jobVal j, taskVal t, .int .i64 1] w0 fun e w' => e = .returned (.tuple #[jobVal (oneMore j), verVal false true false, .int .i64 0]) ∧ w.grownBy w' none := by
  have CM := hide (fun W => rjob_any j W)
  have CT := hide (fun W => R6.rtask_any t W)
  rw [hj] at CM
  rw [ht] at CT
  have HG := hide hg0
  have hj2 := job_parts hj
  clear hg0 hj ht
  obtain ⟨y0, y1, y2, y3, y4, y5, y6⟩ := j
  obtain ⟨x0, x1, x2, x3, x4, x5⟩ := t
  dsimp only [jobVal, taskVal, oneMore] at *
  have hu1 : 0 ≤ y6 := hj2.2.2.2.2.2.2.2.2.2.2.1
  have hu2 : y6 < 65535 := by omega
  have HC := hide hc
  have HD := hide hd
  clear hj2 hd hc
  go_enter Tryz.func54, Tryz.ntmps54
  go_upto_region 1 with (first | fail)
  have hg : w0.grownBy ((((w0.alloc (.cells #[.int .i64 y0, .int .i64 y1, .int .i64 y2, .int .i64 y3, .int .i64 y4, .int .i64 y5, .int .i64 y6] 70)).alloc (.cells #[.int .i64 x0, .int .i64 x1, .int .i64 x2, .int .i64 x3, .int .i64 x4, .int .i64 x5] 73)).alloc (.cells #[.int .i64 0, .int .i64 0, .int .i64 0, .int .i64 0, .int .i64 0, .int .i64 0, .int .i64 0] 70)).alloc (.cells #[.bool false, .bool false, .bool false] 50)) none := (grownBy_trans (grownBy_trans (grownBy_trans (grownBy_trans (grownBy_refl _ _) (World.grownBy_alloc _ _ none)) (World.grownBy_alloc _ _ none)) (World.grownBy_alloc _ _ none)) (World.grownBy_alloc _ _ none))
  have hJ := heap_alloc_new w0 (.cells #[.int .i64 y0, .int .i64 y1, .int .i64 y2, .int .i64 y3, .int .i64 y4, .int .i64 y5, .int .i64 y6] 70)
  have HJq := hide (hp_up (hp_up (hp_up hJ (.cells #[.int .i64 x0, .int .i64 x1, .int .i64 x2, .int .i64 x3, .int .i64 x4, .int .i64 x5] 73)) (.cells #[.int .i64 0, .int .i64 0, .int .i64 0, .int .i64 0, .int .i64 0, .int .i64 0, .int .i64 0] 70)) (.cells #[.bool false, .bool false, .bool false] 50))
  clear hJ
  have LJ : Hid (w.heap.size ≤ w0.heap.size) := hide (by have := HG.out.size; omega)
  have hT : ((w0.alloc (.cells #[.int .i64 y0, .int .i64 y1, .int .i64 y2, .int .i64 y3, .int .i64 y4, .int .i64 y5, .int .i64 y6] 70)).alloc (.cells #[.int .i64 x0, .int .i64 x1, .int .i64 x2, .int .i64 x3, .int .i64 x4, .int .i64 x5] 73)).heap[w0.heap.size + 1]? = some (.cells #[.int .i64 x0, .int .i64 x1, .int .i64 x2, .int .i64 x3, .int .i64 x4, .int .i64 x5] 73) := by have h := heap_alloc_new (w0.alloc (.cells #[.int .i64 y0, .int .i64 y1, .int .i64 y2, .int .i64 y3, .int .i64 y4, .int .i64 y5, .int .i64 y6] 70)) (.cells #[.int .i64 x0, .int .i64 x1, .int .i64 x2, .int .i64 x3, .int .i64 x4, .int .i64 x5] 73); rwa [show (w0.alloc (.cells #[.int .i64 y0, .int .i64 y1, .int .i64 y2, .int .i64 y3, .int .i64 y4, .int .i64 y5, .int .i64 y6] 70)).heap.size = w0.heap.size + 1 by simp] at h
  have HTq := hide (hp_up (hp_up hT (.cells #[.int .i64 0, .int .i64 0, .int .i64 0, .int .i64 0, .int .i64 0, .int .i64 0, .int .i64 0] 70)) (.cells #[.bool false, .bool false, .bool false] 50))
  clear hT
  have LT : Hid (w.heap.size ≤ w0.heap.size + 1) := hide (by have := HG.out.size; omega)
  have hR : (((w0.alloc (.cells #[.int .i64 y0, .int .i64 y1, .int .i64 y2, .int .i64 y3, .int .i64 y4, .int .i64 y5, .int .i64 y6] 70)).alloc (.cells #[.int .i64 x0, .int .i64 x1, .int .i64 x2, .int .i64 x3, .int .i64 x4, .int .i64 x5] 73)).alloc (.cells #[.int .i64 0, .int .i64 0, .int .i64 0, .int .i64 0, .int .i64 0, .int .i64 0, .int .i64 0] 70)).heap[w0.heap.size + 1 + 1]? = some (.cells #[.int .i64 0, .int .i64 0, .int .i64 0, .int .i64 0, .int .i64 0, .int .i64 0, .int .i64 0] 70) := by have h := heap_alloc_new ((w0.alloc (.cells #[.int .i64 y0, .int .i64 y1, .int .i64 y2, .int .i64 y3, .int .i64 y4, .int .i64 y5, .int .i64 y6] 70)).alloc (.cells #[.int .i64 x0, .int .i64 x1, .int .i64 x2, .int .i64 x3, .int .i64 x4, .int .i64 x5] 73)) (.cells #[.int .i64 0, .int .i64 0, .int .i64 0, .int .i64 0, .int .i64 0, .int .i64 0, .int .i64 0] 70); rwa [show ((w0.alloc (.cells #[.int .i64 y0, .int .i64 y1, .int .i64 y2, .int .i64 y3, .int .i64 y4, .int .i64 y5, .int .i64 y6] 70)).alloc (.cells #[.int .i64 x0, .int .i64 x1, .int .i64 x2, .int .i64 x3, .int .i64 x4, .int .i64 x5] 73)).heap.size = w0.heap.size + 1 + 1 by simp] at h
  have HRq := hide (hp_up hR (.cells #[.bool false, .bool false, .bool false] 50))
  clear hR
  have LR : Hid (w.heap.size ≤ w0.heap.size + 1 + 1) := hide (by have := HG.out.size; omega)
  have hV : ((((w0.alloc (.cells #[.int .i64 y0, .int .i64 y1, .int .i64 y2, .int .i64 y3, .int .i64 y4, .int .i64 y5, .int .i64 y6] 70)).alloc (.cells #[.int .i64 x0, .int .i64 x1, .int .i64 x2, .int .i64 x3, .int .i64 x4, .int .i64 x5] 73)).alloc (.cells #[.int .i64 0, .int .i64 0, .int .i64 0, .int .i64 0, .int .i64 0, .int .i64 0, .int .i64 0] 70)).alloc (.cells #[.bool false, .bool false, .bool false] 50)).heap[w0.heap.size + 1 + 1 + 1]? = some (.cells #[.bool false, .bool false, .bool false] 50) := by have h := heap_alloc_new (((w0.alloc (.cells #[.int .i64 y0, .int .i64 y1, .int .i64 y2, .int .i64 y3, .int .i64 y4, .int .i64 y5, .int .i64 y6] 70)).alloc (.cells #[.int .i64 x0, .int .i64 x1, .int .i64 x2, .int .i64 x3, .int .i64 x4, .int .i64 x5] 73)).alloc (.cells #[.int .i64 0, .int .i64 0, .int .i64 0, .int .i64 0, .int .i64 0, .int .i64 0, .int .i64 0] 70)) (.cells #[.bool false, .bool false, .bool false] 50); rwa [show (((w0.alloc (.cells #[.int .i64 y0, .int .i64 y1, .int .i64 y2, .int .i64 y3, .int .i64 y4, .int .i64 y5, .int .i64 y6] 70)).alloc (.cells #[.int .i64 x0, .int .i64 x1, .int .i64 x2, .int .i64 x3, .int .i64 x4, .int .i64 x5] 73)).alloc (.cells #[.int .i64 0, .int .i64 0, .int .i64 0, .int .i64 0, .int .i64 0, .int .i64 0, .int .i64 0] 70)).heap.size = w0.heap.size + 1 + 1 + 1 by simp] at h
  have HVq := hide hV
  clear hV
  have LV : Hid (w.heap.size ≤ w0.heap.size + 1 + 1 + 1) := hide (by have := HG.out.size; omega)
  have HGn := hide (grownBy_trans HG.out hg)
  clear HG
  have HG := HGn
  clear HGn
  clear hg
  have HJ := HJq
  clear HJq
  have HT := HTq
  clear HTq
  have HR := HRq
  clear HRq
  have HV := HVq
  clear HVq
  have HOJ : Hid (w0.heap.size < w0.heap.size + 1 ∧ w0.heap.size + 1 < w0.heap.size + 1 + 1 ∧ w0.heap.size + 1 + 1 < w0.heap.size + 1 + 1 + 1) := hide (by omega)
  generalize hWx : ((((w0.alloc (.cells #[.int .i64 y0, .int .i64 y1, .int .i64 y2, .int .i64 y3, .int .i64 y4, .int .i64 y5, .int .i64 y6] 70)).alloc (.cells #[.int .i64 x0, .int .i64 x1, .int .i64 x2, .int .i64 x3, .int .i64 x4, .int .i64 x5] 73)).alloc (.cells #[.int .i64 0, .int .i64 0, .int .i64 0, .int .i64 0, .int .i64 0, .int .i64 0, .int .i64 0] 70)).alloc (.cells #[.bool false, .bool false, .bool false] 50)) = w1 at *
  clear hWx
  generalize hBx : w0.heap.size + 1 + 1 + 1 = BV at *
  clear hBx
  generalize hBx : w0.heap.size + 1 + 1 = BR at *
  clear hBx
  generalize hBx : w0.heap.size + 1 = BT at *
  clear hBx
  generalize hBx : w0.heap.size = BJ at *
  clear hBx
  have cJ0 : w1.cell? ⟨BJ, 0, none⟩ = some (.int .i64 y0) := blk_cell HJ.out 0
  have cJ1 : w1.cell? ⟨BJ, 1, none⟩ = some (.int .i64 y1) := blk_cell HJ.out 1
  have cJ2 : w1.cell? ⟨BJ, 2, none⟩ = some (.int .i64 y2) := blk_cell HJ.out 2
  have cJ3 : w1.cell? ⟨BJ, 3, none⟩ = some (.int .i64 y3) := blk_cell HJ.out 3
  have cJ4 : w1.cell? ⟨BJ, 4, none⟩ = some (.int .i64 y4) := blk_cell HJ.out 4
  have cJ5 : w1.cell? ⟨BJ, 5, none⟩ = some (.int .i64 y5) := blk_cell HJ.out 5
  have cJ6 : w1.cell? ⟨BJ, 6, none⟩ = some (.int .i64 y6) := blk_cell HJ.out 6
  go_wp2_with (first | fail)
  refine (CM.out _).mono ?_; rintro e w2 ⟨rfl, hg⟩
  clear cJ0 cJ1 cJ2 cJ3 cJ4 cJ5 cJ6
  have HGn := hide (grownBy_trans HG.out hg)
  have HJn := hide (box_grown HJ.out hg (by simp))
  have HTn := hide (box_grown HT.out hg (by simp))
  have HRn := hide (box_grown HR.out hg (by simp))
  have HVn := hide (box_grown HV.out hg (by simp))
  clear HG HJ HT HR HV
  have HG := HGn
  have HJ := HJn
  have HT := HTn
  have HR := HRn
  have HV := HVn
  clear HGn HJn HTn HRn HVn
  clear hg
  have cT0 : w2.cell? ⟨BT, 0, none⟩ = some (.int .i64 x0) := blk_cell HT.out 0
  have cT1 : w2.cell? ⟨BT, 1, none⟩ = some (.int .i64 x1) := blk_cell HT.out 1
  have cT2 : w2.cell? ⟨BT, 2, none⟩ = some (.int .i64 x2) := blk_cell HT.out 2
  have cT3 : w2.cell? ⟨BT, 3, none⟩ = some (.int .i64 x3) := blk_cell HT.out 3
  have cT4 : w2.cell? ⟨BT, 4, none⟩ = some (.int .i64 x4) := blk_cell HT.out 4
  have cT5 : w2.cell? ⟨BT, 5, none⟩ = some (.int .i64 x5) := blk_cell HT.out 5
  go_wp2_with (first | fail)
  refine (CT.out _).mono ?_; rintro e w3 ⟨rfl, hg⟩
  clear cT0 cT1 cT2 cT3 cT4 cT5
  have HGn := hide (grownBy_trans HG.out hg)
  have HJn := hide (box_grown HJ.out hg (by simp))
  have HTn := hide (box_grown HT.out hg (by simp))
  have HRn := hide (box_grown HR.out hg (by simp))
  have HVn := hide (box_grown HV.out hg (by simp))
  clear HG HJ HT HR HV
  have HG := HGn
  have HJ := HJn
  have HT := HTn
  have HR := HRn
  have HV := HVn
  clear HGn HJn HTn HRn HVn
  clear hg
  have cJ6 : w3.cell? ⟨BJ, 6, none⟩ = some (.int .i64 y6) := blk_cell HJ.out 6
  have fJ6 := blk_free HJ.out 6
  go_upto_region 4 with (first | fail)
  generalize hU : y6 + 1 = u at *
  have HU := hide hU
  clear hU hu1 hu2
  clear cJ6 fJ6
  have hg := grownBy_set w3 BJ 6 (.int .i64 u)
  have HGn := hide (grown_spoil HG.out LJ.out hg)
  have HTn := hide (box_type HT.out hg (type_box HJ.out) (by decide))
  have HRn := hide (box_grown HR.out hg (by simp; have := HOJ.out; omega))
  have HVn := hide (box_type HV.out hg (type_box HJ.out) (by decide))
  have HJn := hide (blk_set (j := 6) (u := .int .i64 u) (cs' := #[.int .i64 y0, .int .i64 y1, .int .i64 y2, .int .i64 y3, .int .i64 y4, .int .i64 y5, .int .i64 u]) HJ.out rfl)
  clear HG HT HR HV HJ
  have HG := HGn
  have HT := HTn
  have HR := HRn
  have HV := HVn
  have HJ := HJn
  clear HGn HTn HRn HVn HJn
  clear hg
  generalize hWx : w3.setCell ⟨BJ, 6, none⟩ (.int .i64 u) = w4 at *
  clear hWx
  have hd := HD.out
  have cJ6 : w4.cell? ⟨BJ, 6, none⟩ = some (.int .i64 u) := blk_cell HJ.out 6
  have cJ5 : w4.cell? ⟨BJ, 5, none⟩ = some (.int .i64 y5) := blk_cell HJ.out 5
  have cT3 : w4.cell? ⟨BT, 3, none⟩ = some (.int .i64 x3) := blk_cell HT.out 3
  have cT4 : w4.cell? ⟨BT, 4, none⟩ = some (.int .i64 x4) := blk_cell HT.out 4
  go_upto_region 8 with (first | fail)
  clear cJ6 cJ5 cT3 cT4
  have hc := HC.out
  have HSS : Hid ((fun W => W.heap[BJ]? = some (.cells #[.int .i64 y0, .int .i64 y1, .int .i64 y2, .int .i64 y3, .int .i64 y4, .int .i64 y5, .int .i64 u] 70 (0, 0)) ∧ W.heap[BT]? = some (.cells #[.int .i64 x0, .int .i64 x1, .int .i64 x2, .int .i64 x3, .int .i64 x4, .int .i64 x5] 73 (0, 0))) w4) := hide ⟨HJ.out, HT.out⟩
  refine wp_region_held_drew (S := fun W => W.heap[BJ]? = some (.cells #[.int .i64 y0, .int .i64 y1, .int .i64 y2, .int .i64 y3, .int .i64 y4, .int .i64 y5, .int .i64 u] 70 (0, 0)) ∧ W.heap[BT]? = some (.cells #[.int .i64 x0, .int .i64 x1, .int .i64 x2, .int .i64 x3, .int .i64 x4, .int .i64 x5] 73 (0, 0))) (by kernel_rfl) HSS.out (fun hHeld => ?_)
  have HGd : Hid (w.grownBy w4.drew none) := hide (grownBy_trans HG.out (grownBy_draws w4 1 none))
  have HSSd : Hid ((fun W => W.heap[BJ]? = some (.cells #[.int .i64 y0, .int .i64 y1, .int .i64 y2, .int .i64 y3, .int .i64 y4, .int .i64 y5, .int .i64 u] 70 (0, 0)) ∧ W.heap[BT]? = some (.cells #[.int .i64 x0, .int .i64 x1, .int .i64 x2, .int .i64 x3, .int .i64 x4, .int .i64 x5] 73 (0, 0))) w4.drew) := hide HSS.out
  have HRd := hide (box_grown HR.out (grownBy_draws w4 1 none) (by simp))
  have HVd := hide (box_grown HV.out (grownBy_draws w4 1 none) (by simp))
  clear HG HSS HR HV HJ HT
  have hdd : w4.drewN 1 = w4.drew := rfl
  rw [hdd] at HRd HVd
  clear hdd
  generalize w4.drew = W at *
  have HG := HGd
  have HSS := HSSd
  have HR := HRd
  have HV := HVd
  clear HGd HSSd HRd HVd
  refine take_put (i := 0) (v := .agg #[.int .i64 y0, .int .i64 y1, .int .i64 y2, .int .i64 y3, .int .i64 y4, .int .i64 y5, .int .i64 u]) 44 rfl rfl (by kernel_rfl) (by kernel_rfl) (by kernel_rfl) (fun _ _ _ h => h) (Or.inl ⟨by rfl, by intro Wy hSW; have hc := (⟨blk_cell hSW.1 0, blk_cell hSW.1 1, blk_cell hSW.1 2, blk_cell hSW.1 3, blk_cell hSW.1 4, blk_cell hSW.1 5, blk_cell hSW.1 6⟩ : _ ∧ _ ∧ _ ∧ _ ∧ _ ∧ _ ∧ _); go_simp⟩) (by assumption) ?_
  (try simp only [Act.put, List.setIfInBounds_toArray, List.set_cons_zero, List.set_cons_succ])
  refine take_put (i := 1) (v := .int .i64 1) 45 rfl rfl (by kernel_rfl) (by kernel_rfl) (by kernel_rfl) (fun _ _ _ h => h) (Or.inl ⟨by rfl, by intro Wy hSW; go_simp⟩) (by assumption) ?_
  (try simp only [Act.put, List.setIfInBounds_toArray, List.set_cons_zero, List.set_cons_succ])
  refine take_put (i := 2) (v := .bool true) 46 rfl rfl (by kernel_rfl) (by kernel_rfl) (by kernel_rfl) (fun _ _ _ h => h) (Or.inl ⟨by rfl, by intro Wy hSW; go_simp⟩) (by assumption) ?_
  (try simp only [Act.put, List.setIfInBounds_toArray, List.set_cons_zero, List.set_cons_succ])
  refine take_put (i := 3) (v := .bool true) 47 rfl rfl (by kernel_rfl) (by kernel_rfl) (by kernel_rfl) (fun _ _ _ h => h) (Or.inl ⟨by rfl, by intro Wy hSW; go_simp⟩) (by assumption) ?_
  (try simp only [Act.put, List.setIfInBounds_toArray, List.set_cons_zero, List.set_cons_succ])
  refine take_put (i := 4) (v := .pointer (some ⟨BJ, 6, none⟩)) 48 rfl rfl (by kernel_rfl) (by kernel_rfl) (by kernel_rfl) (fun _ _ _ h => h) (Or.inl ⟨by rfl, by intro Wy hSW; go_simp⟩) (by assumption) ?_
  (try simp only [Act.put, List.setIfInBounds_toArray, List.set_cons_zero, List.set_cons_succ])
  refine take_put (i := 5) (v := .int .i64 u) 49 rfl rfl (by kernel_rfl) (by kernel_rfl) (by kernel_rfl) (fun _ _ _ h => h) (Or.inl ⟨by rfl, by intro Wy hSW; have hc := blk_cell hSW.1 6; go_simp⟩) (by assumption) ?_
  (try simp only [Act.put, List.setIfInBounds_toArray, List.set_cons_zero, List.set_cons_succ])
  refine take_put (i := 6) (v := .pointer (some ⟨BT, 3, none⟩)) 50 rfl rfl (by kernel_rfl) (by kernel_rfl) (by kernel_rfl) (fun _ _ _ h => h) (Or.inl ⟨by rfl, by intro Wy hSW; go_simp⟩) (by assumption) ?_
  (try simp only [Act.put, List.setIfInBounds_toArray, List.set_cons_zero, List.set_cons_succ])
  refine take_put (i := 7) (v := .int .i64 x3) 51 rfl rfl (by kernel_rfl) (by kernel_rfl) (by kernel_rfl) (fun _ _ _ h => h) (Or.inl ⟨by rfl, by intro Wy hSW; have hc := blk_cell hSW.2 3; go_simp⟩) (by assumption) ?_
  (try simp only [Act.put, List.setIfInBounds_toArray, List.set_cons_zero, List.set_cons_succ])
  refine take_put (i := 8) (v := .bool true) 52 rfl rfl (by kernel_rfl) (by kernel_rfl) (by kernel_rfl) (fun _ _ _ h => h) (Or.inl ⟨by rfl, by intro Wy hSW; go_simp⟩) (by assumption) ?_
  (try simp only [Act.put, List.setIfInBounds_toArray, List.set_cons_zero, List.set_cons_succ])
  refine take_put (i := 9) (v := .bool true) 53 rfl rfl (by kernel_rfl) (by kernel_rfl) (by kernel_rfl) (fun _ _ _ h => h) (Or.inl ⟨by rfl, by intro Wy hSW; go_simp⟩) (by assumption) ?_
  (try simp only [Act.put, List.setIfInBounds_toArray, List.set_cons_zero, List.set_cons_succ])
  refine take_put (i := 10) (v := .bool true) 54 rfl rfl (by kernel_rfl) (by kernel_rfl) (by kernel_rfl) (fun _ _ _ h => h) (Or.inl ⟨by rfl, by intro Wy hSW; go_simp⟩) (by assumption) ?_
  (try simp only [Act.put, List.setIfInBounds_toArray, List.set_cons_zero, List.set_cons_succ])
  refine take_put (i := 11) (v := .bool true) 55 rfl rfl (by kernel_rfl) (by kernel_rfl) (by kernel_rfl) (fun _ _ _ h => h) (Or.inl ⟨by rfl, by intro Wy hSW; go_simp⟩) (by assumption) ?_
  (try simp only [Act.put, List.setIfInBounds_toArray, List.set_cons_zero, List.set_cons_succ])
  refine take_put (i := 12) (v := .bool false) 56 rfl rfl (by kernel_rfl) (by kernel_rfl) (by kernel_rfl) (fun _ _ _ h => h) (Or.inl ⟨by rfl, by intro Wy hSW; go_simp⟩) (by assumption) ?_
  (try simp only [Act.put, List.setIfInBounds_toArray, List.set_cons_zero, List.set_cons_succ])
  refine take_put (i := 13) (v := .bool false) 57 rfl rfl (by kernel_rfl) (by kernel_rfl) (by kernel_rfl) (fun _ _ _ h => h) (Or.inl ⟨by rfl, by intro Wy hSW; go_simp⟩) (by assumption) ?_
  (try simp only [Act.put, List.setIfInBounds_toArray, List.set_cons_zero, List.set_cons_succ])
  refine take_put (i := 14) (v := .bool true) 58 rfl rfl (by kernel_rfl) (by kernel_rfl) (by kernel_rfl) (fun _ _ _ h => h) (Or.inl ⟨by rfl, by intro Wy hSW; go_simp⟩) (by assumption) ?_
  (try simp only [Act.put, List.setIfInBounds_toArray, List.set_cons_zero, List.set_cons_succ])
  refine take_put (i := 15) (v := .bool true) 59 rfl rfl (by kernel_rfl) (by kernel_rfl) (by kernel_rfl) (fun _ _ _ h => h) (Or.inl ⟨by rfl, by intro Wy hSW; go_simp⟩) (by assumption) ?_
  (try simp only [Act.put, List.setIfInBounds_toArray, List.set_cons_zero, List.set_cons_succ])
  refine take_put (i := 16) (v := .bool false) 60 rfl rfl (by kernel_rfl) (by kernel_rfl) (by kernel_rfl) (fun _ _ _ h => h) (Or.inl ⟨by rfl, by intro Wy hSW; go_simp⟩) (by assumption) ?_
  (try simp only [Act.put, List.setIfInBounds_toArray, List.set_cons_zero, List.set_cons_succ])
  refine take_put (i := 17) (v := .bool false) 61 rfl rfl (by kernel_rfl) (by kernel_rfl) (by kernel_rfl) (fun _ _ _ h => h) (Or.inl ⟨by rfl, by intro Wy hSW; go_simp⟩) (by assumption) ?_
  (try simp only [Act.put, List.setIfInBounds_toArray, List.set_cons_zero, List.set_cons_succ])
  refine take_put (i := 18) (v := undef) 62 rfl rfl (by kernel_rfl) (by kernel_rfl) (by kernel_rfl) (fun _ _ _ h => h) (Or.inr ⟨by rfl, rfl⟩) (by assumption) ?_
  (try simp only [Act.put, List.setIfInBounds_toArray, List.set_cons_zero, List.set_cons_succ])
  refine take_put (i := 19) (v := undef) 63 rfl rfl (by kernel_rfl) (by kernel_rfl) (by kernel_rfl) (fun _ _ _ h => h) (Or.inr ⟨by rfl, rfl⟩) (by assumption) ?_
  (try simp only [Act.put, List.setIfInBounds_toArray, List.set_cons_zero, List.set_cons_succ])
  refine take_put (i := 20) (v := undef) 64 rfl rfl (by kernel_rfl) (by kernel_rfl) (by kernel_rfl) (fun _ _ _ h => h) (Or.inr ⟨by rfl, rfl⟩) (by assumption) ?_
  (try simp only [Act.put, List.setIfInBounds_toArray, List.set_cons_zero, List.set_cons_succ])
  refine take_put (i := 21) (v := undef) 65 rfl rfl (by kernel_rfl) (by kernel_rfl) (by kernel_rfl) (fun _ _ _ h => h) (Or.inr ⟨by rfl, rfl⟩) (by assumption) ?_
  (try simp only [Act.put, List.setIfInBounds_toArray, List.set_cons_zero, List.set_cons_succ])
  refine take_put (i := 22) (v := .bool false) 66 rfl rfl (by kernel_rfl) (by kernel_rfl) (by kernel_rfl) (fun _ _ _ h => h) (Or.inl ⟨by rfl, by intro Wy hSW; go_simp⟩) (by assumption) ?_
  (try simp only [Act.put, List.setIfInBounds_toArray, List.set_cons_zero, List.set_cons_succ])
  refine take_put (i := 23) (v := .agg #[.bool false, .bool true, .bool false]) 67 rfl rfl (by kernel_rfl) (by kernel_rfl) (by kernel_rfl) (fun _ _ _ h => h) (Or.inl ⟨by rfl, by intro Wy hSW; go_simp⟩) (by assumption) ?_
  (try simp only [Act.put, List.setIfInBounds_toArray, List.set_cons_zero, List.set_cons_succ])
  refine wpAnyH_ready (rs := [24]) (by kernel_rfl) (by simp) ?_
  refine AllReadyH.cons rfl (fun Kx hKx => ?_) AllReadyH.nil
  refine step_store 70 (.tmp 6) (.tmp 44) BR #[.int .i64 y0, .int .i64 y1, .int .i64 y2, .int .i64 y3, .int .i64 y4, .int .i64 y5, .int .i64 u] 70 #[.int .i64 0, .int .i64 0, .int .i64 0, .int .i64 0, .int .i64 0, .int .i64 0, .int .i64 0] rfl rfl HR.out sizeJ rfl (by simp [Value.oneCell']) ?_
  intro Y1 h1 e1 g1
  have HSSn : Hid ((fun W => W.heap[BJ]? = some (.cells #[.int .i64 y0, .int .i64 y1, .int .i64 y2, .int .i64 y3, .int .i64 y4, .int .i64 y5, .int .i64 u] 70 (0, 0)) ∧ W.heap[BT]? = some (.cells #[.int .i64 x0, .int .i64 x1, .int .i64 x2, .int .i64 x3, .int .i64 x4, .int .i64 x5] 73 (0, 0))) Y1) := hide ⟨(e1 BJ (by have := HOJ.out; omega)).trans HSS.out.1, (e1 BT (by have := HOJ.out; omega)).trans HSS.out.2⟩
  have HVn := hide ((e1 BV (by have := HOJ.out; omega)).trans HV.out)
  have HRn := hide h1
  have HGn := hide (grown_spoil HG.out LR.out g1)
  clear hHeld h1 e1 g1 HG HSS HR HV
  have HG := HGn
  have HSS := HSSn
  have HR := HRn
  have HV := HVn
  clear HGn HSSn HRn HVn
  refine hKx.out _ _ HSS.out (fun hHeld => ?_)
  clear hKx Kx
  (try simp only [Act.put])
  refine wpAnyH_ready (rs := [25]) (by kernel_rfl) (by simp) ?_
  refine AllReadyH.cons rfl (fun Kx hKx => ?_) AllReadyH.nil
  refine step_store 50 (.tmp 7) (.tmp 67) BV #[.bool false, .bool true, .bool false] 50 #[.bool false, .bool false, .bool false] rfl rfl HV.out sizeV rfl (by simp [Value.oneCell']) ?_
  intro Y2 h1 e1 g1
  have HSSn : Hid ((fun W => W.heap[BJ]? = some (.cells #[.int .i64 y0, .int .i64 y1, .int .i64 y2, .int .i64 y3, .int .i64 y4, .int .i64 y5, .int .i64 u] 70 (0, 0)) ∧ W.heap[BT]? = some (.cells #[.int .i64 x0, .int .i64 x1, .int .i64 x2, .int .i64 x3, .int .i64 x4, .int .i64 x5] 73 (0, 0))) Y2) := hide ⟨(e1 BJ (by have := HOJ.out; omega)).trans HSS.out.1, (e1 BT (by have := HOJ.out; omega)).trans HSS.out.2⟩
  have HRn := hide ((e1 BR (by have := HOJ.out; omega)).trans HR.out)
  have HVn := hide h1
  have HGn := hide (grown_spoil HG.out LV.out g1)
  clear hHeld h1 e1 g1 HG HSS HR HV
  have HG := HGn
  have HSS := HSSn
  have HR := HRn
  have HV := HVn
  clear HGn HSSn HRn HVn
  refine hKx.out _ _ HSS.out (fun hHeld => ?_)
  clear hKx Kx
  (try simp only [Act.put])
  refine take_put (i := 26) (v := .int .i64 0) 8 rfl rfl (by kernel_rfl) (by kernel_rfl) (by kernel_rfl) (fun _ _ _ h => h) (Or.inl ⟨by rfl, by intro Wy hSW; go_simp⟩) (by assumption) ?_
  (try simp only [Act.put, List.setIfInBounds_toArray, List.set_cons_zero, List.set_cons_succ])
  refine wpAnyH_done (by kernel_rfl) ?_ _
  clear hHeld
  go_wp2
  refine bodyPost_ret (results_rrt rfl _ _ BR 70 #[.int .i64 y0, .int .i64 y1, .int .i64 y2, .int .i64 y3, .int .i64 y4, .int .i64 y5, .int .i64 u] (0, 0) _ BV 50 #[.bool false, .bool true, .bool false] (0, 0) _ rfl HR.out Tryz.underlying70 rfl sizeJ rfl HV.out Tryz.underlying50 rfl sizeV) rfl ?_
  rw [HU.out]
  exact ⟨rfl, HG.out⟩
#print axioms rch_hi00
end Go.Proofs.YtlppfocoonnpjaaGreatDoor.J
