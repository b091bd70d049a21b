/- The walk of the statement Charges: the program's Charge answers as the document's; proved over the translation. -/
import Derived.Test.YtabnkmghgkmbmaaAw
namespace Go.Proofs.Ytabnkmghgkmbmaa
open Go.RowKit
attribute [local go_sem] alloc_drewN setCell_drewN

set_option maxRecDepth 100000 in
set_option maxHeartbeats 8000000 in
theorem charges_from (j : JobV) (t : TaskV) (l : Int) (w w0 : World) (hg0 : w.grownBy w0 none) : Calls Try.prog 3 #[jobVal j, taskVal t, .int .i64 l] w0 fun e w' => e = .returned (.bool true) ∧ w.grownBy w' none := by
  have NUM := hide num_to
  have CH := hide (fun W => ch_any j t l W)
  have CR := hide (fun W => rch_any j t l W)
  have HG := hide hg0
  clear hg0
  unfold chV at CH CR
  generalize chJ j t l = z at *
  generalize chO j t l = bo at *
  generalize chD j t l = bd at *
  generalize chK j t l = bk at *
  generalize chE j t l = E at *
  obtain ⟨y0, y1, y2, y3, y4, y5, y6⟩ := j
  obtain ⟨x0, x1, x2, x3, x4, x5⟩ := t
  obtain ⟨z0, z1, z2, z3, z4, z5, z6⟩ := z
  dsimp only [jobVal, taskVal] at *
  go_enter Try.func3, Try.ntmps3
  go_upto_region 1 with (first | fail)
  have hg : w0.grownBy ((w0.alloc (.cells #[.int .i64 y0, .int .i64 y1, .int .i64 y2, .int .i64 y3, .int .i64 y4, .int .i64 y5, .int .i64 y6] 23)).alloc (.cells #[.int .i64 x0, .int .i64 x1, .int .i64 x2, .int .i64 x3, .int .i64 x4, .int .i64 x5] 25)) none := (grownBy_trans (grownBy_trans (grownBy_refl _ _) (World.grownBy_alloc _ _ none)) (World.grownBy_alloc _ _ none))
  have hJ := heap_alloc_new w0 (.cells #[.int .i64 y0, .int .i64 y1, .int .i64 y2, .int .i64 y3, .int .i64 y4, .int .i64 y5, .int .i64 y6] 23)
  have HJq := hide (hp_up hJ (.cells #[.int .i64 x0, .int .i64 x1, .int .i64 x2, .int .i64 x3, .int .i64 x4, .int .i64 x5] 25))
  clear hJ
  have LJ : Hid (w.heap.size ≤ w0.heap.size) := hide (by have := HG.out.size; omega)
  have hT : ((w0.alloc (.cells #[.int .i64 y0, .int .i64 y1, .int .i64 y2, .int .i64 y3, .int .i64 y4, .int .i64 y5, .int .i64 y6] 23)).alloc (.cells #[.int .i64 x0, .int .i64 x1, .int .i64 x2, .int .i64 x3, .int .i64 x4, .int .i64 x5] 25)).heap[w0.heap.size + 1]? = some (.cells #[.int .i64 x0, .int .i64 x1, .int .i64 x2, .int .i64 x3, .int .i64 x4, .int .i64 x5] 25) := by have h := heap_alloc_new (w0.alloc (.cells #[.int .i64 y0, .int .i64 y1, .int .i64 y2, .int .i64 y3, .int .i64 y4, .int .i64 y5, .int .i64 y6] 23)) (.cells #[.int .i64 x0, .int .i64 x1, .int .i64 x2, .int .i64 x3, .int .i64 x4, .int .i64 x5] 25); rwa [show (w0.alloc (.cells #[.int .i64 y0, .int .i64 y1, .int .i64 y2, .int .i64 y3, .int .i64 y4, .int .i64 y5, .int .i64 y6] 23)).heap.size = w0.heap.size + 1 by simp] at h
  have HTq := hide hT
  clear hT
  have LT : Hid (w.heap.size ≤ w0.heap.size + 1) := hide (by have := HG.out.size; omega)
  have HGn := hide (grownBy_trans HG.out hg)
  clear HG
  have HG := HGn
  clear HGn
  clear hg
  have HJ := HJq
  clear HJq
  have HT := HTq
  clear HTq
  have HOJ : Hid (w0.heap.size < w0.heap.size + 1) := hide (by omega)
  generalize hWx : ((w0.alloc (.cells #[.int .i64 y0, .int .i64 y1, .int .i64 y2, .int .i64 y3, .int .i64 y4, .int .i64 y5, .int .i64 y6] 23)).alloc (.cells #[.int .i64 x0, .int .i64 x1, .int .i64 x2, .int .i64 x3, .int .i64 x4, .int .i64 x5] 25)) = w1 at *
  clear hWx
  generalize hBx : w0.heap.size + 1 = BT at *
  clear hBx
  generalize hBx : w0.heap.size = BJ at *
  clear hBx
  have cJ0 : w1.cell? ⟨BJ, 0, none⟩ = some (.int .i64 y0) := blk_cell HJ.out 0
  have cJ1 : w1.cell? ⟨BJ, 1, none⟩ = some (.int .i64 y1) := blk_cell HJ.out 1
  have cJ2 : w1.cell? ⟨BJ, 2, none⟩ = some (.int .i64 y2) := blk_cell HJ.out 2
  have cJ3 : w1.cell? ⟨BJ, 3, none⟩ = some (.int .i64 y3) := blk_cell HJ.out 3
  have cJ4 : w1.cell? ⟨BJ, 4, none⟩ = some (.int .i64 y4) := blk_cell HJ.out 4
  have cJ5 : w1.cell? ⟨BJ, 5, none⟩ = some (.int .i64 y5) := blk_cell HJ.out 5
  have cJ6 : w1.cell? ⟨BJ, 6, none⟩ = some (.int .i64 y6) := blk_cell HJ.out 6
  have cT0 : w1.cell? ⟨BT, 0, none⟩ = some (.int .i64 x0) := blk_cell HT.out 0
  have cT1 : w1.cell? ⟨BT, 1, none⟩ = some (.int .i64 x1) := blk_cell HT.out 1
  have cT2 : w1.cell? ⟨BT, 2, none⟩ = some (.int .i64 x2) := blk_cell HT.out 2
  have cT3 : w1.cell? ⟨BT, 3, none⟩ = some (.int .i64 x3) := blk_cell HT.out 3
  have cT4 : w1.cell? ⟨BT, 4, none⟩ = some (.int .i64 x4) := blk_cell HT.out 4
  have cT5 : w1.cell? ⟨BT, 5, none⟩ = some (.int .i64 x5) := blk_cell HT.out 5
  go_wp2_with (first | fail)
  refine (CH.out _).mono ?_; rintro e w2 ⟨rfl, hg⟩
  clear cJ0 cJ1 cJ2 cJ3 cJ4 cJ5 cJ6 cT0 cT1 cT2 cT3 cT4 cT5
  have HGn := hide (grownBy_trans HG.out hg)
  have HJn := hide (box_grown HJ.out hg (by simp))
  have HTn := hide (box_grown HT.out hg (by simp))
  clear HG HJ HT
  have HG := HGn
  have HJ := HJn
  have HT := HTn
  clear HGn HJn HTn
  clear hg
  go_upto_region 2 with (first | fail)
  have hg : w2.grownBy ((w2.alloc (.cells #[.int .i64 z0, .int .i64 z1, .int .i64 z2, .int .i64 z3, .int .i64 z4, .int .i64 z5, .int .i64 z6] 23)).alloc (.cells #[.bool bo, .bool bd, .bool bk] 27)) none := (grownBy_trans (grownBy_trans (grownBy_refl _ _) (World.grownBy_alloc _ _ none)) (World.grownBy_alloc _ _ none))
  have hA := heap_alloc_new w2 (.cells #[.int .i64 z0, .int .i64 z1, .int .i64 z2, .int .i64 z3, .int .i64 z4, .int .i64 z5, .int .i64 z6] 23)
  have HAq := hide (hp_up hA (.cells #[.bool bo, .bool bd, .bool bk] 27))
  clear hA
  have LA : Hid (w.heap.size ≤ w2.heap.size) := hide (by have := HG.out.size; omega)
  have hV : ((w2.alloc (.cells #[.int .i64 z0, .int .i64 z1, .int .i64 z2, .int .i64 z3, .int .i64 z4, .int .i64 z5, .int .i64 z6] 23)).alloc (.cells #[.bool bo, .bool bd, .bool bk] 27)).heap[w2.heap.size + 1]? = some (.cells #[.bool bo, .bool bd, .bool bk] 27) := by have h := heap_alloc_new (w2.alloc (.cells #[.int .i64 z0, .int .i64 z1, .int .i64 z2, .int .i64 z3, .int .i64 z4, .int .i64 z5, .int .i64 z6] 23)) (.cells #[.bool bo, .bool bd, .bool bk] 27); rwa [show (w2.alloc (.cells #[.int .i64 z0, .int .i64 z1, .int .i64 z2, .int .i64 z3, .int .i64 z4, .int .i64 z5, .int .i64 z6] 23)).heap.size = w2.heap.size + 1 by simp] at h
  have HVq := hide hV
  clear hV
  have LV : Hid (w.heap.size ≤ w2.heap.size + 1) := hide (by have := HG.out.size; omega)
  have HGn := hide (grownBy_trans HG.out hg)
  have HJn := hide (box_grown HJ.out hg (by simp))
  have HTn := hide (box_grown HT.out hg (by simp))
  clear HG HJ HT
  have HG := HGn
  have HJ := HJn
  have HT := HTn
  clear HGn HJn HTn
  clear hg
  have HA := HAq
  clear HAq
  have HV := HVq
  clear HVq
  have HOA : Hid (w2.heap.size < w2.heap.size + 1) := hide (by omega)
  generalize hWx : ((w2.alloc (.cells #[.int .i64 z0, .int .i64 z1, .int .i64 z2, .int .i64 z3, .int .i64 z4, .int .i64 z5, .int .i64 z6] 23)).alloc (.cells #[.bool bo, .bool bd, .bool bk] 27)) = w3 at *
  clear hWx
  generalize hBx : w2.heap.size + 1 = BV at *
  clear hBx
  generalize hBx : w2.heap.size = BA at *
  clear hBx
  have cJ0 : w3.cell? ⟨BJ, 0, none⟩ = some (.int .i64 y0) := blk_cell HJ.out 0
  have cJ1 : w3.cell? ⟨BJ, 1, none⟩ = some (.int .i64 y1) := blk_cell HJ.out 1
  have cJ2 : w3.cell? ⟨BJ, 2, none⟩ = some (.int .i64 y2) := blk_cell HJ.out 2
  have cJ3 : w3.cell? ⟨BJ, 3, none⟩ = some (.int .i64 y3) := blk_cell HJ.out 3
  have cJ4 : w3.cell? ⟨BJ, 4, none⟩ = some (.int .i64 y4) := blk_cell HJ.out 4
  have cJ5 : w3.cell? ⟨BJ, 5, none⟩ = some (.int .i64 y5) := blk_cell HJ.out 5
  have cJ6 : w3.cell? ⟨BJ, 6, none⟩ = some (.int .i64 y6) := blk_cell HJ.out 6
  have cT0 : w3.cell? ⟨BT, 0, none⟩ = some (.int .i64 x0) := blk_cell HT.out 0
  have cT1 : w3.cell? ⟨BT, 1, none⟩ = some (.int .i64 x1) := blk_cell HT.out 1
  have cT2 : w3.cell? ⟨BT, 2, none⟩ = some (.int .i64 x2) := blk_cell HT.out 2
  have cT3 : w3.cell? ⟨BT, 3, none⟩ = some (.int .i64 x3) := blk_cell HT.out 3
  have cT4 : w3.cell? ⟨BT, 4, none⟩ = some (.int .i64 x4) := blk_cell HT.out 4
  have cT5 : w3.cell? ⟨BT, 5, none⟩ = some (.int .i64 x5) := blk_cell HT.out 5
  go_wp2_with (first | fail)
  refine (CR.out _).mono ?_; rintro e w4 ⟨rfl, hg⟩
  clear cJ0 cJ1 cJ2 cJ3 cJ4 cJ5 cJ6 cT0 cT1 cT2 cT3 cT4 cT5
  have HGn := hide (grownBy_trans HG.out hg)
  have HJn := hide (box_grown HJ.out hg (by simp))
  have HTn := hide (box_grown HT.out hg (by simp))
  have HAn := hide (box_grown HA.out hg (by simp))
  have HVn := hide (box_grown HV.out hg (by simp))
  clear HG HJ HT HA HV
  have HG := HGn
  have HJ := HJn
  have HT := HTn
  have HA := HAn
  have HV := HVn
  clear HGn HJn HTn HAn HVn
  clear hg
  go_upto_region 3 with (first | fail)
  have hg : w4.grownBy ((w4.alloc (.cells #[.int .i64 z0, .int .i64 z1, .int .i64 z2, .int .i64 z3, .int .i64 z4, .int .i64 z5, .int .i64 z6] 23)).alloc (.cells #[.bool bo, .bool bd, .bool bk] 27)) none := (grownBy_trans (grownBy_trans (grownBy_refl _ _) (World.grownBy_alloc _ _ none)) (World.grownBy_alloc _ _ none))
  have hC := heap_alloc_new w4 (.cells #[.int .i64 z0, .int .i64 z1, .int .i64 z2, .int .i64 z3, .int .i64 z4, .int .i64 z5, .int .i64 z6] 23)
  have HCq := hide (hp_up hC (.cells #[.bool bo, .bool bd, .bool bk] 27))
  clear hC
  have LC : Hid (w.heap.size ≤ w4.heap.size) := hide (by have := HG.out.size; omega)
  have hU : ((w4.alloc (.cells #[.int .i64 z0, .int .i64 z1, .int .i64 z2, .int .i64 z3, .int .i64 z4, .int .i64 z5, .int .i64 z6] 23)).alloc (.cells #[.bool bo, .bool bd, .bool bk] 27)).heap[w4.heap.size + 1]? = some (.cells #[.bool bo, .bool bd, .bool bk] 27) := by have h := heap_alloc_new (w4.alloc (.cells #[.int .i64 z0, .int .i64 z1, .int .i64 z2, .int .i64 z3, .int .i64 z4, .int .i64 z5, .int .i64 z6] 23)) (.cells #[.bool bo, .bool bd, .bool bk] 27); rwa [show (w4.alloc (.cells #[.int .i64 z0, .int .i64 z1, .int .i64 z2, .int .i64 z3, .int .i64 z4, .int .i64 z5, .int .i64 z6] 23)).heap.size = w4.heap.size + 1 by simp] at h
  have HUq := hide hU
  clear hU
  have LU : Hid (w.heap.size ≤ w4.heap.size + 1) := hide (by have := HG.out.size; omega)
  have HGn := hide (grownBy_trans HG.out hg)
  have HJn := hide (box_grown HJ.out hg (by simp))
  have HTn := hide (box_grown HT.out hg (by simp))
  have HAn := hide (box_grown HA.out hg (by simp))
  have HVn := hide (box_grown HV.out hg (by simp))
  clear HG HJ HT HA HV
  have HG := HGn
  have HJ := HJn
  have HT := HTn
  have HA := HAn
  have HV := HVn
  clear HGn HJn HTn HAn HVn
  clear hg
  have HC := HCq
  clear HCq
  have HU := HUq
  clear HUq
  have HOC : Hid (w4.heap.size < w4.heap.size + 1) := hide (by omega)
  generalize hWx : ((w4.alloc (.cells #[.int .i64 z0, .int .i64 z1, .int .i64 z2, .int .i64 z3, .int .i64 z4, .int .i64 z5, .int .i64 z6] 23)).alloc (.cells #[.bool bo, .bool bd, .bool bk] 27)) = w5 at *
  clear hWx
  generalize hBx : w4.heap.size + 1 = BU at *
  clear hBx
  generalize hBx : w4.heap.size = BC at *
  clear hBx
  have cA0 : w5.cell? ⟨BA, 0, none⟩ = some (.int .i64 z0) := blk_cell HA.out 0
  have cA1 : w5.cell? ⟨BA, 1, none⟩ = some (.int .i64 z1) := blk_cell HA.out 1
  have cA2 : w5.cell? ⟨BA, 2, none⟩ = some (.int .i64 z2) := blk_cell HA.out 2
  have cA3 : w5.cell? ⟨BA, 3, none⟩ = some (.int .i64 z3) := blk_cell HA.out 3
  have cA4 : w5.cell? ⟨BA, 4, none⟩ = some (.int .i64 z4) := blk_cell HA.out 4
  have cA5 : w5.cell? ⟨BA, 5, none⟩ = some (.int .i64 z5) := blk_cell HA.out 5
  have cA6 : w5.cell? ⟨BA, 6, none⟩ = some (.int .i64 z6) := blk_cell HA.out 6
  have cC0 : w5.cell? ⟨BC, 0, none⟩ = some (.int .i64 z0) := blk_cell HC.out 0
  have cC1 : w5.cell? ⟨BC, 1, none⟩ = some (.int .i64 z1) := blk_cell HC.out 1
  have cC2 : w5.cell? ⟨BC, 2, none⟩ = some (.int .i64 z2) := blk_cell HC.out 2
  have cC3 : w5.cell? ⟨BC, 3, none⟩ = some (.int .i64 z3) := blk_cell HC.out 3
  have cC4 : w5.cell? ⟨BC, 4, none⟩ = some (.int .i64 z4) := blk_cell HC.out 4
  have cC5 : w5.cell? ⟨BC, 5, none⟩ = some (.int .i64 z5) := blk_cell HC.out 5
  have cC6 : w5.cell? ⟨BC, 6, none⟩ = some (.int .i64 z6) := blk_cell HC.out 6
  have cV0 : w5.cell? ⟨BV, 0, none⟩ = some (.bool bo) := blk_cell HV.out 0
  have cV1 : w5.cell? ⟨BV, 1, none⟩ = some (.bool bd) := blk_cell HV.out 1
  have cV2 : w5.cell? ⟨BV, 2, none⟩ = some (.bool bk) := blk_cell HV.out 2
  have cU0 : w5.cell? ⟨BU, 0, none⟩ = some (.bool bo) := blk_cell HU.out 0
  have cU1 : w5.cell? ⟨BU, 1, none⟩ = some (.bool bd) := blk_cell HU.out 1
  have cU2 : w5.cell? ⟨BU, 2, none⟩ = some (.bool bk) := blk_cell HU.out 2
  go_wp2_with (first | (go_at_call 9; refine (NUM.out _ _).mono ?_; rintro e wn ⟨rfl, rfl⟩) | fail)
  refine (awake_any _).mono ?_; rintro e w6 ⟨rfl, hg⟩
  clear cA0 cA1 cA2 cA3 cA4 cA5 cA6 cC0 cC1 cC2 cC3 cC4 cC5 cC6 cV0 cV1 cV2 cU0 cU1 cU2
  have HGn := hide (grownBy_trans HG.out hg)
  have HJn := hide (box_grown HJ.out hg (by simp))
  have HTn := hide (box_grown HT.out hg (by simp))
  have HAn := hide (box_grown HA.out hg (by simp))
  have HVn := hide (box_grown HV.out hg (by simp))
  have HCn := hide (box_grown HC.out hg (by simp))
  have HUn := hide (box_grown HU.out hg (by simp))
  clear HG HJ HT HA HV HC HU
  have HG := HGn
  have HJ := HJn
  have HT := HTn
  have HA := HAn
  have HV := HVn
  have HC := HCn
  have HU := HUn
  clear HGn HJn HTn HAn HVn HCn HUn
  clear hg
  go_wp2_with (first | fail)
  go_ret
  exact ⟨rfl, HG.out⟩
theorem charges_law (j : JobV) (t : TaskV) (l : Int) (w : World) : Calls Try.prog 3 #[jobVal j, taskVal t, .int .i64 l] w fun e w' => e = .returned (.bool true) ∧ w.grownBy w' none := charges_from j t l w w (grownBy_refl _ _)
#print axioms charges_law
end Go.Proofs.Ytabnkmghgkmbmaa
