/- The walk of the statement ChargeRanks: both budgets are one; proved over the translation. -/
import Derived.Test.YtabnkmghgkmbmaaAw
import Derived.Test.YtabnkmghgkmbmaaKmath
import Derived.Test.YtabnkmghgkmbmaaBits2
namespace Go.Proofs.Ytabnkmghgkmbmaa
open Go.RowKit
attribute [local go_sem] alloc_drewN setCell_drewN

set_option maxRecDepth 100000 in
set_option maxHeartbeats 40000000 in
theorem ranks_from (x0 x1 x2 : Int) (w w0 : World) (hg0 : w.grownBy w0 none) : Calls Try.prog 6 #[.int .i64 x0, .int .i64 x1, .int .i64 x2] w0 fun e w' => e = .returned (.bool true) ∧ w.grownBy w' none := by
  obtain ⟨a, ha, hma⟩ := and5 x0
  obtain ⟨c, hc, hmc⟩ := and6 x1
  obtain ⟨U, hU, hU1⟩ := conv_ur x2
  have HCU := hide hU
  have HCU1 := hide hU1
  clear hU hU1
  have NUM := hide num_to
  have HG := hide hg0
  clear hg0
  go_enter Try.func6, Try.ntmps6
  go_wp2_with (first | fail)
  refine (awake_any _).mono ?_; rintro e w1 ⟨rfl, hg⟩
  have HGn := hide (grownBy_trans HG.out hg)
  clear HG
  have HG := HGn
  clear HGn
  clear hg
  go_upto_region 4 with (first | fail)
  generalize hb : 1 + (a : Int) = b at *
  generalize hd : 1 + (c : Int) = d at *
  have hb1 : 1 ≤ b := by omega
  have hb2 : b ≤ 32 := by omega
  have hd1 : 1 ≤ d := by omega
  have hd2 : d ≤ 64 := by omega
  clear hb hd hma hmc ha hc
  obtain ⟨r, hr, hr0, hrd⟩ := rem_of U hd1
  have hU := HCU.out
  have hU1 := HCU1.out
  clear HCU HCU1
  go_upto_region 5 with (first | fail)
  clear hU hU1 hr
  go_upto_region 6 with (first | fail)
  have hg := World.grownBy_alloc w1 (.cells #[.int .i64 0, .int .i64 50, .int .i64 40, .int .i64 b, .int .i64 b, .int .i64 0] 25) none
  have HTq := hide (heap_alloc_new w1 (.cells #[.int .i64 0, .int .i64 50, .int .i64 40, .int .i64 b, .int .i64 b, .int .i64 0] 25))
  have LT := hide HG.out.size
  have HGn := hide (grownBy_trans HG.out hg)
  clear HG
  have HG := HGn
  clear HGn
  clear hg
  have HT := HTq
  clear HTq
  generalize hWx : w1.alloc (.cells #[.int .i64 0, .int .i64 50, .int .i64 40, .int .i64 b, .int .i64 b, .int .i64 0] 25) = w2 at *
  generalize hBx : w1.heap.size = BT at *
  clear hWx hBx
  go_upto_region 7 with (first | fail)
  have hg := World.grownBy_alloc w2 (.cells #[.int .i64 0, .int .i64 0, .int .i64 0, .int .i64 0, .int .i64 9, .int .i64 d, .int .i64 r] 23) none
  have HJq := hide (heap_alloc_new w2 (.cells #[.int .i64 0, .int .i64 0, .int .i64 0, .int .i64 0, .int .i64 9, .int .i64 d, .int .i64 r] 23))
  have LJ := hide HG.out.size
  have HGn := hide (grownBy_trans HG.out hg)
  have HTn := hide (box_grown HT.out hg (by simp))
  clear HG HT
  have HG := HGn
  have HT := HTn
  clear HGn HTn
  clear hg
  have HJ := HJq
  clear HJq
  generalize hWx : w2.alloc (.cells #[.int .i64 0, .int .i64 0, .int .i64 0, .int .i64 0, .int .i64 9, .int .i64 d, .int .i64 r] 23) = w3 at *
  generalize hBx : w2.heap.size = BJ at *
  clear hWx hBx
  obtain ⟨q, hq⟩ : ∃ q, r + 1 = q := ⟨_, rfl⟩
  have HQ := hide hq
  have hq2 : q ≤ d := by omega
  clear hq
  by_cases hlt : q < d
  · have e3 : (q == d) = false := beq_eq_false_iff_ne.2 (by omega)
    have HD : Hid (decide (q = d) = false) := hide e3
    by_cases heb : q = b
    · have e1 : (q == b) = true := beq_iff_eq.2 heb
      have HS : Hid ((decide (q = b) && decide (q < d)) = true) := hide (by rw [decide_eq_true heb, decide_eq_true hlt]; rfl)
      clear heb
      have HK := hide (rk_hi (s := true) (bd := false) hb1 hb2 hd1 hd2 hr0 hrd HQ.out HS.out HD.out)
      have HL := hide (rk_lo (s := true) (bd := false) hb1 hb2 hd1 hd2 hr0 hrd HQ.out HS.out HD.out)
      have cT0 : w3.cell? ⟨BT, 0, none⟩ = some (.int .i64 0) := blk_cell HT.out 0
      have cT1 : w3.cell? ⟨BT, 1, none⟩ = some (.int .i64 50) := blk_cell HT.out 1
      have cT2 : w3.cell? ⟨BT, 2, none⟩ = some (.int .i64 40) := blk_cell HT.out 2
      have cT3 : w3.cell? ⟨BT, 3, none⟩ = some (.int .i64 b) := blk_cell HT.out 3
      have cT4 : w3.cell? ⟨BT, 4, none⟩ = some (.int .i64 b) := blk_cell HT.out 4
      have cT5 : w3.cell? ⟨BT, 5, none⟩ = some (.int .i64 0) := blk_cell HT.out 5
      have cJ0 : w3.cell? ⟨BJ, 0, none⟩ = some (.int .i64 0) := blk_cell HJ.out 0
      have cJ1 : w3.cell? ⟨BJ, 1, none⟩ = some (.int .i64 0) := blk_cell HJ.out 1
      have cJ2 : w3.cell? ⟨BJ, 2, none⟩ = some (.int .i64 0) := blk_cell HJ.out 2
      have cJ3 : w3.cell? ⟨BJ, 3, none⟩ = some (.int .i64 0) := blk_cell HJ.out 3
      have cJ4 : w3.cell? ⟨BJ, 4, none⟩ = some (.int .i64 9) := blk_cell HJ.out 4
      have cJ5 : w3.cell? ⟨BJ, 5, none⟩ = some (.int .i64 d) := blk_cell HJ.out 5
      have cJ6 : w3.cell? ⟨BJ, 6, none⟩ = some (.int .i64 r) := blk_cell HJ.out 6
      go_wp2_with (first | fail)
      refine (ch_at _ HK.out).mono ?_; rintro e w4 ⟨rfl, hg⟩
      clear cT0 cT1 cT2 cT3 cT4 cT5 cJ0 cJ1 cJ2 cJ3 cJ4 cJ5 cJ6
      have HGn := hide (grownBy_trans HG.out hg)
      have HTn := hide (box_grown HT.out hg (by simp))
      have HJn := hide (box_grown HJ.out hg (by simp))
      clear HG HT HJ
      have HG := HGn
      have HT := HTn
      have HJ := HJn
      clear HGn HTn HJn
      clear hg
      go_upto_region 8 with (first | fail)
      have hg : w4.grownBy ((w4.alloc (.cells #[.int .i64 0, .int .i64 0, .int .i64 0, .int .i64 0, .int .i64 9, .int .i64 d, .int .i64 q] 23)).alloc (.cells #[.bool true, .bool false, .bool true] 27)) none := (grownBy_trans (grownBy_trans (grownBy_refl _ _) (World.grownBy_alloc _ _ none)) (World.grownBy_alloc _ _ none))
      have hX := heap_alloc_new w4 (.cells #[.int .i64 0, .int .i64 0, .int .i64 0, .int .i64 0, .int .i64 9, .int .i64 d, .int .i64 q] 23)
      have HXq := hide (hp_up hX (.cells #[.bool true, .bool false, .bool true] 27))
      clear hX
      have LX : Hid (w.heap.size ≤ w4.heap.size) := hide (by have := HG.out.size; omega)
      have hV : ((w4.alloc (.cells #[.int .i64 0, .int .i64 0, .int .i64 0, .int .i64 0, .int .i64 9, .int .i64 d, .int .i64 q] 23)).alloc (.cells #[.bool true, .bool false, .bool true] 27)).heap[w4.heap.size + 1]? = some (.cells #[.bool true, .bool false, .bool true] 27) := by have h := heap_alloc_new (w4.alloc (.cells #[.int .i64 0, .int .i64 0, .int .i64 0, .int .i64 0, .int .i64 9, .int .i64 d, .int .i64 q] 23)) (.cells #[.bool true, .bool false, .bool true] 27); rwa [show (w4.alloc (.cells #[.int .i64 0, .int .i64 0, .int .i64 0, .int .i64 0, .int .i64 9, .int .i64 d, .int .i64 q] 23)).heap.size = w4.heap.size + 1 by simp] at h
      have HVq := hide hV
      clear hV
      have LV : Hid (w.heap.size ≤ w4.heap.size + 1) := hide (by have := HG.out.size; omega)
      have HGn := hide (grownBy_trans HG.out hg)
      have HTn := hide (box_grown HT.out hg (by simp))
      have HJn := hide (box_grown HJ.out hg (by simp))
      clear HG HT HJ
      have HG := HGn
      have HT := HTn
      have HJ := HJn
      clear HGn HTn HJn
      clear hg
      have HX := HXq
      clear HXq
      have HV := HVq
      clear HVq
      have HOX : Hid (w4.heap.size < w4.heap.size + 1) := hide (by omega)
      generalize hWx : ((w4.alloc (.cells #[.int .i64 0, .int .i64 0, .int .i64 0, .int .i64 0, .int .i64 9, .int .i64 d, .int .i64 q] 23)).alloc (.cells #[.bool true, .bool false, .bool true] 27)) = w5 at *
      clear hWx
      generalize hBx : w4.heap.size + 1 = BV at *
      clear hBx
      generalize hBx : w4.heap.size = BX at *
      clear hBx
      have cT0 : w5.cell? ⟨BT, 0, none⟩ = some (.int .i64 0) := blk_cell HT.out 0
      have cT1 : w5.cell? ⟨BT, 1, none⟩ = some (.int .i64 50) := blk_cell HT.out 1
      have cT2 : w5.cell? ⟨BT, 2, none⟩ = some (.int .i64 40) := blk_cell HT.out 2
      have cT3 : w5.cell? ⟨BT, 3, none⟩ = some (.int .i64 b) := blk_cell HT.out 3
      have cT4 : w5.cell? ⟨BT, 4, none⟩ = some (.int .i64 b) := blk_cell HT.out 4
      have cT5 : w5.cell? ⟨BT, 5, none⟩ = some (.int .i64 0) := blk_cell HT.out 5
      have cJ0 : w5.cell? ⟨BJ, 0, none⟩ = some (.int .i64 0) := blk_cell HJ.out 0
      have cJ1 : w5.cell? ⟨BJ, 1, none⟩ = some (.int .i64 0) := blk_cell HJ.out 1
      have cJ2 : w5.cell? ⟨BJ, 2, none⟩ = some (.int .i64 0) := blk_cell HJ.out 2
      have cJ3 : w5.cell? ⟨BJ, 3, none⟩ = some (.int .i64 0) := blk_cell HJ.out 3
      have cJ4 : w5.cell? ⟨BJ, 4, none⟩ = some (.int .i64 9) := blk_cell HJ.out 4
      have cJ5 : w5.cell? ⟨BJ, 5, none⟩ = some (.int .i64 d) := blk_cell HJ.out 5
      have cJ6 : w5.cell? ⟨BJ, 6, none⟩ = some (.int .i64 r) := blk_cell HJ.out 6
      go_wp2_with (first | fail)
      refine (ch_at _ HL.out).mono ?_; rintro e w6 ⟨rfl, hg⟩
      clear cT0 cT1 cT2 cT3 cT4 cT5 cJ0 cJ1 cJ2 cJ3 cJ4 cJ5 cJ6
      have HGn := hide (grownBy_trans HG.out hg)
      have HTn := hide (box_grown HT.out hg (by simp))
      have HJn := hide (box_grown HJ.out hg (by simp))
      have HXn := hide (box_grown HX.out hg (by simp))
      have HVn := hide (box_grown HV.out hg (by simp))
      clear HG HT HJ HX HV
      have HG := HGn
      have HT := HTn
      have HJ := HJn
      have HX := HXn
      have HV := HVn
      clear HGn HTn HJn HXn HVn
      clear hg
      go_wp2_with (first | fail)
      have hg : w6.grownBy ((w6.alloc (.cells #[.int .i64 0, .int .i64 0, .int .i64 0, .int .i64 0, .int .i64 9, .int .i64 d, .int .i64 q] 23)).alloc (.cells #[.bool false, .bool false, .bool true] 27)) none := (grownBy_trans (grownBy_trans (grownBy_refl _ _) (World.grownBy_alloc _ _ none)) (World.grownBy_alloc _ _ none))
      have hY := heap_alloc_new w6 (.cells #[.int .i64 0, .int .i64 0, .int .i64 0, .int .i64 0, .int .i64 9, .int .i64 d, .int .i64 q] 23)
      have HYq := hide (hp_up hY (.cells #[.bool false, .bool false, .bool true] 27))
      clear hY
      have LY : Hid (w.heap.size ≤ w6.heap.size) := hide (by have := HG.out.size; omega)
      have hW : ((w6.alloc (.cells #[.int .i64 0, .int .i64 0, .int .i64 0, .int .i64 0, .int .i64 9, .int .i64 d, .int .i64 q] 23)).alloc (.cells #[.bool false, .bool false, .bool true] 27)).heap[w6.heap.size + 1]? = some (.cells #[.bool false, .bool false, .bool true] 27) := by have h := heap_alloc_new (w6.alloc (.cells #[.int .i64 0, .int .i64 0, .int .i64 0, .int .i64 0, .int .i64 9, .int .i64 d, .int .i64 q] 23)) (.cells #[.bool false, .bool false, .bool true] 27); rwa [show (w6.alloc (.cells #[.int .i64 0, .int .i64 0, .int .i64 0, .int .i64 0, .int .i64 9, .int .i64 d, .int .i64 q] 23)).heap.size = w6.heap.size + 1 by simp] at h
      have HWq := hide hW
      clear hW
      have LW : Hid (w.heap.size ≤ w6.heap.size + 1) := hide (by have := HG.out.size; omega)
      have HGn := hide (grownBy_trans HG.out hg)
      have HTn := hide (box_grown HT.out hg (by simp))
      have HJn := hide (box_grown HJ.out hg (by simp))
      have HXn := hide (box_grown HX.out hg (by simp))
      have HVn := hide (box_grown HV.out hg (by simp))
      clear HG HT HJ HX HV
      have HG := HGn
      have HT := HTn
      have HJ := HJn
      have HX := HXn
      have HV := HVn
      clear HGn HTn HJn HXn HVn
      clear hg
      have HY := HYq
      clear HYq
      have HW := HWq
      clear HWq
      have HOY : Hid (w6.heap.size < w6.heap.size + 1) := hide (by omega)
      generalize hWx : ((w6.alloc (.cells #[.int .i64 0, .int .i64 0, .int .i64 0, .int .i64 0, .int .i64 9, .int .i64 d, .int .i64 q] 23)).alloc (.cells #[.bool false, .bool false, .bool true] 27)) = w7 at *
      clear hWx
      generalize hBx : w6.heap.size + 1 = BW at *
      clear hBx
      generalize hBx : w6.heap.size = BY at *
      clear hBx
      refine (NUM.out _ _).mono ?_; rintro e wn ⟨rfl, rfl⟩
      have hq := HQ.out
      have cX0 : w7.cell? ⟨BX, 0, none⟩ = some (.int .i64 0) := blk_cell HX.out 0
      have cX1 : w7.cell? ⟨BX, 1, none⟩ = some (.int .i64 0) := blk_cell HX.out 1
      have cX2 : w7.cell? ⟨BX, 2, none⟩ = some (.int .i64 0) := blk_cell HX.out 2
      have cX3 : w7.cell? ⟨BX, 3, none⟩ = some (.int .i64 0) := blk_cell HX.out 3
      have cX4 : w7.cell? ⟨BX, 4, none⟩ = some (.int .i64 9) := blk_cell HX.out 4
      have cX5 : w7.cell? ⟨BX, 5, none⟩ = some (.int .i64 d) := blk_cell HX.out 5
      have cX6 : w7.cell? ⟨BX, 6, none⟩ = some (.int .i64 q) := blk_cell HX.out 6
      have cY0 : w7.cell? ⟨BY, 0, none⟩ = some (.int .i64 0) := blk_cell HY.out 0
      have cY1 : w7.cell? ⟨BY, 1, none⟩ = some (.int .i64 0) := blk_cell HY.out 1
      have cY2 : w7.cell? ⟨BY, 2, none⟩ = some (.int .i64 0) := blk_cell HY.out 2
      have cY3 : w7.cell? ⟨BY, 3, none⟩ = some (.int .i64 0) := blk_cell HY.out 3
      have cY4 : w7.cell? ⟨BY, 4, none⟩ = some (.int .i64 9) := blk_cell HY.out 4
      have cY5 : w7.cell? ⟨BY, 5, none⟩ = some (.int .i64 d) := blk_cell HY.out 5
      have cY6 : w7.cell? ⟨BY, 6, none⟩ = some (.int .i64 q) := blk_cell HY.out 6
      have cV0 : w7.cell? ⟨BV, 0, none⟩ = some (.bool true) := blk_cell HV.out 0
      have cV1 : w7.cell? ⟨BV, 1, none⟩ = some (.bool false) := blk_cell HV.out 1
      have cV2 : w7.cell? ⟨BV, 2, none⟩ = some (.bool true) := blk_cell HV.out 2
      have cW0 : w7.cell? ⟨BW, 0, none⟩ = some (.bool false) := blk_cell HW.out 0
      have cW1 : w7.cell? ⟨BW, 1, none⟩ = some (.bool false) := blk_cell HW.out 1
      have cW2 : w7.cell? ⟨BW, 2, none⟩ = some (.bool true) := blk_cell HW.out 2
      go_wp2_with (first | (go_at_call 9; refine (NUM.out _ _).mono ?_; rintro e wn ⟨rfl, rfl⟩) | fail)
      clear cX0 cX1 cX2 cX3 cX4 cX5 cX6 cY0 cY1 cY2 cY3 cY4 cY5 cY6 cV0 cV1 cV2 cW0 cW1 cW2
      go_ret
      exact ⟨by first | rfl | simp [hlt], HG.out⟩
    · have e1 : (q == b) = false := beq_eq_false_iff_ne.2 heb
      have HS : Hid ((decide (q = b) && decide (q < d)) = false) := hide (by rw [decide_eq_false heb]; rfl)
      clear heb
      have HK := hide (rk_hi (s := false) (bd := false) hb1 hb2 hd1 hd2 hr0 hrd HQ.out HS.out HD.out)
      have HL := hide (rk_lo (s := false) (bd := false) hb1 hb2 hd1 hd2 hr0 hrd HQ.out HS.out HD.out)
      have cT0 : w3.cell? ⟨BT, 0, none⟩ = some (.int .i64 0) := blk_cell HT.out 0
      have cT1 : w3.cell? ⟨BT, 1, none⟩ = some (.int .i64 50) := blk_cell HT.out 1
      have cT2 : w3.cell? ⟨BT, 2, none⟩ = some (.int .i64 40) := blk_cell HT.out 2
      have cT3 : w3.cell? ⟨BT, 3, none⟩ = some (.int .i64 b) := blk_cell HT.out 3
      have cT4 : w3.cell? ⟨BT, 4, none⟩ = some (.int .i64 b) := blk_cell HT.out 4
      have cT5 : w3.cell? ⟨BT, 5, none⟩ = some (.int .i64 0) := blk_cell HT.out 5
      have cJ0 : w3.cell? ⟨BJ, 0, none⟩ = some (.int .i64 0) := blk_cell HJ.out 0
      have cJ1 : w3.cell? ⟨BJ, 1, none⟩ = some (.int .i64 0) := blk_cell HJ.out 1
      have cJ2 : w3.cell? ⟨BJ, 2, none⟩ = some (.int .i64 0) := blk_cell HJ.out 2
      have cJ3 : w3.cell? ⟨BJ, 3, none⟩ = some (.int .i64 0) := blk_cell HJ.out 3
      have cJ4 : w3.cell? ⟨BJ, 4, none⟩ = some (.int .i64 9) := blk_cell HJ.out 4
      have cJ5 : w3.cell? ⟨BJ, 5, none⟩ = some (.int .i64 d) := blk_cell HJ.out 5
      have cJ6 : w3.cell? ⟨BJ, 6, none⟩ = some (.int .i64 r) := blk_cell HJ.out 6
      go_wp2_with (first | fail)
      refine (ch_at _ HK.out).mono ?_; rintro e w4 ⟨rfl, hg⟩
      clear cT0 cT1 cT2 cT3 cT4 cT5 cJ0 cJ1 cJ2 cJ3 cJ4 cJ5 cJ6
      have HGn := hide (grownBy_trans HG.out hg)
      have HTn := hide (box_grown HT.out hg (by simp))
      have HJn := hide (box_grown HJ.out hg (by simp))
      clear HG HT HJ
      have HG := HGn
      have HT := HTn
      have HJ := HJn
      clear HGn HTn HJn
      clear hg
      go_upto_region 8 with (first | fail)
      have hg : w4.grownBy ((w4.alloc (.cells #[.int .i64 0, .int .i64 0, .int .i64 0, .int .i64 0, .int .i64 9, .int .i64 d, .int .i64 q] 23)).alloc (.cells #[.bool false, .bool false, .bool false] 27)) none := (grownBy_trans (grownBy_trans (grownBy_refl _ _) (World.grownBy_alloc _ _ none)) (World.grownBy_alloc _ _ none))
      have hX := heap_alloc_new w4 (.cells #[.int .i64 0, .int .i64 0, .int .i64 0, .int .i64 0, .int .i64 9, .int .i64 d, .int .i64 q] 23)
      have HXq := hide (hp_up hX (.cells #[.bool false, .bool false, .bool false] 27))
      clear hX
      have LX : Hid (w.heap.size ≤ w4.heap.size) := hide (by have := HG.out.size; omega)
      have hV : ((w4.alloc (.cells #[.int .i64 0, .int .i64 0, .int .i64 0, .int .i64 0, .int .i64 9, .int .i64 d, .int .i64 q] 23)).alloc (.cells #[.bool false, .bool false, .bool false] 27)).heap[w4.heap.size + 1]? = some (.cells #[.bool false, .bool false, .bool false] 27) := by have h := heap_alloc_new (w4.alloc (.cells #[.int .i64 0, .int .i64 0, .int .i64 0, .int .i64 0, .int .i64 9, .int .i64 d, .int .i64 q] 23)) (.cells #[.bool false, .bool false, .bool false] 27); rwa [show (w4.alloc (.cells #[.int .i64 0, .int .i64 0, .int .i64 0, .int .i64 0, .int .i64 9, .int .i64 d, .int .i64 q] 23)).heap.size = w4.heap.size + 1 by simp] at h
      have HVq := hide hV
      clear hV
      have LV : Hid (w.heap.size ≤ w4.heap.size + 1) := hide (by have := HG.out.size; omega)
      have HGn := hide (grownBy_trans HG.out hg)
      have HTn := hide (box_grown HT.out hg (by simp))
      have HJn := hide (box_grown HJ.out hg (by simp))
      clear HG HT HJ
      have HG := HGn
      have HT := HTn
      have HJ := HJn
      clear HGn HTn HJn
      clear hg
      have HX := HXq
      clear HXq
      have HV := HVq
      clear HVq
      have HOX : Hid (w4.heap.size < w4.heap.size + 1) := hide (by omega)
      generalize hWx : ((w4.alloc (.cells #[.int .i64 0, .int .i64 0, .int .i64 0, .int .i64 0, .int .i64 9, .int .i64 d, .int .i64 q] 23)).alloc (.cells #[.bool false, .bool false, .bool false] 27)) = w5 at *
      clear hWx
      generalize hBx : w4.heap.size + 1 = BV at *
      clear hBx
      generalize hBx : w4.heap.size = BX at *
      clear hBx
      have cT0 : w5.cell? ⟨BT, 0, none⟩ = some (.int .i64 0) := blk_cell HT.out 0
      have cT1 : w5.cell? ⟨BT, 1, none⟩ = some (.int .i64 50) := blk_cell HT.out 1
      have cT2 : w5.cell? ⟨BT, 2, none⟩ = some (.int .i64 40) := blk_cell HT.out 2
      have cT3 : w5.cell? ⟨BT, 3, none⟩ = some (.int .i64 b) := blk_cell HT.out 3
      have cT4 : w5.cell? ⟨BT, 4, none⟩ = some (.int .i64 b) := blk_cell HT.out 4
      have cT5 : w5.cell? ⟨BT, 5, none⟩ = some (.int .i64 0) := blk_cell HT.out 5
      have cJ0 : w5.cell? ⟨BJ, 0, none⟩ = some (.int .i64 0) := blk_cell HJ.out 0
      have cJ1 : w5.cell? ⟨BJ, 1, none⟩ = some (.int .i64 0) := blk_cell HJ.out 1
      have cJ2 : w5.cell? ⟨BJ, 2, none⟩ = some (.int .i64 0) := blk_cell HJ.out 2
      have cJ3 : w5.cell? ⟨BJ, 3, none⟩ = some (.int .i64 0) := blk_cell HJ.out 3
      have cJ4 : w5.cell? ⟨BJ, 4, none⟩ = some (.int .i64 9) := blk_cell HJ.out 4
      have cJ5 : w5.cell? ⟨BJ, 5, none⟩ = some (.int .i64 d) := blk_cell HJ.out 5
      have cJ6 : w5.cell? ⟨BJ, 6, none⟩ = some (.int .i64 r) := blk_cell HJ.out 6
      go_wp2_with (first | fail)
      refine (ch_at _ HL.out).mono ?_; rintro e w6 ⟨rfl, hg⟩
      clear cT0 cT1 cT2 cT3 cT4 cT5 cJ0 cJ1 cJ2 cJ3 cJ4 cJ5 cJ6
      have HGn := hide (grownBy_trans HG.out hg)
      have HTn := hide (box_grown HT.out hg (by simp))
      have HJn := hide (box_grown HJ.out hg (by simp))
      have HXn := hide (box_grown HX.out hg (by simp))
      have HVn := hide (box_grown HV.out hg (by simp))
      clear HG HT HJ HX HV
      have HG := HGn
      have HT := HTn
      have HJ := HJn
      have HX := HXn
      have HV := HVn
      clear HGn HTn HJn HXn HVn
      clear hg
      go_wp2_with (first | fail)
      have hg : w6.grownBy ((w6.alloc (.cells #[.int .i64 0, .int .i64 0, .int .i64 0, .int .i64 0, .int .i64 9, .int .i64 d, .int .i64 q] 23)).alloc (.cells #[.bool false, .bool false, .bool false] 27)) none := (grownBy_trans (grownBy_trans (grownBy_refl _ _) (World.grownBy_alloc _ _ none)) (World.grownBy_alloc _ _ none))
      have hY := heap_alloc_new w6 (.cells #[.int .i64 0, .int .i64 0, .int .i64 0, .int .i64 0, .int .i64 9, .int .i64 d, .int .i64 q] 23)
      have HYq := hide (hp_up hY (.cells #[.bool false, .bool false, .bool false] 27))
      clear hY
      have LY : Hid (w.heap.size ≤ w6.heap.size) := hide (by have := HG.out.size; omega)
      have hW : ((w6.alloc (.cells #[.int .i64 0, .int .i64 0, .int .i64 0, .int .i64 0, .int .i64 9, .int .i64 d, .int .i64 q] 23)).alloc (.cells #[.bool false, .bool false, .bool false] 27)).heap[w6.heap.size + 1]? = some (.cells #[.bool false, .bool false, .bool false] 27) := by have h := heap_alloc_new (w6.alloc (.cells #[.int .i64 0, .int .i64 0, .int .i64 0, .int .i64 0, .int .i64 9, .int .i64 d, .int .i64 q] 23)) (.cells #[.bool false, .bool false, .bool false] 27); rwa [show (w6.alloc (.cells #[.int .i64 0, .int .i64 0, .int .i64 0, .int .i64 0, .int .i64 9, .int .i64 d, .int .i64 q] 23)).heap.size = w6.heap.size + 1 by simp] at h
      have HWq := hide hW
      clear hW
      have LW : Hid (w.heap.size ≤ w6.heap.size + 1) := hide (by have := HG.out.size; omega)
      have HGn := hide (grownBy_trans HG.out hg)
      have HTn := hide (box_grown HT.out hg (by simp))
      have HJn := hide (box_grown HJ.out hg (by simp))
      have HXn := hide (box_grown HX.out hg (by simp))
      have HVn := hide (box_grown HV.out hg (by simp))
      clear HG HT HJ HX HV
      have HG := HGn
      have HT := HTn
      have HJ := HJn
      have HX := HXn
      have HV := HVn
      clear HGn HTn HJn HXn HVn
      clear hg
      have HY := HYq
      clear HYq
      have HW := HWq
      clear HWq
      have HOY : Hid (w6.heap.size < w6.heap.size + 1) := hide (by omega)
      generalize hWx : ((w6.alloc (.cells #[.int .i64 0, .int .i64 0, .int .i64 0, .int .i64 0, .int .i64 9, .int .i64 d, .int .i64 q] 23)).alloc (.cells #[.bool false, .bool false, .bool false] 27)) = w7 at *
      clear hWx
      generalize hBx : w6.heap.size + 1 = BW at *
      clear hBx
      generalize hBx : w6.heap.size = BY at *
      clear hBx
      refine (NUM.out _ _).mono ?_; rintro e wn ⟨rfl, rfl⟩
      have hq := HQ.out
      have cX0 : w7.cell? ⟨BX, 0, none⟩ = some (.int .i64 0) := blk_cell HX.out 0
      have cX1 : w7.cell? ⟨BX, 1, none⟩ = some (.int .i64 0) := blk_cell HX.out 1
      have cX2 : w7.cell? ⟨BX, 2, none⟩ = some (.int .i64 0) := blk_cell HX.out 2
      have cX3 : w7.cell? ⟨BX, 3, none⟩ = some (.int .i64 0) := blk_cell HX.out 3
      have cX4 : w7.cell? ⟨BX, 4, none⟩ = some (.int .i64 9) := blk_cell HX.out 4
      have cX5 : w7.cell? ⟨BX, 5, none⟩ = some (.int .i64 d) := blk_cell HX.out 5
      have cX6 : w7.cell? ⟨BX, 6, none⟩ = some (.int .i64 q) := blk_cell HX.out 6
      have cY0 : w7.cell? ⟨BY, 0, none⟩ = some (.int .i64 0) := blk_cell HY.out 0
      have cY1 : w7.cell? ⟨BY, 1, none⟩ = some (.int .i64 0) := blk_cell HY.out 1
      have cY2 : w7.cell? ⟨BY, 2, none⟩ = some (.int .i64 0) := blk_cell HY.out 2
      have cY3 : w7.cell? ⟨BY, 3, none⟩ = some (.int .i64 0) := blk_cell HY.out 3
      have cY4 : w7.cell? ⟨BY, 4, none⟩ = some (.int .i64 9) := blk_cell HY.out 4
      have cY5 : w7.cell? ⟨BY, 5, none⟩ = some (.int .i64 d) := blk_cell HY.out 5
      have cY6 : w7.cell? ⟨BY, 6, none⟩ = some (.int .i64 q) := blk_cell HY.out 6
      have cV0 : w7.cell? ⟨BV, 0, none⟩ = some (.bool false) := blk_cell HV.out 0
      have cV1 : w7.cell? ⟨BV, 1, none⟩ = some (.bool false) := blk_cell HV.out 1
      have cV2 : w7.cell? ⟨BV, 2, none⟩ = some (.bool false) := blk_cell HV.out 2
      have cW0 : w7.cell? ⟨BW, 0, none⟩ = some (.bool false) := blk_cell HW.out 0
      have cW1 : w7.cell? ⟨BW, 1, none⟩ = some (.bool false) := blk_cell HW.out 1
      have cW2 : w7.cell? ⟨BW, 2, none⟩ = some (.bool false) := blk_cell HW.out 2
      go_wp2_with (first | (go_at_call 9; refine (NUM.out _ _).mono ?_; rintro e wn ⟨rfl, rfl⟩) | fail)
      clear cX0 cX1 cX2 cX3 cX4 cX5 cX6 cY0 cY1 cY2 cY3 cY4 cY5 cY6 cV0 cV1 cV2 cW0 cW1 cW2
      go_ret
      exact ⟨by first | rfl | simp [hlt], HG.out⟩
  · have e3 : (q == d) = true := beq_iff_eq.2 (by omega)
    have HD : Hid (decide (q = d) = true) := hide e3
    have HS : Hid ((decide (q = b) && decide (q < d)) = false) := hide (by rw [decide_eq_false hlt, Bool.and_false])
    by_cases heb : q = b
    · have e1 : (q == b) = true := beq_iff_eq.2 heb
      clear heb
      have HK := hide (rk_hi (s := false) (bd := true) hb1 hb2 hd1 hd2 hr0 hrd HQ.out HS.out HD.out)
      have HL := hide (rk_lo (s := false) (bd := true) hb1 hb2 hd1 hd2 hr0 hrd HQ.out HS.out HD.out)
      have cT0 : w3.cell? ⟨BT, 0, none⟩ = some (.int .i64 0) := blk_cell HT.out 0
      have cT1 : w3.cell? ⟨BT, 1, none⟩ = some (.int .i64 50) := blk_cell HT.out 1
      have cT2 : w3.cell? ⟨BT, 2, none⟩ = some (.int .i64 40) := blk_cell HT.out 2
      have cT3 : w3.cell? ⟨BT, 3, none⟩ = some (.int .i64 b) := blk_cell HT.out 3
      have cT4 : w3.cell? ⟨BT, 4, none⟩ = some (.int .i64 b) := blk_cell HT.out 4
      have cT5 : w3.cell? ⟨BT, 5, none⟩ = some (.int .i64 0) := blk_cell HT.out 5
      have cJ0 : w3.cell? ⟨BJ, 0, none⟩ = some (.int .i64 0) := blk_cell HJ.out 0
      have cJ1 : w3.cell? ⟨BJ, 1, none⟩ = some (.int .i64 0) := blk_cell HJ.out 1
      have cJ2 : w3.cell? ⟨BJ, 2, none⟩ = some (.int .i64 0) := blk_cell HJ.out 2
      have cJ3 : w3.cell? ⟨BJ, 3, none⟩ = some (.int .i64 0) := blk_cell HJ.out 3
      have cJ4 : w3.cell? ⟨BJ, 4, none⟩ = some (.int .i64 9) := blk_cell HJ.out 4
      have cJ5 : w3.cell? ⟨BJ, 5, none⟩ = some (.int .i64 d) := blk_cell HJ.out 5
      have cJ6 : w3.cell? ⟨BJ, 6, none⟩ = some (.int .i64 r) := blk_cell HJ.out 6
      go_wp2_with (first | fail)
      refine (ch_at _ HK.out).mono ?_; rintro e w4 ⟨rfl, hg⟩
      clear cT0 cT1 cT2 cT3 cT4 cT5 cJ0 cJ1 cJ2 cJ3 cJ4 cJ5 cJ6
      have HGn := hide (grownBy_trans HG.out hg)
      have HTn := hide (box_grown HT.out hg (by simp))
      have HJn := hide (box_grown HJ.out hg (by simp))
      clear HG HT HJ
      have HG := HGn
      have HT := HTn
      have HJ := HJn
      clear HGn HTn HJn
      clear hg
      go_upto_region 8 with (first | fail)
      have hg : w4.grownBy ((w4.alloc (.cells #[.int .i64 0, .int .i64 0, .int .i64 0, .int .i64 0, .int .i64 9, .int .i64 d, .int .i64 q] 23)).alloc (.cells #[.bool false, .bool true, .bool false] 27)) none := (grownBy_trans (grownBy_trans (grownBy_refl _ _) (World.grownBy_alloc _ _ none)) (World.grownBy_alloc _ _ none))
      have hX := heap_alloc_new w4 (.cells #[.int .i64 0, .int .i64 0, .int .i64 0, .int .i64 0, .int .i64 9, .int .i64 d, .int .i64 q] 23)
      have HXq := hide (hp_up hX (.cells #[.bool false, .bool true, .bool false] 27))
      clear hX
      have LX : Hid (w.heap.size ≤ w4.heap.size) := hide (by have := HG.out.size; omega)
      have hV : ((w4.alloc (.cells #[.int .i64 0, .int .i64 0, .int .i64 0, .int .i64 0, .int .i64 9, .int .i64 d, .int .i64 q] 23)).alloc (.cells #[.bool false, .bool true, .bool false] 27)).heap[w4.heap.size + 1]? = some (.cells #[.bool false, .bool true, .bool false] 27) := by have h := heap_alloc_new (w4.alloc (.cells #[.int .i64 0, .int .i64 0, .int .i64 0, .int .i64 0, .int .i64 9, .int .i64 d, .int .i64 q] 23)) (.cells #[.bool false, .bool true, .bool false] 27); rwa [show (w4.alloc (.cells #[.int .i64 0, .int .i64 0, .int .i64 0, .int .i64 0, .int .i64 9, .int .i64 d, .int .i64 q] 23)).heap.size = w4.heap.size + 1 by simp] at h
      have HVq := hide hV
      clear hV
      have LV : Hid (w.heap.size ≤ w4.heap.size + 1) := hide (by have := HG.out.size; omega)
      have HGn := hide (grownBy_trans HG.out hg)
      have HTn := hide (box_grown HT.out hg (by simp))
      have HJn := hide (box_grown HJ.out hg (by simp))
      clear HG HT HJ
      have HG := HGn
      have HT := HTn
      have HJ := HJn
      clear HGn HTn HJn
      clear hg
      have HX := HXq
      clear HXq
      have HV := HVq
      clear HVq
      have HOX : Hid (w4.heap.size < w4.heap.size + 1) := hide (by omega)
      generalize hWx : ((w4.alloc (.cells #[.int .i64 0, .int .i64 0, .int .i64 0, .int .i64 0, .int .i64 9, .int .i64 d, .int .i64 q] 23)).alloc (.cells #[.bool false, .bool true, .bool false] 27)) = w5 at *
      clear hWx
      generalize hBx : w4.heap.size + 1 = BV at *
      clear hBx
      generalize hBx : w4.heap.size = BX at *
      clear hBx
      have cT0 : w5.cell? ⟨BT, 0, none⟩ = some (.int .i64 0) := blk_cell HT.out 0
      have cT1 : w5.cell? ⟨BT, 1, none⟩ = some (.int .i64 50) := blk_cell HT.out 1
      have cT2 : w5.cell? ⟨BT, 2, none⟩ = some (.int .i64 40) := blk_cell HT.out 2
      have cT3 : w5.cell? ⟨BT, 3, none⟩ = some (.int .i64 b) := blk_cell HT.out 3
      have cT4 : w5.cell? ⟨BT, 4, none⟩ = some (.int .i64 b) := blk_cell HT.out 4
      have cT5 : w5.cell? ⟨BT, 5, none⟩ = some (.int .i64 0) := blk_cell HT.out 5
      have cJ0 : w5.cell? ⟨BJ, 0, none⟩ = some (.int .i64 0) := blk_cell HJ.out 0
      have cJ1 : w5.cell? ⟨BJ, 1, none⟩ = some (.int .i64 0) := blk_cell HJ.out 1
      have cJ2 : w5.cell? ⟨BJ, 2, none⟩ = some (.int .i64 0) := blk_cell HJ.out 2
      have cJ3 : w5.cell? ⟨BJ, 3, none⟩ = some (.int .i64 0) := blk_cell HJ.out 3
      have cJ4 : w5.cell? ⟨BJ, 4, none⟩ = some (.int .i64 9) := blk_cell HJ.out 4
      have cJ5 : w5.cell? ⟨BJ, 5, none⟩ = some (.int .i64 d) := blk_cell HJ.out 5
      have cJ6 : w5.cell? ⟨BJ, 6, none⟩ = some (.int .i64 r) := blk_cell HJ.out 6
      go_wp2_with (first | fail)
      refine (ch_at _ HL.out).mono ?_; rintro e w6 ⟨rfl, hg⟩
      clear cT0 cT1 cT2 cT3 cT4 cT5 cJ0 cJ1 cJ2 cJ3 cJ4 cJ5 cJ6
      have HGn := hide (grownBy_trans HG.out hg)
      have HTn := hide (box_grown HT.out hg (by simp))
      have HJn := hide (box_grown HJ.out hg (by simp))
      have HXn := hide (box_grown HX.out hg (by simp))
      have HVn := hide (box_grown HV.out hg (by simp))
      clear HG HT HJ HX HV
      have HG := HGn
      have HT := HTn
      have HJ := HJn
      have HX := HXn
      have HV := HVn
      clear HGn HTn HJn HXn HVn
      clear hg
      go_wp2_with (first | fail)
      have hg : w6.grownBy ((w6.alloc (.cells #[.int .i64 0, .int .i64 0, .int .i64 0, .int .i64 0, .int .i64 9, .int .i64 d, .int .i64 q] 23)).alloc (.cells #[.bool false, .bool true, .bool false] 27)) none := (grownBy_trans (grownBy_trans (grownBy_refl _ _) (World.grownBy_alloc _ _ none)) (World.grownBy_alloc _ _ none))
      have hY := heap_alloc_new w6 (.cells #[.int .i64 0, .int .i64 0, .int .i64 0, .int .i64 0, .int .i64 9, .int .i64 d, .int .i64 q] 23)
      have HYq := hide (hp_up hY (.cells #[.bool false, .bool true, .bool false] 27))
      clear hY
      have LY : Hid (w.heap.size ≤ w6.heap.size) := hide (by have := HG.out.size; omega)
      have hW : ((w6.alloc (.cells #[.int .i64 0, .int .i64 0, .int .i64 0, .int .i64 0, .int .i64 9, .int .i64 d, .int .i64 q] 23)).alloc (.cells #[.bool false, .bool true, .bool false] 27)).heap[w6.heap.size + 1]? = some (.cells #[.bool false, .bool true, .bool false] 27) := by have h := heap_alloc_new (w6.alloc (.cells #[.int .i64 0, .int .i64 0, .int .i64 0, .int .i64 0, .int .i64 9, .int .i64 d, .int .i64 q] 23)) (.cells #[.bool false, .bool true, .bool false] 27); rwa [show (w6.alloc (.cells #[.int .i64 0, .int .i64 0, .int .i64 0, .int .i64 0, .int .i64 9, .int .i64 d, .int .i64 q] 23)).heap.size = w6.heap.size + 1 by simp] at h
      have HWq := hide hW
      clear hW
      have LW : Hid (w.heap.size ≤ w6.heap.size + 1) := hide (by have := HG.out.size; omega)
      have HGn := hide (grownBy_trans HG.out hg)
      have HTn := hide (box_grown HT.out hg (by simp))
      have HJn := hide (box_grown HJ.out hg (by simp))
      have HXn := hide (box_grown HX.out hg (by simp))
      have HVn := hide (box_grown HV.out hg (by simp))
      clear HG HT HJ HX HV
      have HG := HGn
      have HT := HTn
      have HJ := HJn
      have HX := HXn
      have HV := HVn
      clear HGn HTn HJn HXn HVn
      clear hg
      have HY := HYq
      clear HYq
      have HW := HWq
      clear HWq
      have HOY : Hid (w6.heap.size < w6.heap.size + 1) := hide (by omega)
      generalize hWx : ((w6.alloc (.cells #[.int .i64 0, .int .i64 0, .int .i64 0, .int .i64 0, .int .i64 9, .int .i64 d, .int .i64 q] 23)).alloc (.cells #[.bool false, .bool true, .bool false] 27)) = w7 at *
      clear hWx
      generalize hBx : w6.heap.size + 1 = BW at *
      clear hBx
      generalize hBx : w6.heap.size = BY at *
      clear hBx
      refine (NUM.out _ _).mono ?_; rintro e wn ⟨rfl, rfl⟩
      have hq := HQ.out
      have cX0 : w7.cell? ⟨BX, 0, none⟩ = some (.int .i64 0) := blk_cell HX.out 0
      have cX1 : w7.cell? ⟨BX, 1, none⟩ = some (.int .i64 0) := blk_cell HX.out 1
      have cX2 : w7.cell? ⟨BX, 2, none⟩ = some (.int .i64 0) := blk_cell HX.out 2
      have cX3 : w7.cell? ⟨BX, 3, none⟩ = some (.int .i64 0) := blk_cell HX.out 3
      have cX4 : w7.cell? ⟨BX, 4, none⟩ = some (.int .i64 9) := blk_cell HX.out 4
      have cX5 : w7.cell? ⟨BX, 5, none⟩ = some (.int .i64 d) := blk_cell HX.out 5
      have cX6 : w7.cell? ⟨BX, 6, none⟩ = some (.int .i64 q) := blk_cell HX.out 6
      have cY0 : w7.cell? ⟨BY, 0, none⟩ = some (.int .i64 0) := blk_cell HY.out 0
      have cY1 : w7.cell? ⟨BY, 1, none⟩ = some (.int .i64 0) := blk_cell HY.out 1
      have cY2 : w7.cell? ⟨BY, 2, none⟩ = some (.int .i64 0) := blk_cell HY.out 2
      have cY3 : w7.cell? ⟨BY, 3, none⟩ = some (.int .i64 0) := blk_cell HY.out 3
      have cY4 : w7.cell? ⟨BY, 4, none⟩ = some (.int .i64 9) := blk_cell HY.out 4
      have cY5 : w7.cell? ⟨BY, 5, none⟩ = some (.int .i64 d) := blk_cell HY.out 5
      have cY6 : w7.cell? ⟨BY, 6, none⟩ = some (.int .i64 q) := blk_cell HY.out 6
      have cV0 : w7.cell? ⟨BV, 0, none⟩ = some (.bool false) := blk_cell HV.out 0
      have cV1 : w7.cell? ⟨BV, 1, none⟩ = some (.bool true) := blk_cell HV.out 1
      have cV2 : w7.cell? ⟨BV, 2, none⟩ = some (.bool false) := blk_cell HV.out 2
      have cW0 : w7.cell? ⟨BW, 0, none⟩ = some (.bool false) := blk_cell HW.out 0
      have cW1 : w7.cell? ⟨BW, 1, none⟩ = some (.bool true) := blk_cell HW.out 1
      have cW2 : w7.cell? ⟨BW, 2, none⟩ = some (.bool false) := blk_cell HW.out 2
      go_wp2_with (first | (go_at_call 9; refine (NUM.out _ _).mono ?_; rintro e wn ⟨rfl, rfl⟩) | fail)
      clear cX0 cX1 cX2 cX3 cX4 cX5 cX6 cY0 cY1 cY2 cY3 cY4 cY5 cY6 cV0 cV1 cV2 cW0 cW1 cW2
      go_ret
      exact ⟨by first | rfl | simp [hlt], HG.out⟩
    · have e1 : (q == b) = false := beq_eq_false_iff_ne.2 heb
      clear heb
      have HK := hide (rk_hi (s := false) (bd := true) hb1 hb2 hd1 hd2 hr0 hrd HQ.out HS.out HD.out)
      have HL := hide (rk_lo (s := false) (bd := true) hb1 hb2 hd1 hd2 hr0 hrd HQ.out HS.out HD.out)
      have cT0 : w3.cell? ⟨BT, 0, none⟩ = some (.int .i64 0) := blk_cell HT.out 0
      have cT1 : w3.cell? ⟨BT, 1, none⟩ = some (.int .i64 50) := blk_cell HT.out 1
      have cT2 : w3.cell? ⟨BT, 2, none⟩ = some (.int .i64 40) := blk_cell HT.out 2
      have cT3 : w3.cell? ⟨BT, 3, none⟩ = some (.int .i64 b) := blk_cell HT.out 3
      have cT4 : w3.cell? ⟨BT, 4, none⟩ = some (.int .i64 b) := blk_cell HT.out 4
      have cT5 : w3.cell? ⟨BT, 5, none⟩ = some (.int .i64 0) := blk_cell HT.out 5
      have cJ0 : w3.cell? ⟨BJ, 0, none⟩ = some (.int .i64 0) := blk_cell HJ.out 0
      have cJ1 : w3.cell? ⟨BJ, 1, none⟩ = some (.int .i64 0) := blk_cell HJ.out 1
      have cJ2 : w3.cell? ⟨BJ, 2, none⟩ = some (.int .i64 0) := blk_cell HJ.out 2
      have cJ3 : w3.cell? ⟨BJ, 3, none⟩ = some (.int .i64 0) := blk_cell HJ.out 3
      have cJ4 : w3.cell? ⟨BJ, 4, none⟩ = some (.int .i64 9) := blk_cell HJ.out 4
      have cJ5 : w3.cell? ⟨BJ, 5, none⟩ = some (.int .i64 d) := blk_cell HJ.out 5
      have cJ6 : w3.cell? ⟨BJ, 6, none⟩ = some (.int .i64 r) := blk_cell HJ.out 6
      go_wp2_with (first | fail)
      refine (ch_at _ HK.out).mono ?_; rintro e w4 ⟨rfl, hg⟩
      clear cT0 cT1 cT2 cT3 cT4 cT5 cJ0 cJ1 cJ2 cJ3 cJ4 cJ5 cJ6
      have HGn := hide (grownBy_trans HG.out hg)
      have HTn := hide (box_grown HT.out hg (by simp))
      have HJn := hide (box_grown HJ.out hg (by simp))
      clear HG HT HJ
      have HG := HGn
      have HT := HTn
      have HJ := HJn
      clear HGn HTn HJn
      clear hg
      go_upto_region 8 with (first | fail)
      have hg : w4.grownBy ((w4.alloc (.cells #[.int .i64 0, .int .i64 0, .int .i64 0, .int .i64 0, .int .i64 9, .int .i64 d, .int .i64 q] 23)).alloc (.cells #[.bool false, .bool true, .bool false] 27)) none := (grownBy_trans (grownBy_trans (grownBy_refl _ _) (World.grownBy_alloc _ _ none)) (World.grownBy_alloc _ _ none))
      have hX := heap_alloc_new w4 (.cells #[.int .i64 0, .int .i64 0, .int .i64 0, .int .i64 0, .int .i64 9, .int .i64 d, .int .i64 q] 23)
      have HXq := hide (hp_up hX (.cells #[.bool false, .bool true, .bool false] 27))
      clear hX
      have LX : Hid (w.heap.size ≤ w4.heap.size) := hide (by have := HG.out.size; omega)
      have hV : ((w4.alloc (.cells #[.int .i64 0, .int .i64 0, .int .i64 0, .int .i64 0, .int .i64 9, .int .i64 d, .int .i64 q] 23)).alloc (.cells #[.bool false, .bool true, .bool false] 27)).heap[w4.heap.size + 1]? = some (.cells #[.bool false, .bool true, .bool false] 27) := by have h := heap_alloc_new (w4.alloc (.cells #[.int .i64 0, .int .i64 0, .int .i64 0, .int .i64 0, .int .i64 9, .int .i64 d, .int .i64 q] 23)) (.cells #[.bool false, .bool true, .bool false] 27); rwa [show (w4.alloc (.cells #[.int .i64 0, .int .i64 0, .int .i64 0, .int .i64 0, .int .i64 9, .int .i64 d, .int .i64 q] 23)).heap.size = w4.heap.size + 1 by simp] at h
      have HVq := hide hV
      clear hV
      have LV : Hid (w.heap.size ≤ w4.heap.size + 1) := hide (by have := HG.out.size; omega)
      have HGn := hide (grownBy_trans HG.out hg)
      have HTn := hide (box_grown HT.out hg (by simp))
      have HJn := hide (box_grown HJ.out hg (by simp))
      clear HG HT HJ
      have HG := HGn
      have HT := HTn
      have HJ := HJn
      clear HGn HTn HJn
      clear hg
      have HX := HXq
      clear HXq
      have HV := HVq
      clear HVq
      have HOX : Hid (w4.heap.size < w4.heap.size + 1) := hide (by omega)
      generalize hWx : ((w4.alloc (.cells #[.int .i64 0, .int .i64 0, .int .i64 0, .int .i64 0, .int .i64 9, .int .i64 d, .int .i64 q] 23)).alloc (.cells #[.bool false, .bool true, .bool false] 27)) = w5 at *
      clear hWx
      generalize hBx : w4.heap.size + 1 = BV at *
      clear hBx
      generalize hBx : w4.heap.size = BX at *
      clear hBx
      have cT0 : w5.cell? ⟨BT, 0, none⟩ = some (.int .i64 0) := blk_cell HT.out 0
      have cT1 : w5.cell? ⟨BT, 1, none⟩ = some (.int .i64 50) := blk_cell HT.out 1
      have cT2 : w5.cell? ⟨BT, 2, none⟩ = some (.int .i64 40) := blk_cell HT.out 2
      have cT3 : w5.cell? ⟨BT, 3, none⟩ = some (.int .i64 b) := blk_cell HT.out 3
      have cT4 : w5.cell? ⟨BT, 4, none⟩ = some (.int .i64 b) := blk_cell HT.out 4
      have cT5 : w5.cell? ⟨BT, 5, none⟩ = some (.int .i64 0) := blk_cell HT.out 5
      have cJ0 : w5.cell? ⟨BJ, 0, none⟩ = some (.int .i64 0) := blk_cell HJ.out 0
      have cJ1 : w5.cell? ⟨BJ, 1, none⟩ = some (.int .i64 0) := blk_cell HJ.out 1
      have cJ2 : w5.cell? ⟨BJ, 2, none⟩ = some (.int .i64 0) := blk_cell HJ.out 2
      have cJ3 : w5.cell? ⟨BJ, 3, none⟩ = some (.int .i64 0) := blk_cell HJ.out 3
      have cJ4 : w5.cell? ⟨BJ, 4, none⟩ = some (.int .i64 9) := blk_cell HJ.out 4
      have cJ5 : w5.cell? ⟨BJ, 5, none⟩ = some (.int .i64 d) := blk_cell HJ.out 5
      have cJ6 : w5.cell? ⟨BJ, 6, none⟩ = some (.int .i64 r) := blk_cell HJ.out 6
      go_wp2_with (first | fail)
      refine (ch_at _ HL.out).mono ?_; rintro e w6 ⟨rfl, hg⟩
      clear cT0 cT1 cT2 cT3 cT4 cT5 cJ0 cJ1 cJ2 cJ3 cJ4 cJ5 cJ6
      have HGn := hide (grownBy_trans HG.out hg)
      have HTn := hide (box_grown HT.out hg (by simp))
      have HJn := hide (box_grown HJ.out hg (by simp))
      have HXn := hide (box_grown HX.out hg (by simp))
      have HVn := hide (box_grown HV.out hg (by simp))
      clear HG HT HJ HX HV
      have HG := HGn
      have HT := HTn
      have HJ := HJn
      have HX := HXn
      have HV := HVn
      clear HGn HTn HJn HXn HVn
      clear hg
      go_wp2_with (first | fail)
      have hg : w6.grownBy ((w6.alloc (.cells #[.int .i64 0, .int .i64 0, .int .i64 0, .int .i64 0, .int .i64 9, .int .i64 d, .int .i64 q] 23)).alloc (.cells #[.bool false, .bool true, .bool false] 27)) none := (grownBy_trans (grownBy_trans (grownBy_refl _ _) (World.grownBy_alloc _ _ none)) (World.grownBy_alloc _ _ none))
      have hY := heap_alloc_new w6 (.cells #[.int .i64 0, .int .i64 0, .int .i64 0, .int .i64 0, .int .i64 9, .int .i64 d, .int .i64 q] 23)
      have HYq := hide (hp_up hY (.cells #[.bool false, .bool true, .bool false] 27))
      clear hY
      have LY : Hid (w.heap.size ≤ w6.heap.size) := hide (by have := HG.out.size; omega)
      have hW : ((w6.alloc (.cells #[.int .i64 0, .int .i64 0, .int .i64 0, .int .i64 0, .int .i64 9, .int .i64 d, .int .i64 q] 23)).alloc (.cells #[.bool false, .bool true, .bool false] 27)).heap[w6.heap.size + 1]? = some (.cells #[.bool false, .bool true, .bool false] 27) := by have h := heap_alloc_new (w6.alloc (.cells #[.int .i64 0, .int .i64 0, .int .i64 0, .int .i64 0, .int .i64 9, .int .i64 d, .int .i64 q] 23)) (.cells #[.bool false, .bool true, .bool false] 27); rwa [show (w6.alloc (.cells #[.int .i64 0, .int .i64 0, .int .i64 0, .int .i64 0, .int .i64 9, .int .i64 d, .int .i64 q] 23)).heap.size = w6.heap.size + 1 by simp] at h
      have HWq := hide hW
      clear hW
      have LW : Hid (w.heap.size ≤ w6.heap.size + 1) := hide (by have := HG.out.size; omega)
      have HGn := hide (grownBy_trans HG.out hg)
      have HTn := hide (box_grown HT.out hg (by simp))
      have HJn := hide (box_grown HJ.out hg (by simp))
      have HXn := hide (box_grown HX.out hg (by simp))
      have HVn := hide (box_grown HV.out hg (by simp))
      clear HG HT HJ HX HV
      have HG := HGn
      have HT := HTn
      have HJ := HJn
      have HX := HXn
      have HV := HVn
      clear HGn HTn HJn HXn HVn
      clear hg
      have HY := HYq
      clear HYq
      have HW := HWq
      clear HWq
      have HOY : Hid (w6.heap.size < w6.heap.size + 1) := hide (by omega)
      generalize hWx : ((w6.alloc (.cells #[.int .i64 0, .int .i64 0, .int .i64 0, .int .i64 0, .int .i64 9, .int .i64 d, .int .i64 q] 23)).alloc (.cells #[.bool false, .bool true, .bool false] 27)) = w7 at *
      clear hWx
      generalize hBx : w6.heap.size + 1 = BW at *
      clear hBx
      generalize hBx : w6.heap.size = BY at *
      clear hBx
      refine (NUM.out _ _).mono ?_; rintro e wn ⟨rfl, rfl⟩
      have hq := HQ.out
      have cX0 : w7.cell? ⟨BX, 0, none⟩ = some (.int .i64 0) := blk_cell HX.out 0
      have cX1 : w7.cell? ⟨BX, 1, none⟩ = some (.int .i64 0) := blk_cell HX.out 1
      have cX2 : w7.cell? ⟨BX, 2, none⟩ = some (.int .i64 0) := blk_cell HX.out 2
      have cX3 : w7.cell? ⟨BX, 3, none⟩ = some (.int .i64 0) := blk_cell HX.out 3
      have cX4 : w7.cell? ⟨BX, 4, none⟩ = some (.int .i64 9) := blk_cell HX.out 4
      have cX5 : w7.cell? ⟨BX, 5, none⟩ = some (.int .i64 d) := blk_cell HX.out 5
      have cX6 : w7.cell? ⟨BX, 6, none⟩ = some (.int .i64 q) := blk_cell HX.out 6
      have cY0 : w7.cell? ⟨BY, 0, none⟩ = some (.int .i64 0) := blk_cell HY.out 0
      have cY1 : w7.cell? ⟨BY, 1, none⟩ = some (.int .i64 0) := blk_cell HY.out 1
      have cY2 : w7.cell? ⟨BY, 2, none⟩ = some (.int .i64 0) := blk_cell HY.out 2
      have cY3 : w7.cell? ⟨BY, 3, none⟩ = some (.int .i64 0) := blk_cell HY.out 3
      have cY4 : w7.cell? ⟨BY, 4, none⟩ = some (.int .i64 9) := blk_cell HY.out 4
      have cY5 : w7.cell? ⟨BY, 5, none⟩ = some (.int .i64 d) := blk_cell HY.out 5
      have cY6 : w7.cell? ⟨BY, 6, none⟩ = some (.int .i64 q) := blk_cell HY.out 6
      have cV0 : w7.cell? ⟨BV, 0, none⟩ = some (.bool false) := blk_cell HV.out 0
      have cV1 : w7.cell? ⟨BV, 1, none⟩ = some (.bool true) := blk_cell HV.out 1
      have cV2 : w7.cell? ⟨BV, 2, none⟩ = some (.bool false) := blk_cell HV.out 2
      have cW0 : w7.cell? ⟨BW, 0, none⟩ = some (.bool false) := blk_cell HW.out 0
      have cW1 : w7.cell? ⟨BW, 1, none⟩ = some (.bool true) := blk_cell HW.out 1
      have cW2 : w7.cell? ⟨BW, 2, none⟩ = some (.bool false) := blk_cell HW.out 2
      go_wp2_with (first | (go_at_call 9; refine (NUM.out _ _).mono ?_; rintro e wn ⟨rfl, rfl⟩) | fail)
      clear cX0 cX1 cX2 cX3 cX4 cX5 cX6 cY0 cY1 cY2 cY3 cY4 cY5 cY6 cV0 cV1 cV2 cW0 cW1 cW2
      go_ret
      exact ⟨by first | rfl | simp [hlt], HG.out⟩
theorem ranks_law (x0 x1 x2 : Int) (w : World) : Calls Try.prog 6 #[.int .i64 x0, .int .i64 x1, .int .i64 x2] w fun e w' => e = .returned (.bool true) ∧ w.grownBy w' none := ranks_from x0 x1 x2 w w (grownBy_refl _ _)
#print axioms ranks_law
end Go.Proofs.Ytabnkmghgkmbmaa
