/- The walk of the statement ChargeForms: a job, a task, a level that is none; proved over the translation. -/
import Derived.Test.YtabnkmghgkmbmaaAw
import Derived.Test.YtabnkmghgkmbmaaFmath
import Derived.Test.YtabnkmghgkmbmaaBits
namespace Go.Proofs.Ytabnkmghgkmbmaa
open Go.RowKit
attribute [local go_sem] alloc_drewN setCell_drewN

set_option maxRecDepth 100000 in
set_option maxHeartbeats 40000000 in
theorem forms_from (x0 x1 : Int) (w w0 : World) (hg0 : w.grownBy w0 none) : Calls Try.prog 5 #[.int .i64 x0, .int .i64 x1] w0 fun e w' => e = .returned (.bool true) ∧ w.grownBy w' none := by
  obtain ⟨a, ha, hma⟩ := and6 x1
  obtain ⟨U, hU, hU1⟩ := conv_uf x0
  obtain ⟨r, hr'⟩ : ∃ r, U % 7 = r := ⟨_, rfl⟩
  have hr : r < 7 := by rw [← hr']; exact Nat.mod_lt _ (by omega)
  have hrem : ((U : Int)).tmod 7 = (r : Int) := by
    rw [Int.tmod_eq_emod_of_nonneg (by omega), ← hr']; simp
  have HR := hide hr
  have HREM := hide hrem
  have HCU := hide hU
  have HCU1 := hide hU1
  clear hr hr' hrem hU hU1
  have NUM := hide num_to
  have HG := hide hg0
  clear hg0
  go_enter Try.func5, Try.ntmps5
  go_wp2_with (first | fail)
  refine (awake_any _).mono ?_; rintro e w1 ⟨rfl, hg⟩
  have HGn := hide (grownBy_trans HG.out hg)
  clear HG
  have HG := HGn
  clear HGn
  clear hg
  go_upto_region 4 with (first | fail)
  generalize hd : 1 + (a : Int) = d at *
  have hd1 : 1 ≤ d := by omega
  have hd2 : d ≤ 64 := by omega
  clear hd hma ha
  go_upto_region 5 with (first | fail)
  have hg := World.grownBy_alloc w1 (.cells #[.int .i64 0, .int .i64 9, .int .i64 9, .int .i64 2, .int .i64 4, .int .i64 0] 25) none
  have HTq := hide (heap_alloc_new w1 (.cells #[.int .i64 0, .int .i64 9, .int .i64 9, .int .i64 2, .int .i64 4, .int .i64 0] 25))
  have LT := hide HG.out.size
  have HGn := hide (grownBy_trans HG.out hg)
  clear HG
  have HG := HGn
  clear HGn
  clear hg
  have HT := HTq
  clear HTq
  generalize hWx : w1.alloc (.cells #[.int .i64 0, .int .i64 9, .int .i64 9, .int .i64 2, .int .i64 4, .int .i64 0] 25) = w2 at *
  generalize hBx : w1.heap.size = BT at *
  clear hWx hBx
  go_upto_region 6 with (first | fail)
  have hg := World.grownBy_alloc w2 (.cells #[.int .i64 0, .int .i64 0, .int .i64 0, .int .i64 0, .int .i64 9, .int .i64 5, .int .i64 1] 23) none
  have HJq := hide (heap_alloc_new w2 (.cells #[.int .i64 0, .int .i64 0, .int .i64 0, .int .i64 0, .int .i64 9, .int .i64 5, .int .i64 1] 23))
  have LJ := hide HG.out.size
  have HGn := hide (grownBy_trans HG.out hg)
  have HTn := hide (box_grown HT.out hg (by simp))
  clear HG HT
  have HG := HGn
  have HT := HTn
  clear HGn HTn
  clear hg
  have HJ := HJq
  clear HJq
  generalize hWx : w2.alloc (.cells #[.int .i64 0, .int .i64 0, .int .i64 0, .int .i64 0, .int .i64 9, .int .i64 5, .int .i64 1] 23) = w3 at *
  generalize hBx : w2.heap.size = BJ at *
  clear hWx hBx
  have cT0 : w3.cell? ⟨BT, 0, none⟩ = some (.int .i64 0) := blk_cell HT.out 0
  have cT1 : w3.cell? ⟨BT, 1, none⟩ = some (.int .i64 9) := blk_cell HT.out 1
  have cT2 : w3.cell? ⟨BT, 2, none⟩ = some (.int .i64 9) := blk_cell HT.out 2
  have cT3 : w3.cell? ⟨BT, 3, none⟩ = some (.int .i64 2) := blk_cell HT.out 3
  have cT4 : w3.cell? ⟨BT, 4, none⟩ = some (.int .i64 4) := blk_cell HT.out 4
  have cT5 : w3.cell? ⟨BT, 5, none⟩ = some (.int .i64 0) := blk_cell HT.out 5
  have cJ0 : w3.cell? ⟨BJ, 0, none⟩ = some (.int .i64 0) := blk_cell HJ.out 0
  have cJ1 : w3.cell? ⟨BJ, 1, none⟩ = some (.int .i64 0) := blk_cell HJ.out 1
  have cJ2 : w3.cell? ⟨BJ, 2, none⟩ = some (.int .i64 0) := blk_cell HJ.out 2
  have cJ3 : w3.cell? ⟨BJ, 3, none⟩ = some (.int .i64 0) := blk_cell HJ.out 3
  have cJ4 : w3.cell? ⟨BJ, 4, none⟩ = some (.int .i64 9) := blk_cell HJ.out 4
  have cJ5 : w3.cell? ⟨BJ, 5, none⟩ = some (.int .i64 5) := blk_cell HJ.out 5
  have cJ6 : w3.cell? ⟨BJ, 6, none⟩ = some (.int .i64 1) := blk_cell HJ.out 6
  go_wp2_with (first | fail)
  refine (ch_at _ aw1).mono ?_; rintro e w4 ⟨rfl, hg⟩
  clear cT0 cT1 cT2 cT3 cT4 cT5 cJ0 cJ1 cJ2 cJ3 cJ4 cJ5 cJ6
  have HGn := hide (grownBy_trans HG.out hg)
  have HTn := hide (box_grown HT.out hg (by simp))
  have HJn := hide (box_grown HJ.out hg (by simp))
  clear HG HT HJ
  have HG := HGn
  have HT := HTn
  have HJ := HJn
  clear HGn HTn HJn
  clear hg
  go_upto_region 8 with (first | fail)
  have hg : w4.grownBy ((w4.alloc (.cells #[.int .i64 0, .int .i64 0, .int .i64 0, .int .i64 0, .int .i64 9, .int .i64 5, .int .i64 2] 23)).alloc (.cells #[.bool true, .bool false, .bool false] 27)) none := (grownBy_trans (grownBy_trans (grownBy_refl _ _) (World.grownBy_alloc _ _ none)) (World.grownBy_alloc _ _ none))
  have hA := heap_alloc_new w4 (.cells #[.int .i64 0, .int .i64 0, .int .i64 0, .int .i64 0, .int .i64 9, .int .i64 5, .int .i64 2] 23)
  have HAq := hide (hp_up hA (.cells #[.bool true, .bool false, .bool false] 27))
  clear hA
  have LA : Hid (w.heap.size ≤ w4.heap.size) := hide (by have := HG.out.size; omega)
  have hV : ((w4.alloc (.cells #[.int .i64 0, .int .i64 0, .int .i64 0, .int .i64 0, .int .i64 9, .int .i64 5, .int .i64 2] 23)).alloc (.cells #[.bool true, .bool false, .bool false] 27)).heap[w4.heap.size + 1]? = some (.cells #[.bool true, .bool false, .bool false] 27) := by have h := heap_alloc_new (w4.alloc (.cells #[.int .i64 0, .int .i64 0, .int .i64 0, .int .i64 0, .int .i64 9, .int .i64 5, .int .i64 2] 23)) (.cells #[.bool true, .bool false, .bool false] 27); rwa [show (w4.alloc (.cells #[.int .i64 0, .int .i64 0, .int .i64 0, .int .i64 0, .int .i64 9, .int .i64 5, .int .i64 2] 23)).heap.size = w4.heap.size + 1 by simp] at h
  have HVq := hide hV
  clear hV
  have LV : Hid (w.heap.size ≤ w4.heap.size + 1) := hide (by have := HG.out.size; omega)
  have HGn := hide (grownBy_trans HG.out hg)
  have HTn := hide (box_grown HT.out hg (by simp))
  have HJn := hide (box_grown HJ.out hg (by simp))
  clear HG HT HJ
  have HG := HGn
  have HT := HTn
  have HJ := HJn
  clear HGn HTn HJn
  clear hg
  have HA := HAq
  clear HAq
  have HV := HVq
  clear HVq
  have HOA : Hid (w4.heap.size < w4.heap.size + 1) := hide (by omega)
  generalize hWx : ((w4.alloc (.cells #[.int .i64 0, .int .i64 0, .int .i64 0, .int .i64 0, .int .i64 9, .int .i64 5, .int .i64 2] 23)).alloc (.cells #[.bool true, .bool false, .bool false] 27)) = w5 at *
  clear hWx
  generalize hBx : w4.heap.size + 1 = BV at *
  clear hBx
  generalize hBx : w4.heap.size = BA at *
  clear hBx
  clear HA HV LA LV
  have hU := HCU.out
  have hU1 := HCU1.out
  have hrem := HREM.out
  clear HCU HCU1 HREM
  have hr := HR.out
  clear HR
  rcases (show r = 0 ∨ r = 1 ∨ r = 2 ∨ r = 3 ∨ r = 4 ∨ r = 5 ∨ r = 6 by omega) with rfl | rfl | rfl | rfl | rfl | rfl | rfl
  all_goals clear hr
  · skip
    have HANS := hide (fm0 hd1)
    have cT0 : w5.cell? ⟨BT, 0, none⟩ = some (.int .i64 0) := blk_cell HT.out 0
    have cT1 : w5.cell? ⟨BT, 1, none⟩ = some (.int .i64 9) := blk_cell HT.out 1
    have cT2 : w5.cell? ⟨BT, 2, none⟩ = some (.int .i64 9) := blk_cell HT.out 2
    have cT3 : w5.cell? ⟨BT, 3, none⟩ = some (.int .i64 2) := blk_cell HT.out 3
    have cT4 : w5.cell? ⟨BT, 4, none⟩ = some (.int .i64 4) := blk_cell HT.out 4
    have cT5 : w5.cell? ⟨BT, 5, none⟩ = some (.int .i64 0) := blk_cell HT.out 5
    have cJ0 : w5.cell? ⟨BJ, 0, none⟩ = some (.int .i64 0) := blk_cell HJ.out 0
    have cJ1 : w5.cell? ⟨BJ, 1, none⟩ = some (.int .i64 0) := blk_cell HJ.out 1
    have cJ2 : w5.cell? ⟨BJ, 2, none⟩ = some (.int .i64 0) := blk_cell HJ.out 2
    have cJ3 : w5.cell? ⟨BJ, 3, none⟩ = some (.int .i64 0) := blk_cell HJ.out 3
    have cJ4 : w5.cell? ⟨BJ, 4, none⟩ = some (.int .i64 9) := blk_cell HJ.out 4
    have cJ5 : w5.cell? ⟨BJ, 5, none⟩ = some (.int .i64 5) := blk_cell HJ.out 5
    have cJ6 : w5.cell? ⟨BJ, 6, none⟩ = some (.int .i64 1) := blk_cell HJ.out 6
    go_wp2_with (first | fail)
    refine (ch_at _ HANS.out).mono ?_; rintro e w6 ⟨rfl, hg⟩
    clear cT0 cT1 cT2 cT3 cT4 cT5 cJ0 cJ1 cJ2 cJ3 cJ4 cJ5 cJ6
    have HGn := hide (grownBy_trans HG.out hg)
    have HTn := hide (box_grown HT.out hg (by simp))
    have HJn := hide (box_grown HJ.out hg (by simp))
    clear HG HT HJ
    have HG := HGn
    have HT := HTn
    have HJ := HJn
    clear HGn HTn HJn
    clear hg
    go_upto_region 23 with (first | fail)
    have hg : w6.grownBy ((w6.alloc (.cells #[.int .i64 0, .int .i64 0, .int .i64 0, .int .i64 0, .int .i64 0, .int .i64 0, .int .i64 0] 23)).alloc (.cells #[.bool false, .bool false, .bool false] 27)) none := (grownBy_trans (grownBy_trans (grownBy_refl _ _) (World.grownBy_alloc _ _ none)) (World.grownBy_alloc _ _ none))
    have hB := heap_alloc_new w6 (.cells #[.int .i64 0, .int .i64 0, .int .i64 0, .int .i64 0, .int .i64 0, .int .i64 0, .int .i64 0] 23)
    have HBq := hide (hp_up hB (.cells #[.bool false, .bool false, .bool false] 27))
    clear hB
    have LB : Hid (w.heap.size ≤ w6.heap.size) := hide (by have := HG.out.size; omega)
    have hU : ((w6.alloc (.cells #[.int .i64 0, .int .i64 0, .int .i64 0, .int .i64 0, .int .i64 0, .int .i64 0, .int .i64 0] 23)).alloc (.cells #[.bool false, .bool false, .bool false] 27)).heap[w6.heap.size + 1]? = some (.cells #[.bool false, .bool false, .bool false] 27) := by have h := heap_alloc_new (w6.alloc (.cells #[.int .i64 0, .int .i64 0, .int .i64 0, .int .i64 0, .int .i64 0, .int .i64 0, .int .i64 0] 23)) (.cells #[.bool false, .bool false, .bool false] 27); rwa [show (w6.alloc (.cells #[.int .i64 0, .int .i64 0, .int .i64 0, .int .i64 0, .int .i64 0, .int .i64 0, .int .i64 0] 23)).heap.size = w6.heap.size + 1 by simp] at h
    have HUq := hide hU
    clear hU
    have LU : Hid (w.heap.size ≤ w6.heap.size + 1) := hide (by have := HG.out.size; omega)
    have HGn := hide (grownBy_trans HG.out hg)
    have HTn := hide (box_grown HT.out hg (by simp))
    have HJn := hide (box_grown HJ.out hg (by simp))
    clear HG HT HJ
    have HG := HGn
    have HT := HTn
    have HJ := HJn
    clear HGn HTn HJn
    clear hg
    have HB := HBq
    clear HBq
    have HU := HUq
    clear HUq
    have HOB : Hid (w6.heap.size < w6.heap.size + 1) := hide (by omega)
    generalize hWx : ((w6.alloc (.cells #[.int .i64 0, .int .i64 0, .int .i64 0, .int .i64 0, .int .i64 0, .int .i64 0, .int .i64 0] 23)).alloc (.cells #[.bool false, .bool false, .bool false] 27)) = w7 at *
    clear hWx
    generalize hBx : w6.heap.size + 1 = BU at *
    clear hBx
    generalize hBx : w6.heap.size = BB at *
    clear hBx
    have cB0 : w7.cell? ⟨BB, 0, none⟩ = some (.int .i64 0) := blk_cell HB.out 0
    have cB1 : w7.cell? ⟨BB, 1, none⟩ = some (.int .i64 0) := blk_cell HB.out 1
    have cB2 : w7.cell? ⟨BB, 2, none⟩ = some (.int .i64 0) := blk_cell HB.out 2
    have cB3 : w7.cell? ⟨BB, 3, none⟩ = some (.int .i64 0) := blk_cell HB.out 3
    have cB4 : w7.cell? ⟨BB, 4, none⟩ = some (.int .i64 0) := blk_cell HB.out 4
    have cB5 : w7.cell? ⟨BB, 5, none⟩ = some (.int .i64 0) := blk_cell HB.out 5
    have cB6 : w7.cell? ⟨BB, 6, none⟩ = some (.int .i64 0) := blk_cell HB.out 6
    have cU0 : w7.cell? ⟨BU, 0, none⟩ = some (.bool false) := blk_cell HU.out 0
    have cU1 : w7.cell? ⟨BU, 1, none⟩ = some (.bool false) := blk_cell HU.out 1
    have cU2 : w7.cell? ⟨BU, 2, none⟩ = some (.bool false) := blk_cell HU.out 2
    go_wp2_with (first | (go_at_call 9; refine (NUM.out _ _).mono ?_; rintro e wn ⟨rfl, rfl⟩) | fail)
    clear cB0 cB1 cB2 cB3 cB4 cB5 cB6 cU0 cU1 cU2
    go_ret
    exact ⟨rfl, HG.out⟩
  · skip
    have HANS := hide (fm1 hd1)
    have cT0 : w5.cell? ⟨BT, 0, none⟩ = some (.int .i64 0) := blk_cell HT.out 0
    have cT1 : w5.cell? ⟨BT, 1, none⟩ = some (.int .i64 9) := blk_cell HT.out 1
    have cT2 : w5.cell? ⟨BT, 2, none⟩ = some (.int .i64 9) := blk_cell HT.out 2
    have cT3 : w5.cell? ⟨BT, 3, none⟩ = some (.int .i64 2) := blk_cell HT.out 3
    have cT4 : w5.cell? ⟨BT, 4, none⟩ = some (.int .i64 4) := blk_cell HT.out 4
    have cT5 : w5.cell? ⟨BT, 5, none⟩ = some (.int .i64 0) := blk_cell HT.out 5
    have cJ0 : w5.cell? ⟨BJ, 0, none⟩ = some (.int .i64 0) := blk_cell HJ.out 0
    have cJ1 : w5.cell? ⟨BJ, 1, none⟩ = some (.int .i64 0) := blk_cell HJ.out 1
    have cJ2 : w5.cell? ⟨BJ, 2, none⟩ = some (.int .i64 0) := blk_cell HJ.out 2
    have cJ3 : w5.cell? ⟨BJ, 3, none⟩ = some (.int .i64 0) := blk_cell HJ.out 3
    have cJ4 : w5.cell? ⟨BJ, 4, none⟩ = some (.int .i64 9) := blk_cell HJ.out 4
    have cJ5 : w5.cell? ⟨BJ, 5, none⟩ = some (.int .i64 5) := blk_cell HJ.out 5
    have cJ6 : w5.cell? ⟨BJ, 6, none⟩ = some (.int .i64 1) := blk_cell HJ.out 6
    go_wp2_with (first | fail)
    refine (ch_at _ HANS.out).mono ?_; rintro e w6 ⟨rfl, hg⟩
    clear cT0 cT1 cT2 cT3 cT4 cT5 cJ0 cJ1 cJ2 cJ3 cJ4 cJ5 cJ6
    have HGn := hide (grownBy_trans HG.out hg)
    have HTn := hide (box_grown HT.out hg (by simp))
    have HJn := hide (box_grown HJ.out hg (by simp))
    clear HG HT HJ
    have HG := HGn
    have HT := HTn
    have HJ := HJn
    clear HGn HTn HJn
    clear hg
    go_upto_region 23 with (first | fail)
    have hg : w6.grownBy ((w6.alloc (.cells #[.int .i64 0, .int .i64 0, .int .i64 0, .int .i64 0, .int .i64 0, .int .i64 0, .int .i64 0] 23)).alloc (.cells #[.bool false, .bool false, .bool false] 27)) none := (grownBy_trans (grownBy_trans (grownBy_refl _ _) (World.grownBy_alloc _ _ none)) (World.grownBy_alloc _ _ none))
    have hB := heap_alloc_new w6 (.cells #[.int .i64 0, .int .i64 0, .int .i64 0, .int .i64 0, .int .i64 0, .int .i64 0, .int .i64 0] 23)
    have HBq := hide (hp_up hB (.cells #[.bool false, .bool false, .bool false] 27))
    clear hB
    have LB : Hid (w.heap.size ≤ w6.heap.size) := hide (by have := HG.out.size; omega)
    have hU : ((w6.alloc (.cells #[.int .i64 0, .int .i64 0, .int .i64 0, .int .i64 0, .int .i64 0, .int .i64 0, .int .i64 0] 23)).alloc (.cells #[.bool false, .bool false, .bool false] 27)).heap[w6.heap.size + 1]? = some (.cells #[.bool false, .bool false, .bool false] 27) := by have h := heap_alloc_new (w6.alloc (.cells #[.int .i64 0, .int .i64 0, .int .i64 0, .int .i64 0, .int .i64 0, .int .i64 0, .int .i64 0] 23)) (.cells #[.bool false, .bool false, .bool false] 27); rwa [show (w6.alloc (.cells #[.int .i64 0, .int .i64 0, .int .i64 0, .int .i64 0, .int .i64 0, .int .i64 0, .int .i64 0] 23)).heap.size = w6.heap.size + 1 by simp] at h
    have HUq := hide hU
    clear hU
    have LU : Hid (w.heap.size ≤ w6.heap.size + 1) := hide (by have := HG.out.size; omega)
    have HGn := hide (grownBy_trans HG.out hg)
    have HTn := hide (box_grown HT.out hg (by simp))
    have HJn := hide (box_grown HJ.out hg (by simp))
    clear HG HT HJ
    have HG := HGn
    have HT := HTn
    have HJ := HJn
    clear HGn HTn HJn
    clear hg
    have HB := HBq
    clear HBq
    have HU := HUq
    clear HUq
    have HOB : Hid (w6.heap.size < w6.heap.size + 1) := hide (by omega)
    generalize hWx : ((w6.alloc (.cells #[.int .i64 0, .int .i64 0, .int .i64 0, .int .i64 0, .int .i64 0, .int .i64 0, .int .i64 0] 23)).alloc (.cells #[.bool false, .bool false, .bool false] 27)) = w7 at *
    clear hWx
    generalize hBx : w6.heap.size + 1 = BU at *
    clear hBx
    generalize hBx : w6.heap.size = BB at *
    clear hBx
    have cB0 : w7.cell? ⟨BB, 0, none⟩ = some (.int .i64 0) := blk_cell HB.out 0
    have cB1 : w7.cell? ⟨BB, 1, none⟩ = some (.int .i64 0) := blk_cell HB.out 1
    have cB2 : w7.cell? ⟨BB, 2, none⟩ = some (.int .i64 0) := blk_cell HB.out 2
    have cB3 : w7.cell? ⟨BB, 3, none⟩ = some (.int .i64 0) := blk_cell HB.out 3
    have cB4 : w7.cell? ⟨BB, 4, none⟩ = some (.int .i64 0) := blk_cell HB.out 4
    have cB5 : w7.cell? ⟨BB, 5, none⟩ = some (.int .i64 0) := blk_cell HB.out 5
    have cB6 : w7.cell? ⟨BB, 6, none⟩ = some (.int .i64 0) := blk_cell HB.out 6
    have cU0 : w7.cell? ⟨BU, 0, none⟩ = some (.bool false) := blk_cell HU.out 0
    have cU1 : w7.cell? ⟨BU, 1, none⟩ = some (.bool false) := blk_cell HU.out 1
    have cU2 : w7.cell? ⟨BU, 2, none⟩ = some (.bool false) := blk_cell HU.out 2
    go_wp2_with (first | (go_at_call 9; refine (NUM.out _ _).mono ?_; rintro e wn ⟨rfl, rfl⟩) | fail)
    clear cB0 cB1 cB2 cB3 cB4 cB5 cB6 cU0 cU1 cU2
    go_ret
    exact ⟨rfl, HG.out⟩
  · skip
    have cJ6 : w5.cell? ⟨BJ, 6, none⟩ = some (.int .i64 1) := blk_cell HJ.out 6
    have fJ6 := blk_free HJ.out 6
    go_upto_region 22 with (first | fail)
    clear cJ6 fJ6
    have hg := grownBy_set w5 BJ 6 (.int .i64 (4 + d))
    have HGn := hide (grown_spoil HG.out LJ.out hg)
    have HTn := hide (box_type HT.out hg (type_box HJ.out) (by decide))
    have HJn := hide (blk_set (j := 6) (u := .int .i64 (4 + d)) (cs' := #[.int .i64 0, .int .i64 0, .int .i64 0, .int .i64 0, .int .i64 9, .int .i64 5, .int .i64 (4 + d)]) HJ.out rfl)
    clear HG HT HJ
    have HG := HGn
    have HT := HTn
    have HJ := HJn
    clear HGn HTn HJn
    clear hg
    generalize hWx : w5.setCell ⟨BJ, 6, none⟩ (.int .i64 (4 + d)) = w6 at *
    clear hWx
    have HANS := hide (fm2 hd1)
    have cT0 : w6.cell? ⟨BT, 0, none⟩ = some (.int .i64 0) := blk_cell HT.out 0
    have cT1 : w6.cell? ⟨BT, 1, none⟩ = some (.int .i64 9) := blk_cell HT.out 1
    have cT2 : w6.cell? ⟨BT, 2, none⟩ = some (.int .i64 9) := blk_cell HT.out 2
    have cT3 : w6.cell? ⟨BT, 3, none⟩ = some (.int .i64 2) := blk_cell HT.out 3
    have cT4 : w6.cell? ⟨BT, 4, none⟩ = some (.int .i64 4) := blk_cell HT.out 4
    have cT5 : w6.cell? ⟨BT, 5, none⟩ = some (.int .i64 0) := blk_cell HT.out 5
    have cJ0 : w6.cell? ⟨BJ, 0, none⟩ = some (.int .i64 0) := blk_cell HJ.out 0
    have cJ1 : w6.cell? ⟨BJ, 1, none⟩ = some (.int .i64 0) := blk_cell HJ.out 1
    have cJ2 : w6.cell? ⟨BJ, 2, none⟩ = some (.int .i64 0) := blk_cell HJ.out 2
    have cJ3 : w6.cell? ⟨BJ, 3, none⟩ = some (.int .i64 0) := blk_cell HJ.out 3
    have cJ4 : w6.cell? ⟨BJ, 4, none⟩ = some (.int .i64 9) := blk_cell HJ.out 4
    have cJ5 : w6.cell? ⟨BJ, 5, none⟩ = some (.int .i64 5) := blk_cell HJ.out 5
    have cJ6 : w6.cell? ⟨BJ, 6, none⟩ = some (.int .i64 (4 + d)) := blk_cell HJ.out 6
    go_wp2_with (first | fail)
    refine (ch_at _ HANS.out).mono ?_; rintro e w7 ⟨rfl, hg⟩
    clear cT0 cT1 cT2 cT3 cT4 cT5 cJ0 cJ1 cJ2 cJ3 cJ4 cJ5 cJ6
    have HGn := hide (grownBy_trans HG.out hg)
    have HTn := hide (box_grown HT.out hg (by simp))
    have HJn := hide (box_grown HJ.out hg (by simp))
    clear HG HT HJ
    have HG := HGn
    have HT := HTn
    have HJ := HJn
    clear HGn HTn HJn
    clear hg
    go_upto_region 23 with (first | fail)
    have hg : w7.grownBy ((w7.alloc (.cells #[.int .i64 0, .int .i64 0, .int .i64 0, .int .i64 0, .int .i64 0, .int .i64 0, .int .i64 0] 23)).alloc (.cells #[.bool false, .bool false, .bool false] 27)) none := (grownBy_trans (grownBy_trans (grownBy_refl _ _) (World.grownBy_alloc _ _ none)) (World.grownBy_alloc _ _ none))
    have hB := heap_alloc_new w7 (.cells #[.int .i64 0, .int .i64 0, .int .i64 0, .int .i64 0, .int .i64 0, .int .i64 0, .int .i64 0] 23)
    have HBq := hide (hp_up hB (.cells #[.bool false, .bool false, .bool false] 27))
    clear hB
    have LB : Hid (w.heap.size ≤ w7.heap.size) := hide (by have := HG.out.size; omega)
    have hU : ((w7.alloc (.cells #[.int .i64 0, .int .i64 0, .int .i64 0, .int .i64 0, .int .i64 0, .int .i64 0, .int .i64 0] 23)).alloc (.cells #[.bool false, .bool false, .bool false] 27)).heap[w7.heap.size + 1]? = some (.cells #[.bool false, .bool false, .bool false] 27) := by have h := heap_alloc_new (w7.alloc (.cells #[.int .i64 0, .int .i64 0, .int .i64 0, .int .i64 0, .int .i64 0, .int .i64 0, .int .i64 0] 23)) (.cells #[.bool false, .bool false, .bool false] 27); rwa [show (w7.alloc (.cells #[.int .i64 0, .int .i64 0, .int .i64 0, .int .i64 0, .int .i64 0, .int .i64 0, .int .i64 0] 23)).heap.size = w7.heap.size + 1 by simp] at h
    have HUq := hide hU
    clear hU
    have LU : Hid (w.heap.size ≤ w7.heap.size + 1) := hide (by have := HG.out.size; omega)
    have HGn := hide (grownBy_trans HG.out hg)
    have HTn := hide (box_grown HT.out hg (by simp))
    have HJn := hide (box_grown HJ.out hg (by simp))
    clear HG HT HJ
    have HG := HGn
    have HT := HTn
    have HJ := HJn
    clear HGn HTn HJn
    clear hg
    have HB := HBq
    clear HBq
    have HU := HUq
    clear HUq
    have HOB : Hid (w7.heap.size < w7.heap.size + 1) := hide (by omega)
    generalize hWx : ((w7.alloc (.cells #[.int .i64 0, .int .i64 0, .int .i64 0, .int .i64 0, .int .i64 0, .int .i64 0, .int .i64 0] 23)).alloc (.cells #[.bool false, .bool false, .bool false] 27)) = w8 at *
    clear hWx
    generalize hBx : w7.heap.size + 1 = BU at *
    clear hBx
    generalize hBx : w7.heap.size = BB at *
    clear hBx
    have cB0 : w8.cell? ⟨BB, 0, none⟩ = some (.int .i64 0) := blk_cell HB.out 0
    have cB1 : w8.cell? ⟨BB, 1, none⟩ = some (.int .i64 0) := blk_cell HB.out 1
    have cB2 : w8.cell? ⟨BB, 2, none⟩ = some (.int .i64 0) := blk_cell HB.out 2
    have cB3 : w8.cell? ⟨BB, 3, none⟩ = some (.int .i64 0) := blk_cell HB.out 3
    have cB4 : w8.cell? ⟨BB, 4, none⟩ = some (.int .i64 0) := blk_cell HB.out 4
    have cB5 : w8.cell? ⟨BB, 5, none⟩ = some (.int .i64 0) := blk_cell HB.out 5
    have cB6 : w8.cell? ⟨BB, 6, none⟩ = some (.int .i64 0) := blk_cell HB.out 6
    have cU0 : w8.cell? ⟨BU, 0, none⟩ = some (.bool false) := blk_cell HU.out 0
    have cU1 : w8.cell? ⟨BU, 1, none⟩ = some (.bool false) := blk_cell HU.out 1
    have cU2 : w8.cell? ⟨BU, 2, none⟩ = some (.bool false) := blk_cell HU.out 2
    go_wp2_with (first | (go_at_call 9; refine (NUM.out _ _).mono ?_; rintro e wn ⟨rfl, rfl⟩) | fail)
    clear cB0 cB1 cB2 cB3 cB4 cB5 cB6 cU0 cU1 cU2
    go_ret
    exact ⟨rfl, HG.out⟩
  · skip
    have cJ6 : w5.cell? ⟨BJ, 6, none⟩ = some (.int .i64 1) := blk_cell HJ.out 6
    have fJ6 := blk_free HJ.out 6
    go_upto_region 22 with (first | fail)
    clear cJ6 fJ6
    have hg := grownBy_set w5 BJ 6 (.int .i64 (-d))
    have HGn := hide (grown_spoil HG.out LJ.out hg)
    have HTn := hide (box_type HT.out hg (type_box HJ.out) (by decide))
    have HJn := hide (blk_set (j := 6) (u := .int .i64 (-d)) (cs' := #[.int .i64 0, .int .i64 0, .int .i64 0, .int .i64 0, .int .i64 9, .int .i64 5, .int .i64 (-d)]) HJ.out rfl)
    clear HG HT HJ
    have HG := HGn
    have HT := HTn
    have HJ := HJn
    clear HGn HTn HJn
    clear hg
    generalize hWx : w5.setCell ⟨BJ, 6, none⟩ (.int .i64 (-d)) = w6 at *
    clear hWx
    have HANS := hide (fm3 hd1)
    have cT0 : w6.cell? ⟨BT, 0, none⟩ = some (.int .i64 0) := blk_cell HT.out 0
    have cT1 : w6.cell? ⟨BT, 1, none⟩ = some (.int .i64 9) := blk_cell HT.out 1
    have cT2 : w6.cell? ⟨BT, 2, none⟩ = some (.int .i64 9) := blk_cell HT.out 2
    have cT3 : w6.cell? ⟨BT, 3, none⟩ = some (.int .i64 2) := blk_cell HT.out 3
    have cT4 : w6.cell? ⟨BT, 4, none⟩ = some (.int .i64 4) := blk_cell HT.out 4
    have cT5 : w6.cell? ⟨BT, 5, none⟩ = some (.int .i64 0) := blk_cell HT.out 5
    have cJ0 : w6.cell? ⟨BJ, 0, none⟩ = some (.int .i64 0) := blk_cell HJ.out 0
    have cJ1 : w6.cell? ⟨BJ, 1, none⟩ = some (.int .i64 0) := blk_cell HJ.out 1
    have cJ2 : w6.cell? ⟨BJ, 2, none⟩ = some (.int .i64 0) := blk_cell HJ.out 2
    have cJ3 : w6.cell? ⟨BJ, 3, none⟩ = some (.int .i64 0) := blk_cell HJ.out 3
    have cJ4 : w6.cell? ⟨BJ, 4, none⟩ = some (.int .i64 9) := blk_cell HJ.out 4
    have cJ5 : w6.cell? ⟨BJ, 5, none⟩ = some (.int .i64 5) := blk_cell HJ.out 5
    have cJ6 : w6.cell? ⟨BJ, 6, none⟩ = some (.int .i64 (-d)) := blk_cell HJ.out 6
    go_wp2_with (first | fail)
    refine (ch_at _ HANS.out).mono ?_; rintro e w7 ⟨rfl, hg⟩
    clear cT0 cT1 cT2 cT3 cT4 cT5 cJ0 cJ1 cJ2 cJ3 cJ4 cJ5 cJ6
    have HGn := hide (grownBy_trans HG.out hg)
    have HTn := hide (box_grown HT.out hg (by simp))
    have HJn := hide (box_grown HJ.out hg (by simp))
    clear HG HT HJ
    have HG := HGn
    have HT := HTn
    have HJ := HJn
    clear HGn HTn HJn
    clear hg
    go_upto_region 23 with (first | fail)
    have hg : w7.grownBy ((w7.alloc (.cells #[.int .i64 0, .int .i64 0, .int .i64 0, .int .i64 0, .int .i64 0, .int .i64 0, .int .i64 0] 23)).alloc (.cells #[.bool false, .bool false, .bool false] 27)) none := (grownBy_trans (grownBy_trans (grownBy_refl _ _) (World.grownBy_alloc _ _ none)) (World.grownBy_alloc _ _ none))
    have hB := heap_alloc_new w7 (.cells #[.int .i64 0, .int .i64 0, .int .i64 0, .int .i64 0, .int .i64 0, .int .i64 0, .int .i64 0] 23)
    have HBq := hide (hp_up hB (.cells #[.bool false, .bool false, .bool false] 27))
    clear hB
    have LB : Hid (w.heap.size ≤ w7.heap.size) := hide (by have := HG.out.size; omega)
    have hU : ((w7.alloc (.cells #[.int .i64 0, .int .i64 0, .int .i64 0, .int .i64 0, .int .i64 0, .int .i64 0, .int .i64 0] 23)).alloc (.cells #[.bool false, .bool false, .bool false] 27)).heap[w7.heap.size + 1]? = some (.cells #[.bool false, .bool false, .bool false] 27) := by have h := heap_alloc_new (w7.alloc (.cells #[.int .i64 0, .int .i64 0, .int .i64 0, .int .i64 0, .int .i64 0, .int .i64 0, .int .i64 0] 23)) (.cells #[.bool false, .bool false, .bool false] 27); rwa [show (w7.alloc (.cells #[.int .i64 0, .int .i64 0, .int .i64 0, .int .i64 0, .int .i64 0, .int .i64 0, .int .i64 0] 23)).heap.size = w7.heap.size + 1 by simp] at h
    have HUq := hide hU
    clear hU
    have LU : Hid (w.heap.size ≤ w7.heap.size + 1) := hide (by have := HG.out.size; omega)
    have HGn := hide (grownBy_trans HG.out hg)
    have HTn := hide (box_grown HT.out hg (by simp))
    have HJn := hide (box_grown HJ.out hg (by simp))
    clear HG HT HJ
    have HG := HGn
    have HT := HTn
    have HJ := HJn
    clear HGn HTn HJn
    clear hg
    have HB := HBq
    clear HBq
    have HU := HUq
    clear HUq
    have HOB : Hid (w7.heap.size < w7.heap.size + 1) := hide (by omega)
    generalize hWx : ((w7.alloc (.cells #[.int .i64 0, .int .i64 0, .int .i64 0, .int .i64 0, .int .i64 0, .int .i64 0, .int .i64 0] 23)).alloc (.cells #[.bool false, .bool false, .bool false] 27)) = w8 at *
    clear hWx
    generalize hBx : w7.heap.size + 1 = BU at *
    clear hBx
    generalize hBx : w7.heap.size = BB at *
    clear hBx
    have cB0 : w8.cell? ⟨BB, 0, none⟩ = some (.int .i64 0) := blk_cell HB.out 0
    have cB1 : w8.cell? ⟨BB, 1, none⟩ = some (.int .i64 0) := blk_cell HB.out 1
    have cB2 : w8.cell? ⟨BB, 2, none⟩ = some (.int .i64 0) := blk_cell HB.out 2
    have cB3 : w8.cell? ⟨BB, 3, none⟩ = some (.int .i64 0) := blk_cell HB.out 3
    have cB4 : w8.cell? ⟨BB, 4, none⟩ = some (.int .i64 0) := blk_cell HB.out 4
    have cB5 : w8.cell? ⟨BB, 5, none⟩ = some (.int .i64 0) := blk_cell HB.out 5
    have cB6 : w8.cell? ⟨BB, 6, none⟩ = some (.int .i64 0) := blk_cell HB.out 6
    have cU0 : w8.cell? ⟨BU, 0, none⟩ = some (.bool false) := blk_cell HU.out 0
    have cU1 : w8.cell? ⟨BU, 1, none⟩ = some (.bool false) := blk_cell HU.out 1
    have cU2 : w8.cell? ⟨BU, 2, none⟩ = some (.bool false) := blk_cell HU.out 2
    go_wp2_with (first | (go_at_call 9; refine (NUM.out _ _).mono ?_; rintro e wn ⟨rfl, rfl⟩) | fail)
    clear cB0 cB1 cB2 cB3 cB4 cB5 cB6 cU0 cU1 cU2
    go_ret
    exact ⟨rfl, HG.out⟩
  · skip
    have cT3 : w5.cell? ⟨BT, 3, none⟩ = some (.int .i64 2) := blk_cell HT.out 3
    have fT3 := blk_free HT.out 3
    go_upto_region 22 with (first | fail)
    clear cT3 fT3
    have hg := grownBy_set w5 BT 3 (.int .i64 (4 + d))
    have HGn := hide (grown_spoil HG.out LT.out hg)
    have HJn := hide (box_type HJ.out hg (type_box HT.out) (by decide))
    have HTn := hide (blk_set (j := 3) (u := .int .i64 (4 + d)) (cs' := #[.int .i64 0, .int .i64 9, .int .i64 9, .int .i64 (4 + d), .int .i64 4, .int .i64 0]) HT.out rfl)
    clear HG HJ HT
    have HG := HGn
    have HJ := HJn
    have HT := HTn
    clear HGn HJn HTn
    clear hg
    generalize hWx : w5.setCell ⟨BT, 3, none⟩ (.int .i64 (4 + d)) = w6 at *
    clear hWx
    have HANS := hide (fm4 hd1)
    have cT0 : w6.cell? ⟨BT, 0, none⟩ = some (.int .i64 0) := blk_cell HT.out 0
    have cT1 : w6.cell? ⟨BT, 1, none⟩ = some (.int .i64 9) := blk_cell HT.out 1
    have cT2 : w6.cell? ⟨BT, 2, none⟩ = some (.int .i64 9) := blk_cell HT.out 2
    have cT3 : w6.cell? ⟨BT, 3, none⟩ = some (.int .i64 (4 + d)) := blk_cell HT.out 3
    have cT4 : w6.cell? ⟨BT, 4, none⟩ = some (.int .i64 4) := blk_cell HT.out 4
    have cT5 : w6.cell? ⟨BT, 5, none⟩ = some (.int .i64 0) := blk_cell HT.out 5
    have cJ0 : w6.cell? ⟨BJ, 0, none⟩ = some (.int .i64 0) := blk_cell HJ.out 0
    have cJ1 : w6.cell? ⟨BJ, 1, none⟩ = some (.int .i64 0) := blk_cell HJ.out 1
    have cJ2 : w6.cell? ⟨BJ, 2, none⟩ = some (.int .i64 0) := blk_cell HJ.out 2
    have cJ3 : w6.cell? ⟨BJ, 3, none⟩ = some (.int .i64 0) := blk_cell HJ.out 3
    have cJ4 : w6.cell? ⟨BJ, 4, none⟩ = some (.int .i64 9) := blk_cell HJ.out 4
    have cJ5 : w6.cell? ⟨BJ, 5, none⟩ = some (.int .i64 5) := blk_cell HJ.out 5
    have cJ6 : w6.cell? ⟨BJ, 6, none⟩ = some (.int .i64 1) := blk_cell HJ.out 6
    go_wp2_with (first | fail)
    refine (ch_at _ HANS.out).mono ?_; rintro e w7 ⟨rfl, hg⟩
    clear cT0 cT1 cT2 cT3 cT4 cT5 cJ0 cJ1 cJ2 cJ3 cJ4 cJ5 cJ6
    have HGn := hide (grownBy_trans HG.out hg)
    have HTn := hide (box_grown HT.out hg (by simp))
    have HJn := hide (box_grown HJ.out hg (by simp))
    clear HG HT HJ
    have HG := HGn
    have HT := HTn
    have HJ := HJn
    clear HGn HTn HJn
    clear hg
    go_upto_region 23 with (first | fail)
    have hg : w7.grownBy ((w7.alloc (.cells #[.int .i64 0, .int .i64 0, .int .i64 0, .int .i64 0, .int .i64 0, .int .i64 0, .int .i64 0] 23)).alloc (.cells #[.bool false, .bool false, .bool false] 27)) none := (grownBy_trans (grownBy_trans (grownBy_refl _ _) (World.grownBy_alloc _ _ none)) (World.grownBy_alloc _ _ none))
    have hB := heap_alloc_new w7 (.cells #[.int .i64 0, .int .i64 0, .int .i64 0, .int .i64 0, .int .i64 0, .int .i64 0, .int .i64 0] 23)
    have HBq := hide (hp_up hB (.cells #[.bool false, .bool false, .bool false] 27))
    clear hB
    have LB : Hid (w.heap.size ≤ w7.heap.size) := hide (by have := HG.out.size; omega)
    have hU : ((w7.alloc (.cells #[.int .i64 0, .int .i64 0, .int .i64 0, .int .i64 0, .int .i64 0, .int .i64 0, .int .i64 0] 23)).alloc (.cells #[.bool false, .bool false, .bool false] 27)).heap[w7.heap.size + 1]? = some (.cells #[.bool false, .bool false, .bool false] 27) := by have h := heap_alloc_new (w7.alloc (.cells #[.int .i64 0, .int .i64 0, .int .i64 0, .int .i64 0, .int .i64 0, .int .i64 0, .int .i64 0] 23)) (.cells #[.bool false, .bool false, .bool false] 27); rwa [show (w7.alloc (.cells #[.int .i64 0, .int .i64 0, .int .i64 0, .int .i64 0, .int .i64 0, .int .i64 0, .int .i64 0] 23)).heap.size = w7.heap.size + 1 by simp] at h
    have HUq := hide hU
    clear hU
    have LU : Hid (w.heap.size ≤ w7.heap.size + 1) := hide (by have := HG.out.size; omega)
    have HGn := hide (grownBy_trans HG.out hg)
    have HTn := hide (box_grown HT.out hg (by simp))
    have HJn := hide (box_grown HJ.out hg (by simp))
    clear HG HT HJ
    have HG := HGn
    have HT := HTn
    have HJ := HJn
    clear HGn HTn HJn
    clear hg
    have HB := HBq
    clear HBq
    have HU := HUq
    clear HUq
    have HOB : Hid (w7.heap.size < w7.heap.size + 1) := hide (by omega)
    generalize hWx : ((w7.alloc (.cells #[.int .i64 0, .int .i64 0, .int .i64 0, .int .i64 0, .int .i64 0, .int .i64 0, .int .i64 0] 23)).alloc (.cells #[.bool false, .bool false, .bool false] 27)) = w8 at *
    clear hWx
    generalize hBx : w7.heap.size + 1 = BU at *
    clear hBx
    generalize hBx : w7.heap.size = BB at *
    clear hBx
    have cB0 : w8.cell? ⟨BB, 0, none⟩ = some (.int .i64 0) := blk_cell HB.out 0
    have cB1 : w8.cell? ⟨BB, 1, none⟩ = some (.int .i64 0) := blk_cell HB.out 1
    have cB2 : w8.cell? ⟨BB, 2, none⟩ = some (.int .i64 0) := blk_cell HB.out 2
    have cB3 : w8.cell? ⟨BB, 3, none⟩ = some (.int .i64 0) := blk_cell HB.out 3
    have cB4 : w8.cell? ⟨BB, 4, none⟩ = some (.int .i64 0) := blk_cell HB.out 4
    have cB5 : w8.cell? ⟨BB, 5, none⟩ = some (.int .i64 0) := blk_cell HB.out 5
    have cB6 : w8.cell? ⟨BB, 6, none⟩ = some (.int .i64 0) := blk_cell HB.out 6
    have cU0 : w8.cell? ⟨BU, 0, none⟩ = some (.bool false) := blk_cell HU.out 0
    have cU1 : w8.cell? ⟨BU, 1, none⟩ = some (.bool false) := blk_cell HU.out 1
    have cU2 : w8.cell? ⟨BU, 2, none⟩ = some (.bool false) := blk_cell HU.out 2
    go_wp2_with (first | (go_at_call 9; refine (NUM.out _ _).mono ?_; rintro e wn ⟨rfl, rfl⟩) | fail)
    clear cB0 cB1 cB2 cB3 cB4 cB5 cB6 cU0 cU1 cU2
    go_ret
    exact ⟨rfl, HG.out⟩
  · by_cases h8 : d ≤ 8
    · skip
      have cT1 : w5.cell? ⟨BT, 1, none⟩ = some (.int .i64 9) := blk_cell HT.out 1
      have fT1 := blk_free HT.out 1
      go_upto_region 22 with (first | fail)
      clear cT1 fT1
      have hg := grownBy_set w5 BT 1 (.int .i64 (9 - d))
      have HGn := hide (grown_spoil HG.out LT.out hg)
      have HJn := hide (box_type HJ.out hg (type_box HT.out) (by decide))
      have HTn := hide (blk_set (j := 1) (u := .int .i64 (9 - d)) (cs' := #[.int .i64 0, .int .i64 (9 - d), .int .i64 9, .int .i64 2, .int .i64 4, .int .i64 0]) HT.out rfl)
      clear HG HJ HT
      have HG := HGn
      have HJ := HJn
      have HT := HTn
      clear HGn HJn HTn
      clear hg
      generalize hWx : w5.setCell ⟨BT, 1, none⟩ (.int .i64 (9 - d)) = w6 at *
      clear hWx
      have HANS := hide (fm5 hd1)
      have cT0 : w6.cell? ⟨BT, 0, none⟩ = some (.int .i64 0) := blk_cell HT.out 0
      have cT1 : w6.cell? ⟨BT, 1, none⟩ = some (.int .i64 (9 - d)) := blk_cell HT.out 1
      have cT2 : w6.cell? ⟨BT, 2, none⟩ = some (.int .i64 9) := blk_cell HT.out 2
      have cT3 : w6.cell? ⟨BT, 3, none⟩ = some (.int .i64 2) := blk_cell HT.out 3
      have cT4 : w6.cell? ⟨BT, 4, none⟩ = some (.int .i64 4) := blk_cell HT.out 4
      have cT5 : w6.cell? ⟨BT, 5, none⟩ = some (.int .i64 0) := blk_cell HT.out 5
      have cJ0 : w6.cell? ⟨BJ, 0, none⟩ = some (.int .i64 0) := blk_cell HJ.out 0
      have cJ1 : w6.cell? ⟨BJ, 1, none⟩ = some (.int .i64 0) := blk_cell HJ.out 1
      have cJ2 : w6.cell? ⟨BJ, 2, none⟩ = some (.int .i64 0) := blk_cell HJ.out 2
      have cJ3 : w6.cell? ⟨BJ, 3, none⟩ = some (.int .i64 0) := blk_cell HJ.out 3
      have cJ4 : w6.cell? ⟨BJ, 4, none⟩ = some (.int .i64 9) := blk_cell HJ.out 4
      have cJ5 : w6.cell? ⟨BJ, 5, none⟩ = some (.int .i64 5) := blk_cell HJ.out 5
      have cJ6 : w6.cell? ⟨BJ, 6, none⟩ = some (.int .i64 1) := blk_cell HJ.out 6
      go_wp2_with (first | fail)
      refine (ch_at _ HANS.out).mono ?_; rintro e w7 ⟨rfl, hg⟩
      clear cT0 cT1 cT2 cT3 cT4 cT5 cJ0 cJ1 cJ2 cJ3 cJ4 cJ5 cJ6
      have HGn := hide (grownBy_trans HG.out hg)
      have HTn := hide (box_grown HT.out hg (by simp))
      have HJn := hide (box_grown HJ.out hg (by simp))
      clear HG HT HJ
      have HG := HGn
      have HT := HTn
      have HJ := HJn
      clear HGn HTn HJn
      clear hg
      go_upto_region 23 with (first | fail)
      have hg : w7.grownBy ((w7.alloc (.cells #[.int .i64 0, .int .i64 0, .int .i64 0, .int .i64 0, .int .i64 0, .int .i64 0, .int .i64 0] 23)).alloc (.cells #[.bool false, .bool false, .bool false] 27)) none := (grownBy_trans (grownBy_trans (grownBy_refl _ _) (World.grownBy_alloc _ _ none)) (World.grownBy_alloc _ _ none))
      have hB := heap_alloc_new w7 (.cells #[.int .i64 0, .int .i64 0, .int .i64 0, .int .i64 0, .int .i64 0, .int .i64 0, .int .i64 0] 23)
      have HBq := hide (hp_up hB (.cells #[.bool false, .bool false, .bool false] 27))
      clear hB
      have LB : Hid (w.heap.size ≤ w7.heap.size) := hide (by have := HG.out.size; omega)
      have hU : ((w7.alloc (.cells #[.int .i64 0, .int .i64 0, .int .i64 0, .int .i64 0, .int .i64 0, .int .i64 0, .int .i64 0] 23)).alloc (.cells #[.bool false, .bool false, .bool false] 27)).heap[w7.heap.size + 1]? = some (.cells #[.bool false, .bool false, .bool false] 27) := by have h := heap_alloc_new (w7.alloc (.cells #[.int .i64 0, .int .i64 0, .int .i64 0, .int .i64 0, .int .i64 0, .int .i64 0, .int .i64 0] 23)) (.cells #[.bool false, .bool false, .bool false] 27); rwa [show (w7.alloc (.cells #[.int .i64 0, .int .i64 0, .int .i64 0, .int .i64 0, .int .i64 0, .int .i64 0, .int .i64 0] 23)).heap.size = w7.heap.size + 1 by simp] at h
      have HUq := hide hU
      clear hU
      have LU : Hid (w.heap.size ≤ w7.heap.size + 1) := hide (by have := HG.out.size; omega)
      have HGn := hide (grownBy_trans HG.out hg)
      have HTn := hide (box_grown HT.out hg (by simp))
      have HJn := hide (box_grown HJ.out hg (by simp))
      clear HG HT HJ
      have HG := HGn
      have HT := HTn
      have HJ := HJn
      clear HGn HTn HJn
      clear hg
      have HB := HBq
      clear HBq
      have HU := HUq
      clear HUq
      have HOB : Hid (w7.heap.size < w7.heap.size + 1) := hide (by omega)
      generalize hWx : ((w7.alloc (.cells #[.int .i64 0, .int .i64 0, .int .i64 0, .int .i64 0, .int .i64 0, .int .i64 0, .int .i64 0] 23)).alloc (.cells #[.bool false, .bool false, .bool false] 27)) = w8 at *
      clear hWx
      generalize hBx : w7.heap.size + 1 = BU at *
      clear hBx
      generalize hBx : w7.heap.size = BB at *
      clear hBx
      have cB0 : w8.cell? ⟨BB, 0, none⟩ = some (.int .i64 0) := blk_cell HB.out 0
      have cB1 : w8.cell? ⟨BB, 1, none⟩ = some (.int .i64 0) := blk_cell HB.out 1
      have cB2 : w8.cell? ⟨BB, 2, none⟩ = some (.int .i64 0) := blk_cell HB.out 2
      have cB3 : w8.cell? ⟨BB, 3, none⟩ = some (.int .i64 0) := blk_cell HB.out 3
      have cB4 : w8.cell? ⟨BB, 4, none⟩ = some (.int .i64 0) := blk_cell HB.out 4
      have cB5 : w8.cell? ⟨BB, 5, none⟩ = some (.int .i64 0) := blk_cell HB.out 5
      have cB6 : w8.cell? ⟨BB, 6, none⟩ = some (.int .i64 0) := blk_cell HB.out 6
      have cU0 : w8.cell? ⟨BU, 0, none⟩ = some (.bool false) := blk_cell HU.out 0
      have cU1 : w8.cell? ⟨BU, 1, none⟩ = some (.bool false) := blk_cell HU.out 1
      have cU2 : w8.cell? ⟨BU, 2, none⟩ = some (.bool false) := blk_cell HU.out 2
      go_wp2_with (first | (go_at_call 9; refine (NUM.out _ _).mono ?_; rintro e wn ⟨rfl, rfl⟩) | fail)
      clear cB0 cB1 cB2 cB3 cB4 cB5 cB6 cU0 cU1 cU2
      go_ret
      exact ⟨rfl, HG.out⟩
    · skip
      have cT1 : w5.cell? ⟨BT, 1, none⟩ = some (.int .i64 9) := blk_cell HT.out 1
      have fT1 := blk_free HT.out 1
      go_upto_region 22 with (first | fail)
      clear cT1 fT1
      have hg := grownBy_set w5 BT 1 (.int .i64 (1))
      have HGn := hide (grown_spoil HG.out LT.out hg)
      have HJn := hide (box_type HJ.out hg (type_box HT.out) (by decide))
      have HTn := hide (blk_set (j := 1) (u := .int .i64 (1)) (cs' := #[.int .i64 0, .int .i64 (1), .int .i64 9, .int .i64 2, .int .i64 4, .int .i64 0]) HT.out rfl)
      clear HG HJ HT
      have HG := HGn
      have HJ := HJn
      have HT := HTn
      clear HGn HJn HTn
      clear hg
      generalize hWx : w5.setCell ⟨BT, 1, none⟩ (.int .i64 (1)) = w6 at *
      clear hWx
      have HANS := hide (fm7)
      have cT0 : w6.cell? ⟨BT, 0, none⟩ = some (.int .i64 0) := blk_cell HT.out 0
      have cT1 : w6.cell? ⟨BT, 1, none⟩ = some (.int .i64 (1)) := blk_cell HT.out 1
      have cT2 : w6.cell? ⟨BT, 2, none⟩ = some (.int .i64 9) := blk_cell HT.out 2
      have cT3 : w6.cell? ⟨BT, 3, none⟩ = some (.int .i64 2) := blk_cell HT.out 3
      have cT4 : w6.cell? ⟨BT, 4, none⟩ = some (.int .i64 4) := blk_cell HT.out 4
      have cT5 : w6.cell? ⟨BT, 5, none⟩ = some (.int .i64 0) := blk_cell HT.out 5
      have cJ0 : w6.cell? ⟨BJ, 0, none⟩ = some (.int .i64 0) := blk_cell HJ.out 0
      have cJ1 : w6.cell? ⟨BJ, 1, none⟩ = some (.int .i64 0) := blk_cell HJ.out 1
      have cJ2 : w6.cell? ⟨BJ, 2, none⟩ = some (.int .i64 0) := blk_cell HJ.out 2
      have cJ3 : w6.cell? ⟨BJ, 3, none⟩ = some (.int .i64 0) := blk_cell HJ.out 3
      have cJ4 : w6.cell? ⟨BJ, 4, none⟩ = some (.int .i64 9) := blk_cell HJ.out 4
      have cJ5 : w6.cell? ⟨BJ, 5, none⟩ = some (.int .i64 5) := blk_cell HJ.out 5
      have cJ6 : w6.cell? ⟨BJ, 6, none⟩ = some (.int .i64 1) := blk_cell HJ.out 6
      go_wp2_with (first | fail)
      refine (ch_at _ HANS.out).mono ?_; rintro e w7 ⟨rfl, hg⟩
      clear cT0 cT1 cT2 cT3 cT4 cT5 cJ0 cJ1 cJ2 cJ3 cJ4 cJ5 cJ6
      have HGn := hide (grownBy_trans HG.out hg)
      have HTn := hide (box_grown HT.out hg (by simp))
      have HJn := hide (box_grown HJ.out hg (by simp))
      clear HG HT HJ
      have HG := HGn
      have HT := HTn
      have HJ := HJn
      clear HGn HTn HJn
      clear hg
      go_upto_region 23 with (first | fail)
      have hg : w7.grownBy ((w7.alloc (.cells #[.int .i64 0, .int .i64 0, .int .i64 0, .int .i64 0, .int .i64 0, .int .i64 0, .int .i64 0] 23)).alloc (.cells #[.bool false, .bool false, .bool false] 27)) none := (grownBy_trans (grownBy_trans (grownBy_refl _ _) (World.grownBy_alloc _ _ none)) (World.grownBy_alloc _ _ none))
      have hB := heap_alloc_new w7 (.cells #[.int .i64 0, .int .i64 0, .int .i64 0, .int .i64 0, .int .i64 0, .int .i64 0, .int .i64 0] 23)
      have HBq := hide (hp_up hB (.cells #[.bool false, .bool false, .bool false] 27))
      clear hB
      have LB : Hid (w.heap.size ≤ w7.heap.size) := hide (by have := HG.out.size; omega)
      have hU : ((w7.alloc (.cells #[.int .i64 0, .int .i64 0, .int .i64 0, .int .i64 0, .int .i64 0, .int .i64 0, .int .i64 0] 23)).alloc (.cells #[.bool false, .bool false, .bool false] 27)).heap[w7.heap.size + 1]? = some (.cells #[.bool false, .bool false, .bool false] 27) := by have h := heap_alloc_new (w7.alloc (.cells #[.int .i64 0, .int .i64 0, .int .i64 0, .int .i64 0, .int .i64 0, .int .i64 0, .int .i64 0] 23)) (.cells #[.bool false, .bool false, .bool false] 27); rwa [show (w7.alloc (.cells #[.int .i64 0, .int .i64 0, .int .i64 0, .int .i64 0, .int .i64 0, .int .i64 0, .int .i64 0] 23)).heap.size = w7.heap.size + 1 by simp] at h
      have HUq := hide hU
      clear hU
      have LU : Hid (w.heap.size ≤ w7.heap.size + 1) := hide (by have := HG.out.size; omega)
      have HGn := hide (grownBy_trans HG.out hg)
      have HTn := hide (box_grown HT.out hg (by simp))
      have HJn := hide (box_grown HJ.out hg (by simp))
      clear HG HT HJ
      have HG := HGn
      have HT := HTn
      have HJ := HJn
      clear HGn HTn HJn
      clear hg
      have HB := HBq
      clear HBq
      have HU := HUq
      clear HUq
      have HOB : Hid (w7.heap.size < w7.heap.size + 1) := hide (by omega)
      generalize hWx : ((w7.alloc (.cells #[.int .i64 0, .int .i64 0, .int .i64 0, .int .i64 0, .int .i64 0, .int .i64 0, .int .i64 0] 23)).alloc (.cells #[.bool false, .bool false, .bool false] 27)) = w8 at *
      clear hWx
      generalize hBx : w7.heap.size + 1 = BU at *
      clear hBx
      generalize hBx : w7.heap.size = BB at *
      clear hBx
      have cB0 : w8.cell? ⟨BB, 0, none⟩ = some (.int .i64 0) := blk_cell HB.out 0
      have cB1 : w8.cell? ⟨BB, 1, none⟩ = some (.int .i64 0) := blk_cell HB.out 1
      have cB2 : w8.cell? ⟨BB, 2, none⟩ = some (.int .i64 0) := blk_cell HB.out 2
      have cB3 : w8.cell? ⟨BB, 3, none⟩ = some (.int .i64 0) := blk_cell HB.out 3
      have cB4 : w8.cell? ⟨BB, 4, none⟩ = some (.int .i64 0) := blk_cell HB.out 4
      have cB5 : w8.cell? ⟨BB, 5, none⟩ = some (.int .i64 0) := blk_cell HB.out 5
      have cB6 : w8.cell? ⟨BB, 6, none⟩ = some (.int .i64 0) := blk_cell HB.out 6
      have cU0 : w8.cell? ⟨BU, 0, none⟩ = some (.bool false) := blk_cell HU.out 0
      have cU1 : w8.cell? ⟨BU, 1, none⟩ = some (.bool false) := blk_cell HU.out 1
      have cU2 : w8.cell? ⟨BU, 2, none⟩ = some (.bool false) := blk_cell HU.out 2
      go_wp2_with (first | (go_at_call 9; refine (NUM.out _ _).mono ?_; rintro e wn ⟨rfl, rfl⟩) | fail)
      clear cB0 cB1 cB2 cB3 cB4 cB5 cB6 cU0 cU1 cU2
      go_ret
      exact ⟨rfl, HG.out⟩
  · skip
    have cJ4 : w5.cell? ⟨BJ, 4, none⟩ = some (.int .i64 9) := blk_cell HJ.out 4
    have fJ4 := blk_free HJ.out 4
    go_upto_region 22 with (first | fail)
    clear cJ4 fJ4
    have hg := grownBy_set w5 BJ 4 (.int .i64 (1 - d))
    have HGn := hide (grown_spoil HG.out LJ.out hg)
    have HTn := hide (box_type HT.out hg (type_box HJ.out) (by decide))
    have HJn := hide (blk_set (j := 4) (u := .int .i64 (1 - d)) (cs' := #[.int .i64 0, .int .i64 0, .int .i64 0, .int .i64 0, .int .i64 (1 - d), .int .i64 5, .int .i64 1]) HJ.out rfl)
    clear HG HT HJ
    have HG := HGn
    have HT := HTn
    have HJ := HJn
    clear HGn HTn HJn
    clear hg
    generalize hWx : w5.setCell ⟨BJ, 4, none⟩ (.int .i64 (1 - d)) = w6 at *
    clear hWx
    have HANS := hide (fm6 hd1)
    have cT0 : w6.cell? ⟨BT, 0, none⟩ = some (.int .i64 0) := blk_cell HT.out 0
    have cT1 : w6.cell? ⟨BT, 1, none⟩ = some (.int .i64 9) := blk_cell HT.out 1
    have cT2 : w6.cell? ⟨BT, 2, none⟩ = some (.int .i64 9) := blk_cell HT.out 2
    have cT3 : w6.cell? ⟨BT, 3, none⟩ = some (.int .i64 2) := blk_cell HT.out 3
    have cT4 : w6.cell? ⟨BT, 4, none⟩ = some (.int .i64 4) := blk_cell HT.out 4
    have cT5 : w6.cell? ⟨BT, 5, none⟩ = some (.int .i64 0) := blk_cell HT.out 5
    have cJ0 : w6.cell? ⟨BJ, 0, none⟩ = some (.int .i64 0) := blk_cell HJ.out 0
    have cJ1 : w6.cell? ⟨BJ, 1, none⟩ = some (.int .i64 0) := blk_cell HJ.out 1
    have cJ2 : w6.cell? ⟨BJ, 2, none⟩ = some (.int .i64 0) := blk_cell HJ.out 2
    have cJ3 : w6.cell? ⟨BJ, 3, none⟩ = some (.int .i64 0) := blk_cell HJ.out 3
    have cJ4 : w6.cell? ⟨BJ, 4, none⟩ = some (.int .i64 (1 - d)) := blk_cell HJ.out 4
    have cJ5 : w6.cell? ⟨BJ, 5, none⟩ = some (.int .i64 5) := blk_cell HJ.out 5
    have cJ6 : w6.cell? ⟨BJ, 6, none⟩ = some (.int .i64 1) := blk_cell HJ.out 6
    go_wp2_with (first | fail)
    refine (ch_at _ HANS.out).mono ?_; rintro e w7 ⟨rfl, hg⟩
    clear cT0 cT1 cT2 cT3 cT4 cT5 cJ0 cJ1 cJ2 cJ3 cJ4 cJ5 cJ6
    have HGn := hide (grownBy_trans HG.out hg)
    have HTn := hide (box_grown HT.out hg (by simp))
    have HJn := hide (box_grown HJ.out hg (by simp))
    clear HG HT HJ
    have HG := HGn
    have HT := HTn
    have HJ := HJn
    clear HGn HTn HJn
    clear hg
    go_upto_region 23 with (first | fail)
    have hg : w7.grownBy ((w7.alloc (.cells #[.int .i64 0, .int .i64 0, .int .i64 0, .int .i64 0, .int .i64 0, .int .i64 0, .int .i64 0] 23)).alloc (.cells #[.bool false, .bool false, .bool false] 27)) none := (grownBy_trans (grownBy_trans (grownBy_refl _ _) (World.grownBy_alloc _ _ none)) (World.grownBy_alloc _ _ none))
    have hB := heap_alloc_new w7 (.cells #[.int .i64 0, .int .i64 0, .int .i64 0, .int .i64 0, .int .i64 0, .int .i64 0, .int .i64 0] 23)
    have HBq := hide (hp_up hB (.cells #[.bool false, .bool false, .bool false] 27))
    clear hB
    have LB : Hid (w.heap.size ≤ w7.heap.size) := hide (by have := HG.out.size; omega)
    have hU : ((w7.alloc (.cells #[.int .i64 0, .int .i64 0, .int .i64 0, .int .i64 0, .int .i64 0, .int .i64 0, .int .i64 0] 23)).alloc (.cells #[.bool false, .bool false, .bool false] 27)).heap[w7.heap.size + 1]? = some (.cells #[.bool false, .bool false, .bool false] 27) := by have h := heap_alloc_new (w7.alloc (.cells #[.int .i64 0, .int .i64 0, .int .i64 0, .int .i64 0, .int .i64 0, .int .i64 0, .int .i64 0] 23)) (.cells #[.bool false, .bool false, .bool false] 27); rwa [show (w7.alloc (.cells #[.int .i64 0, .int .i64 0, .int .i64 0, .int .i64 0, .int .i64 0, .int .i64 0, .int .i64 0] 23)).heap.size = w7.heap.size + 1 by simp] at h
    have HUq := hide hU
    clear hU
    have LU : Hid (w.heap.size ≤ w7.heap.size + 1) := hide (by have := HG.out.size; omega)
    have HGn := hide (grownBy_trans HG.out hg)
    have HTn := hide (box_grown HT.out hg (by simp))
    have HJn := hide (box_grown HJ.out hg (by simp))
    clear HG HT HJ
    have HG := HGn
    have HT := HTn
    have HJ := HJn
    clear HGn HTn HJn
    clear hg
    have HB := HBq
    clear HBq
    have HU := HUq
    clear HUq
    have HOB : Hid (w7.heap.size < w7.heap.size + 1) := hide (by omega)
    generalize hWx : ((w7.alloc (.cells #[.int .i64 0, .int .i64 0, .int .i64 0, .int .i64 0, .int .i64 0, .int .i64 0, .int .i64 0] 23)).alloc (.cells #[.bool false, .bool false, .bool false] 27)) = w8 at *
    clear hWx
    generalize hBx : w7.heap.size + 1 = BU at *
    clear hBx
    generalize hBx : w7.heap.size = BB at *
    clear hBx
    have cB0 : w8.cell? ⟨BB, 0, none⟩ = some (.int .i64 0) := blk_cell HB.out 0
    have cB1 : w8.cell? ⟨BB, 1, none⟩ = some (.int .i64 0) := blk_cell HB.out 1
    have cB2 : w8.cell? ⟨BB, 2, none⟩ = some (.int .i64 0) := blk_cell HB.out 2
    have cB3 : w8.cell? ⟨BB, 3, none⟩ = some (.int .i64 0) := blk_cell HB.out 3
    have cB4 : w8.cell? ⟨BB, 4, none⟩ = some (.int .i64 0) := blk_cell HB.out 4
    have cB5 : w8.cell? ⟨BB, 5, none⟩ = some (.int .i64 0) := blk_cell HB.out 5
    have cB6 : w8.cell? ⟨BB, 6, none⟩ = some (.int .i64 0) := blk_cell HB.out 6
    have cU0 : w8.cell? ⟨BU, 0, none⟩ = some (.bool false) := blk_cell HU.out 0
    have cU1 : w8.cell? ⟨BU, 1, none⟩ = some (.bool false) := blk_cell HU.out 1
    have cU2 : w8.cell? ⟨BU, 2, none⟩ = some (.bool false) := blk_cell HU.out 2
    go_wp2_with (first | (go_at_call 9; refine (NUM.out _ _).mono ?_; rintro e wn ⟨rfl, rfl⟩) | fail)
    clear cB0 cB1 cB2 cB3 cB4 cB5 cB6 cU0 cU1 cU2
    go_ret
    exact ⟨rfl, HG.out⟩
theorem forms_law (x0 x1 : Int) (w : World) : Calls Try.prog 5 #[.int .i64 x0, .int .i64 x1] w fun e w' => e = .returned (.bool true) ∧ w.grownBy w' none := forms_from x0 x1 w w (grownBy_refl _ _)
#print axioms forms_law
end Go.Proofs.Ytabnkmghgkmbmaa
