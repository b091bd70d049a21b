/- The statements' own awake answers true, proved over the translation. -/
import Derived.Test.YtabnkmghgkmbmaaLaw0
namespace Go.Proofs.Ytabnkmghgkmbmaa
open Go.RowKit
attribute [local go_sem] alloc_drewN setCell_drewN

def awT : TaskV := ⟨0, 9, 9, 2, 4, 0⟩
def awJ (u : Int) : JobV := ⟨0, 0, 0, 0, 9, 5, u⟩
theorem aw1 : chV (awJ 1) awT 1 = .tuple #[jobVal ⟨0, 0, 0, 0, 9, 5, 2⟩, verVal true false false, .int .i64 0] := by kernel_rfl
theorem aw2 : chV (awJ 3) awT 1 = .tuple #[jobVal ⟨0, 0, 0, 0, 9, 5, 4⟩, verVal false false true, .int .i64 0] := by kernel_rfl
theorem aw3 : chV (awJ 4) awT 1 = .tuple #[jobVal ⟨0, 0, 0, 0, 9, 5, 5⟩, verVal false true false, .int .i64 0] := by kernel_rfl
theorem aw4 : chV (awJ 1) awT 0 = .tuple #[jobVal ⟨0, 0, 0, 0, 9, 5, 2⟩, verVal false false true, .int .i64 0] := by kernel_rfl
theorem aw5 : chV (awJ 1) awT 2 = .tuple #[jobVal ⟨0, 0, 0, 0, 0, 0, 0⟩, verVal false false false, .int .i64 1300] := by kernel_rfl
set_option maxRecDepth 100000 in
set_option maxHeartbeats 8000000 in
theorem awake_from (w w0 : World) (hg0 : w.grownBy w0 none) : Calls Try.prog 10 #[] w0 fun e w' => e = .returned (.bool true) ∧ w.grownBy w' none := by
  have NUM := hide num_to
  have HG := hide hg0
  clear hg0
  go_enter Try.func10, Try.ntmps10
  go_upto_region 2 with (first | fail)
  have hg := World.grownBy_alloc w0 (.cells #[.int .i64 0, .int .i64 9, .int .i64 9, .int .i64 2, .int .i64 4, .int .i64 0] 25) none
  have HTq := hide (heap_alloc_new w0 (.cells #[.int .i64 0, .int .i64 9, .int .i64 9, .int .i64 2, .int .i64 4, .int .i64 0] 25))
  have LT := hide HG.out.size
  have HGn := hide (grownBy_trans HG.out hg)
  clear HG
  have HG := HGn
  clear HGn
  clear hg
  have HT := HTq
  clear HTq
  generalize hWx : w0.alloc (.cells #[.int .i64 0, .int .i64 9, .int .i64 9, .int .i64 2, .int .i64 4, .int .i64 0] 25) = w1 at *
  generalize hBx : w0.heap.size = BT at *
  clear hWx hBx
  go_upto_region 3 with (first | fail)
  have hg := World.grownBy_alloc w1 (.cells #[.int .i64 0, .int .i64 0, .int .i64 0, .int .i64 0, .int .i64 9, .int .i64 5, .int .i64 1] 23) none
  have HJq := hide (heap_alloc_new w1 (.cells #[.int .i64 0, .int .i64 0, .int .i64 0, .int .i64 0, .int .i64 9, .int .i64 5, .int .i64 1] 23))
  have LJ := hide HG.out.size
  have HGn := hide (grownBy_trans HG.out hg)
  have HTn := hide (box_grown HT.out hg (by simp))
  clear HG HT
  have HG := HGn
  have HT := HTn
  clear HGn HTn
  clear hg
  have HJ := HJq
  clear HJq
  generalize hWx : w1.alloc (.cells #[.int .i64 0, .int .i64 0, .int .i64 0, .int .i64 0, .int .i64 9, .int .i64 5, .int .i64 1] 23) = w2 at *
  generalize hBx : w1.heap.size = BJ at *
  clear hWx hBx
  have cT0 : w2.cell? ⟨BT, 0, none⟩ = some (.int .i64 0) := blk_cell HT.out 0
  have cT1 : w2.cell? ⟨BT, 1, none⟩ = some (.int .i64 9) := blk_cell HT.out 1
  have cT2 : w2.cell? ⟨BT, 2, none⟩ = some (.int .i64 9) := blk_cell HT.out 2
  have cT3 : w2.cell? ⟨BT, 3, none⟩ = some (.int .i64 2) := blk_cell HT.out 3
  have cT4 : w2.cell? ⟨BT, 4, none⟩ = some (.int .i64 4) := blk_cell HT.out 4
  have cT5 : w2.cell? ⟨BT, 5, none⟩ = some (.int .i64 0) := blk_cell HT.out 5
  have cJ0 : w2.cell? ⟨BJ, 0, none⟩ = some (.int .i64 0) := blk_cell HJ.out 0
  have cJ1 : w2.cell? ⟨BJ, 1, none⟩ = some (.int .i64 0) := blk_cell HJ.out 1
  have cJ2 : w2.cell? ⟨BJ, 2, none⟩ = some (.int .i64 0) := blk_cell HJ.out 2
  have cJ3 : w2.cell? ⟨BJ, 3, none⟩ = some (.int .i64 0) := blk_cell HJ.out 3
  have cJ4 : w2.cell? ⟨BJ, 4, none⟩ = some (.int .i64 9) := blk_cell HJ.out 4
  have cJ5 : w2.cell? ⟨BJ, 5, none⟩ = some (.int .i64 5) := blk_cell HJ.out 5
  have cJ6 : w2.cell? ⟨BJ, 6, none⟩ = some (.int .i64 1) := blk_cell HJ.out 6
  go_wp2_with (first | fail)
  refine (ch_at _ aw1).mono ?_; rintro e w3 ⟨rfl, hg⟩
  clear cT0 cT1 cT2 cT3 cT4 cT5 cJ0 cJ1 cJ2 cJ3 cJ4 cJ5 cJ6
  have HGn := hide (grownBy_trans HG.out hg)
  have HTn := hide (box_grown HT.out hg (by simp))
  have HJn := hide (box_grown HJ.out hg (by simp))
  clear HG HT HJ
  have HG := HGn
  have HT := HTn
  have HJ := HJn
  clear HGn HTn HJn
  clear hg
  go_upto_region 4 with (first | fail)
  have hg : w3.grownBy ((w3.alloc (.cells #[.int .i64 0, .int .i64 0, .int .i64 0, .int .i64 0, .int .i64 9, .int .i64 5, .int .i64 2] 23)).alloc (.cells #[.bool true, .bool false, .bool false] 27)) none := (grownBy_trans (grownBy_trans (grownBy_refl _ _) (World.grownBy_alloc _ _ none)) (World.grownBy_alloc _ _ none))
  have hA1 := heap_alloc_new w3 (.cells #[.int .i64 0, .int .i64 0, .int .i64 0, .int .i64 0, .int .i64 9, .int .i64 5, .int .i64 2] 23)
  have HA1q := hide (hp_up hA1 (.cells #[.bool true, .bool false, .bool false] 27))
  clear hA1
  have LA1 : Hid (w.heap.size ≤ w3.heap.size) := hide (by have := HG.out.size; omega)
  have hV1 : ((w3.alloc (.cells #[.int .i64 0, .int .i64 0, .int .i64 0, .int .i64 0, .int .i64 9, .int .i64 5, .int .i64 2] 23)).alloc (.cells #[.bool true, .bool false, .bool false] 27)).heap[w3.heap.size + 1]? = some (.cells #[.bool true, .bool false, .bool false] 27) := by have h := heap_alloc_new (w3.alloc (.cells #[.int .i64 0, .int .i64 0, .int .i64 0, .int .i64 0, .int .i64 9, .int .i64 5, .int .i64 2] 23)) (.cells #[.bool true, .bool false, .bool false] 27); rwa [show (w3.alloc (.cells #[.int .i64 0, .int .i64 0, .int .i64 0, .int .i64 0, .int .i64 9, .int .i64 5, .int .i64 2] 23)).heap.size = w3.heap.size + 1 by simp] at h
  have HV1q := hide hV1
  clear hV1
  have LV1 : Hid (w.heap.size ≤ w3.heap.size + 1) := hide (by have := HG.out.size; omega)
  have NA1J : Hid (BJ < w3.heap.size) := hide (by have := box_lt HJ.out; omega)
  have NV1J : Hid (BJ < w3.heap.size + 1) := hide (by have := box_lt HJ.out; omega)
  have HGn := hide (grownBy_trans HG.out hg)
  have HTn := hide (box_grown HT.out hg (by simp))
  have HJn := hide (box_grown HJ.out hg (by simp))
  clear HG HT HJ
  have HG := HGn
  have HT := HTn
  have HJ := HJn
  clear HGn HTn HJn
  clear hg
  have HA1 := HA1q
  clear HA1q
  have HV1 := HV1q
  clear HV1q
  have HOA1 : Hid (w3.heap.size < w3.heap.size + 1) := hide (by omega)
  generalize hWx : ((w3.alloc (.cells #[.int .i64 0, .int .i64 0, .int .i64 0, .int .i64 0, .int .i64 9, .int .i64 5, .int .i64 2] 23)).alloc (.cells #[.bool true, .bool false, .bool false] 27)) = w4 at *
  clear hWx
  generalize hBx : w3.heap.size + 1 = BV1 at *
  clear hBx
  generalize hBx : w3.heap.size = BA1 at *
  clear hBx
  have cJ6 : w4.cell? ⟨BJ, 6, none⟩ = some (.int .i64 1) := blk_cell HJ.out 6
  have fJ6 := blk_free HJ.out 6
  go_upto_region 5 with (first | fail)
  clear cJ6 fJ6
  have hg := grownBy_set w4 BJ 6 (.int .i64 3)
  have HGn := hide (grown_spoil HG.out LJ.out hg)
  have HTn := hide (box_type HT.out hg (type_box HJ.out) (by decide))
  have HA1n := hide (box_grown HA1.out hg (by have := NA1J.out; simp; omega))
  have HV1n := hide (box_type HV1.out hg (type_box HJ.out) (by decide))
  have HJn := hide (blk_set (j := 6) (u := .int .i64 3) (cs' := #[.int .i64 0, .int .i64 0, .int .i64 0, .int .i64 0, .int .i64 9, .int .i64 5, .int .i64 3]) HJ.out rfl)
  clear HG HT HA1 HV1 HJ
  have HG := HGn
  have HT := HTn
  have HA1 := HA1n
  have HV1 := HV1n
  have HJ := HJn
  clear HGn HTn HA1n HV1n HJn
  clear hg
  generalize hWx : w4.setCell ⟨BJ, 6, none⟩ (.int .i64 3) = w5 at *
  clear hWx
  have cT0 : w5.cell? ⟨BT, 0, none⟩ = some (.int .i64 0) := blk_cell HT.out 0
  have cT1 : w5.cell? ⟨BT, 1, none⟩ = some (.int .i64 9) := blk_cell HT.out 1
  have cT2 : w5.cell? ⟨BT, 2, none⟩ = some (.int .i64 9) := blk_cell HT.out 2
  have cT3 : w5.cell? ⟨BT, 3, none⟩ = some (.int .i64 2) := blk_cell HT.out 3
  have cT4 : w5.cell? ⟨BT, 4, none⟩ = some (.int .i64 4) := blk_cell HT.out 4
  have cT5 : w5.cell? ⟨BT, 5, none⟩ = some (.int .i64 0) := blk_cell HT.out 5
  have cJ0 : w5.cell? ⟨BJ, 0, none⟩ = some (.int .i64 0) := blk_cell HJ.out 0
  have cJ1 : w5.cell? ⟨BJ, 1, none⟩ = some (.int .i64 0) := blk_cell HJ.out 1
  have cJ2 : w5.cell? ⟨BJ, 2, none⟩ = some (.int .i64 0) := blk_cell HJ.out 2
  have cJ3 : w5.cell? ⟨BJ, 3, none⟩ = some (.int .i64 0) := blk_cell HJ.out 3
  have cJ4 : w5.cell? ⟨BJ, 4, none⟩ = some (.int .i64 9) := blk_cell HJ.out 4
  have cJ5 : w5.cell? ⟨BJ, 5, none⟩ = some (.int .i64 5) := blk_cell HJ.out 5
  have cJ6 : w5.cell? ⟨BJ, 6, none⟩ = some (.int .i64 3) := blk_cell HJ.out 6
  go_wp2_with (first | fail)
  refine (ch_at _ aw2).mono ?_; rintro e w6 ⟨rfl, hg⟩
  clear cT0 cT1 cT2 cT3 cT4 cT5 cJ0 cJ1 cJ2 cJ3 cJ4 cJ5 cJ6
  have HGn := hide (grownBy_trans HG.out hg)
  have HTn := hide (box_grown HT.out hg (by simp))
  have HJn := hide (box_grown HJ.out hg (by simp))
  have HA1n := hide (box_grown HA1.out hg (by simp))
  have HV1n := hide (box_grown HV1.out hg (by simp))
  clear HG HT HJ HA1 HV1
  have HG := HGn
  have HT := HTn
  have HJ := HJn
  have HA1 := HA1n
  have HV1 := HV1n
  clear HGn HTn HJn HA1n HV1n
  clear hg
  go_upto_region 6 with (first | fail)
  have hg : w6.grownBy ((w6.alloc (.cells #[.int .i64 0, .int .i64 0, .int .i64 0, .int .i64 0, .int .i64 9, .int .i64 5, .int .i64 4] 23)).alloc (.cells #[.bool false, .bool false, .bool true] 27)) none := (grownBy_trans (grownBy_trans (grownBy_refl _ _) (World.grownBy_alloc _ _ none)) (World.grownBy_alloc _ _ none))
  have hA2 := heap_alloc_new w6 (.cells #[.int .i64 0, .int .i64 0, .int .i64 0, .int .i64 0, .int .i64 9, .int .i64 5, .int .i64 4] 23)
  have HA2q := hide (hp_up hA2 (.cells #[.bool false, .bool false, .bool true] 27))
  clear hA2
  have LA2 : Hid (w.heap.size ≤ w6.heap.size) := hide (by have := HG.out.size; omega)
  have hV2 : ((w6.alloc (.cells #[.int .i64 0, .int .i64 0, .int .i64 0, .int .i64 0, .int .i64 9, .int .i64 5, .int .i64 4] 23)).alloc (.cells #[.bool false, .bool false, .bool true] 27)).heap[w6.heap.size + 1]? = some (.cells #[.bool false, .bool false, .bool true] 27) := by have h := heap_alloc_new (w6.alloc (.cells #[.int .i64 0, .int .i64 0, .int .i64 0, .int .i64 0, .int .i64 9, .int .i64 5, .int .i64 4] 23)) (.cells #[.bool false, .bool false, .bool true] 27); rwa [show (w6.alloc (.cells #[.int .i64 0, .int .i64 0, .int .i64 0, .int .i64 0, .int .i64 9, .int .i64 5, .int .i64 4] 23)).heap.size = w6.heap.size + 1 by simp] at h
  have HV2q := hide hV2
  clear hV2
  have LV2 : Hid (w.heap.size ≤ w6.heap.size + 1) := hide (by have := HG.out.size; omega)
  have NA2J : Hid (BJ < w6.heap.size) := hide (by have := box_lt HJ.out; omega)
  have NV2J : Hid (BJ < w6.heap.size + 1) := hide (by have := box_lt HJ.out; omega)
  have HGn := hide (grownBy_trans HG.out hg)
  have HTn := hide (box_grown HT.out hg (by simp))
  have HJn := hide (box_grown HJ.out hg (by simp))
  have HA1n := hide (box_grown HA1.out hg (by simp))
  have HV1n := hide (box_grown HV1.out hg (by simp))
  clear HG HT HJ HA1 HV1
  have HG := HGn
  have HT := HTn
  have HJ := HJn
  have HA1 := HA1n
  have HV1 := HV1n
  clear HGn HTn HJn HA1n HV1n
  clear hg
  have HA2 := HA2q
  clear HA2q
  have HV2 := HV2q
  clear HV2q
  have HOA2 : Hid (w6.heap.size < w6.heap.size + 1) := hide (by omega)
  generalize hWx : ((w6.alloc (.cells #[.int .i64 0, .int .i64 0, .int .i64 0, .int .i64 0, .int .i64 9, .int .i64 5, .int .i64 4] 23)).alloc (.cells #[.bool false, .bool false, .bool true] 27)) = w7 at *
  clear hWx
  generalize hBx : w6.heap.size + 1 = BV2 at *
  clear hBx
  generalize hBx : w6.heap.size = BA2 at *
  clear hBx
  clear HA2 LA2
  have cJ6 : w7.cell? ⟨BJ, 6, none⟩ = some (.int .i64 3) := blk_cell HJ.out 6
  have fJ6 := blk_free HJ.out 6
  go_upto_region 7 with (first | fail)
  clear cJ6 fJ6
  have hg := grownBy_set w7 BJ 6 (.int .i64 4)
  have HGn := hide (grown_spoil HG.out LJ.out hg)
  have HTn := hide (box_type HT.out hg (type_box HJ.out) (by decide))
  have HA1n := hide (box_grown HA1.out hg (by have := NA1J.out; simp; omega))
  have HV1n := hide (box_type HV1.out hg (type_box HJ.out) (by decide))
  have HV2n := hide (box_type HV2.out hg (type_box HJ.out) (by decide))
  have HJn := hide (blk_set (j := 6) (u := .int .i64 4) (cs' := #[.int .i64 0, .int .i64 0, .int .i64 0, .int .i64 0, .int .i64 9, .int .i64 5, .int .i64 4]) HJ.out rfl)
  clear HG HT HA1 HV1 HV2 HJ
  have HG := HGn
  have HT := HTn
  have HA1 := HA1n
  have HV1 := HV1n
  have HV2 := HV2n
  have HJ := HJn
  clear HGn HTn HA1n HV1n HV2n HJn
  clear hg
  generalize hWx : w7.setCell ⟨BJ, 6, none⟩ (.int .i64 4) = w8 at *
  clear hWx
  have cT0 : w8.cell? ⟨BT, 0, none⟩ = some (.int .i64 0) := blk_cell HT.out 0
  have cT1 : w8.cell? ⟨BT, 1, none⟩ = some (.int .i64 9) := blk_cell HT.out 1
  have cT2 : w8.cell? ⟨BT, 2, none⟩ = some (.int .i64 9) := blk_cell HT.out 2
  have cT3 : w8.cell? ⟨BT, 3, none⟩ = some (.int .i64 2) := blk_cell HT.out 3
  have cT4 : w8.cell? ⟨BT, 4, none⟩ = some (.int .i64 4) := blk_cell HT.out 4
  have cT5 : w8.cell? ⟨BT, 5, none⟩ = some (.int .i64 0) := blk_cell HT.out 5
  have cJ0 : w8.cell? ⟨BJ, 0, none⟩ = some (.int .i64 0) := blk_cell HJ.out 0
  have cJ1 : w8.cell? ⟨BJ, 1, none⟩ = some (.int .i64 0) := blk_cell HJ.out 1
  have cJ2 : w8.cell? ⟨BJ, 2, none⟩ = some (.int .i64 0) := blk_cell HJ.out 2
  have cJ3 : w8.cell? ⟨BJ, 3, none⟩ = some (.int .i64 0) := blk_cell HJ.out 3
  have cJ4 : w8.cell? ⟨BJ, 4, none⟩ = some (.int .i64 9) := blk_cell HJ.out 4
  have cJ5 : w8.cell? ⟨BJ, 5, none⟩ = some (.int .i64 5) := blk_cell HJ.out 5
  have cJ6 : w8.cell? ⟨BJ, 6, none⟩ = some (.int .i64 4) := blk_cell HJ.out 6
  go_wp2_with (first | fail)
  refine (ch_at _ aw3).mono ?_; rintro e w9 ⟨rfl, hg⟩
  clear cT0 cT1 cT2 cT3 cT4 cT5 cJ0 cJ1 cJ2 cJ3 cJ4 cJ5 cJ6
  have HGn := hide (grownBy_trans HG.out hg)
  have HTn := hide (box_grown HT.out hg (by simp))
  have HJn := hide (box_grown HJ.out hg (by simp))
  have HA1n := hide (box_grown HA1.out hg (by simp))
  have HV1n := hide (box_grown HV1.out hg (by simp))
  have HV2n := hide (box_grown HV2.out hg (by simp))
  clear HG HT HJ HA1 HV1 HV2
  have HG := HGn
  have HT := HTn
  have HJ := HJn
  have HA1 := HA1n
  have HV1 := HV1n
  have HV2 := HV2n
  clear HGn HTn HJn HA1n HV1n HV2n
  clear hg
  go_upto_region 8 with (first | fail)
  have hg : w9.grownBy ((w9.alloc (.cells #[.int .i64 0, .int .i64 0, .int .i64 0, .int .i64 0, .int .i64 9, .int .i64 5, .int .i64 5] 23)).alloc (.cells #[.bool false, .bool true, .bool false] 27)) none := (grownBy_trans (grownBy_trans (grownBy_refl _ _) (World.grownBy_alloc _ _ none)) (World.grownBy_alloc _ _ none))
  have hA3 := heap_alloc_new w9 (.cells #[.int .i64 0, .int .i64 0, .int .i64 0, .int .i64 0, .int .i64 9, .int .i64 5, .int .i64 5] 23)
  have HA3q := hide (hp_up hA3 (.cells #[.bool false, .bool true, .bool false] 27))
  clear hA3
  have LA3 : Hid (w.heap.size ≤ w9.heap.size) := hide (by have := HG.out.size; omega)
  have hV3 : ((w9.alloc (.cells #[.int .i64 0, .int .i64 0, .int .i64 0, .int .i64 0, .int .i64 9, .int .i64 5, .int .i64 5] 23)).alloc (.cells #[.bool false, .bool true, .bool false] 27)).heap[w9.heap.size + 1]? = some (.cells #[.bool false, .bool true, .bool false] 27) := by have h := heap_alloc_new (w9.alloc (.cells #[.int .i64 0, .int .i64 0, .int .i64 0, .int .i64 0, .int .i64 9, .int .i64 5, .int .i64 5] 23)) (.cells #[.bool false, .bool true, .bool false] 27); rwa [show (w9.alloc (.cells #[.int .i64 0, .int .i64 0, .int .i64 0, .int .i64 0, .int .i64 9, .int .i64 5, .int .i64 5] 23)).heap.size = w9.heap.size + 1 by simp] at h
  have HV3q := hide hV3
  clear hV3
  have LV3 : Hid (w.heap.size ≤ w9.heap.size + 1) := hide (by have := HG.out.size; omega)
  have NA3J : Hid (BJ < w9.heap.size) := hide (by have := box_lt HJ.out; omega)
  have NV3J : Hid (BJ < w9.heap.size + 1) := hide (by have := box_lt HJ.out; omega)
  have HGn := hide (grownBy_trans HG.out hg)
  have HTn := hide (box_grown HT.out hg (by simp))
  have HJn := hide (box_grown HJ.out hg (by simp))
  have HA1n := hide (box_grown HA1.out hg (by simp))
  have HV1n := hide (box_grown HV1.out hg (by simp))
  have HV2n := hide (box_grown HV2.out hg (by simp))
  clear HG HT HJ HA1 HV1 HV2
  have HG := HGn
  have HT := HTn
  have HJ := HJn
  have HA1 := HA1n
  have HV1 := HV1n
  have HV2 := HV2n
  clear HGn HTn HJn HA1n HV1n HV2n
  clear hg
  have HA3 := HA3q
  clear HA3q
  have HV3 := HV3q
  clear HV3q
  have HOA3 : Hid (w9.heap.size < w9.heap.size + 1) := hide (by omega)
  generalize hWx : ((w9.alloc (.cells #[.int .i64 0, .int .i64 0, .int .i64 0, .int .i64 0, .int .i64 9, .int .i64 5, .int .i64 5] 23)).alloc (.cells #[.bool false, .bool true, .bool false] 27)) = w10 at *
  clear hWx
  generalize hBx : w9.heap.size + 1 = BV3 at *
  clear hBx
  generalize hBx : w9.heap.size = BA3 at *
  clear hBx
  clear HA3 LA3
  have cJ6 : w10.cell? ⟨BJ, 6, none⟩ = some (.int .i64 4) := blk_cell HJ.out 6
  have fJ6 := blk_free HJ.out 6
  go_upto_region 9 with (first | fail)
  clear cJ6 fJ6
  have hg := grownBy_set w10 BJ 6 (.int .i64 1)
  have HGn := hide (grown_spoil HG.out LJ.out hg)
  have HTn := hide (box_type HT.out hg (type_box HJ.out) (by decide))
  have HA1n := hide (box_grown HA1.out hg (by have := NA1J.out; simp; omega))
  have HV1n := hide (box_type HV1.out hg (type_box HJ.out) (by decide))
  have HV2n := hide (box_type HV2.out hg (type_box HJ.out) (by decide))
  have HV3n := hide (box_type HV3.out hg (type_box HJ.out) (by decide))
  have HJn := hide (blk_set (j := 6) (u := .int .i64 1) (cs' := #[.int .i64 0, .int .i64 0, .int .i64 0, .int .i64 0, .int .i64 9, .int .i64 5, .int .i64 1]) HJ.out rfl)
  clear HG HT HA1 HV1 HV2 HV3 HJ
  have HG := HGn
  have HT := HTn
  have HA1 := HA1n
  have HV1 := HV1n
  have HV2 := HV2n
  have HV3 := HV3n
  have HJ := HJn
  clear HGn HTn HA1n HV1n HV2n HV3n HJn
  clear hg
  generalize hWx : w10.setCell ⟨BJ, 6, none⟩ (.int .i64 1) = w11 at *
  clear hWx
  have cT0 : w11.cell? ⟨BT, 0, none⟩ = some (.int .i64 0) := blk_cell HT.out 0
  have cT1 : w11.cell? ⟨BT, 1, none⟩ = some (.int .i64 9) := blk_cell HT.out 1
  have cT2 : w11.cell? ⟨BT, 2, none⟩ = some (.int .i64 9) := blk_cell HT.out 2
  have cT3 : w11.cell? ⟨BT, 3, none⟩ = some (.int .i64 2) := blk_cell HT.out 3
  have cT4 : w11.cell? ⟨BT, 4, none⟩ = some (.int .i64 4) := blk_cell HT.out 4
  have cT5 : w11.cell? ⟨BT, 5, none⟩ = some (.int .i64 0) := blk_cell HT.out 5
  have cJ0 : w11.cell? ⟨BJ, 0, none⟩ = some (.int .i64 0) := blk_cell HJ.out 0
  have cJ1 : w11.cell? ⟨BJ, 1, none⟩ = some (.int .i64 0) := blk_cell HJ.out 1
  have cJ2 : w11.cell? ⟨BJ, 2, none⟩ = some (.int .i64 0) := blk_cell HJ.out 2
  have cJ3 : w11.cell? ⟨BJ, 3, none⟩ = some (.int .i64 0) := blk_cell HJ.out 3
  have cJ4 : w11.cell? ⟨BJ, 4, none⟩ = some (.int .i64 9) := blk_cell HJ.out 4
  have cJ5 : w11.cell? ⟨BJ, 5, none⟩ = some (.int .i64 5) := blk_cell HJ.out 5
  have cJ6 : w11.cell? ⟨BJ, 6, none⟩ = some (.int .i64 1) := blk_cell HJ.out 6
  go_wp2_with (first | fail)
  refine (ch_at _ aw4).mono ?_; rintro e w12 ⟨rfl, hg⟩
  clear cT0 cT1 cT2 cT3 cT4 cT5 cJ0 cJ1 cJ2 cJ3 cJ4 cJ5 cJ6
  have HGn := hide (grownBy_trans HG.out hg)
  have HTn := hide (box_grown HT.out hg (by simp))
  have HJn := hide (box_grown HJ.out hg (by simp))
  have HA1n := hide (box_grown HA1.out hg (by simp))
  have HV1n := hide (box_grown HV1.out hg (by simp))
  have HV2n := hide (box_grown HV2.out hg (by simp))
  have HV3n := hide (box_grown HV3.out hg (by simp))
  clear HG HT HJ HA1 HV1 HV2 HV3
  have HG := HGn
  have HT := HTn
  have HJ := HJn
  have HA1 := HA1n
  have HV1 := HV1n
  have HV2 := HV2n
  have HV3 := HV3n
  clear HGn HTn HJn HA1n HV1n HV2n HV3n
  clear hg
  go_upto_region 10 with (first | fail)
  have hg : w12.grownBy ((w12.alloc (.cells #[.int .i64 0, .int .i64 0, .int .i64 0, .int .i64 0, .int .i64 9, .int .i64 5, .int .i64 2] 23)).alloc (.cells #[.bool false, .bool false, .bool true] 27)) none := (grownBy_trans (grownBy_trans (grownBy_refl _ _) (World.grownBy_alloc _ _ none)) (World.grownBy_alloc _ _ none))
  have hA4 := heap_alloc_new w12 (.cells #[.int .i64 0, .int .i64 0, .int .i64 0, .int .i64 0, .int .i64 9, .int .i64 5, .int .i64 2] 23)
  have HA4q := hide (hp_up hA4 (.cells #[.bool false, .bool false, .bool true] 27))
  clear hA4
  have LA4 : Hid (w.heap.size ≤ w12.heap.size) := hide (by have := HG.out.size; omega)
  have hV4 : ((w12.alloc (.cells #[.int .i64 0, .int .i64 0, .int .i64 0, .int .i64 0, .int .i64 9, .int .i64 5, .int .i64 2] 23)).alloc (.cells #[.bool false, .bool false, .bool true] 27)).heap[w12.heap.size + 1]? = some (.cells #[.bool false, .bool false, .bool true] 27) := by have h := heap_alloc_new (w12.alloc (.cells #[.int .i64 0, .int .i64 0, .int .i64 0, .int .i64 0, .int .i64 9, .int .i64 5, .int .i64 2] 23)) (.cells #[.bool false, .bool false, .bool true] 27); rwa [show (w12.alloc (.cells #[.int .i64 0, .int .i64 0, .int .i64 0, .int .i64 0, .int .i64 9, .int .i64 5, .int .i64 2] 23)).heap.size = w12.heap.size + 1 by simp] at h
  have HV4q := hide hV4
  clear hV4
  have LV4 : Hid (w.heap.size ≤ w12.heap.size + 1) := hide (by have := HG.out.size; omega)
  have NA4J : Hid (BJ < w12.heap.size) := hide (by have := box_lt HJ.out; omega)
  have NV4J : Hid (BJ < w12.heap.size + 1) := hide (by have := box_lt HJ.out; omega)
  have HGn := hide (grownBy_trans HG.out hg)
  have HTn := hide (box_grown HT.out hg (by simp))
  have HJn := hide (box_grown HJ.out hg (by simp))
  have HA1n := hide (box_grown HA1.out hg (by simp))
  have HV1n := hide (box_grown HV1.out hg (by simp))
  have HV2n := hide (box_grown HV2.out hg (by simp))
  have HV3n := hide (box_grown HV3.out hg (by simp))
  clear HG HT HJ HA1 HV1 HV2 HV3
  have HG := HGn
  have HT := HTn
  have HJ := HJn
  have HA1 := HA1n
  have HV1 := HV1n
  have HV2 := HV2n
  have HV3 := HV3n
  clear HGn HTn HJn HA1n HV1n HV2n HV3n
  clear hg
  have HA4 := HA4q
  clear HA4q
  have HV4 := HV4q
  clear HV4q
  have HOA4 : Hid (w12.heap.size < w12.heap.size + 1) := hide (by omega)
  generalize hWx : ((w12.alloc (.cells #[.int .i64 0, .int .i64 0, .int .i64 0, .int .i64 0, .int .i64 9, .int .i64 5, .int .i64 2] 23)).alloc (.cells #[.bool false, .bool false, .bool true] 27)) = w13 at *
  clear hWx
  generalize hBx : w12.heap.size + 1 = BV4 at *
  clear hBx
  generalize hBx : w12.heap.size = BA4 at *
  clear hBx
  clear HA4 LA4
  have cT0 : w13.cell? ⟨BT, 0, none⟩ = some (.int .i64 0) := blk_cell HT.out 0
  have cT1 : w13.cell? ⟨BT, 1, none⟩ = some (.int .i64 9) := blk_cell HT.out 1
  have cT2 : w13.cell? ⟨BT, 2, none⟩ = some (.int .i64 9) := blk_cell HT.out 2
  have cT3 : w13.cell? ⟨BT, 3, none⟩ = some (.int .i64 2) := blk_cell HT.out 3
  have cT4 : w13.cell? ⟨BT, 4, none⟩ = some (.int .i64 4) := blk_cell HT.out 4
  have cT5 : w13.cell? ⟨BT, 5, none⟩ = some (.int .i64 0) := blk_cell HT.out 5
  have cJ0 : w13.cell? ⟨BJ, 0, none⟩ = some (.int .i64 0) := blk_cell HJ.out 0
  have cJ1 : w13.cell? ⟨BJ, 1, none⟩ = some (.int .i64 0) := blk_cell HJ.out 1
  have cJ2 : w13.cell? ⟨BJ, 2, none⟩ = some (.int .i64 0) := blk_cell HJ.out 2
  have cJ3 : w13.cell? ⟨BJ, 3, none⟩ = some (.int .i64 0) := blk_cell HJ.out 3
  have cJ4 : w13.cell? ⟨BJ, 4, none⟩ = some (.int .i64 9) := blk_cell HJ.out 4
  have cJ5 : w13.cell? ⟨BJ, 5, none⟩ = some (.int .i64 5) := blk_cell HJ.out 5
  have cJ6 : w13.cell? ⟨BJ, 6, none⟩ = some (.int .i64 1) := blk_cell HJ.out 6
  go_wp2_with (first | fail)
  refine (ch_at _ aw5).mono ?_; rintro e w14 ⟨rfl, hg⟩
  clear cT0 cT1 cT2 cT3 cT4 cT5 cJ0 cJ1 cJ2 cJ3 cJ4 cJ5 cJ6
  have HGn := hide (grownBy_trans HG.out hg)
  have HTn := hide (box_grown HT.out hg (by simp))
  have HJn := hide (box_grown HJ.out hg (by simp))
  have HA1n := hide (box_grown HA1.out hg (by simp))
  have HV1n := hide (box_grown HV1.out hg (by simp))
  have HV2n := hide (box_grown HV2.out hg (by simp))
  have HV3n := hide (box_grown HV3.out hg (by simp))
  have HV4n := hide (box_grown HV4.out hg (by simp))
  clear HG HT HJ HA1 HV1 HV2 HV3 HV4
  have HG := HGn
  have HT := HTn
  have HJ := HJn
  have HA1 := HA1n
  have HV1 := HV1n
  have HV2 := HV2n
  have HV3 := HV3n
  have HV4 := HV4n
  clear HGn HTn HJn HA1n HV1n HV2n HV3n HV4n
  clear hg
  go_upto_region 11 with (first | fail)
  have hg : w14.grownBy ((w14.alloc (.cells #[.int .i64 0, .int .i64 0, .int .i64 0, .int .i64 0, .int .i64 0, .int .i64 0, .int .i64 0] 23)).alloc (.cells #[.bool false, .bool false, .bool false] 27)) none := (grownBy_trans (grownBy_trans (grownBy_refl _ _) (World.grownBy_alloc _ _ none)) (World.grownBy_alloc _ _ none))
  have hA5 := heap_alloc_new w14 (.cells #[.int .i64 0, .int .i64 0, .int .i64 0, .int .i64 0, .int .i64 0, .int .i64 0, .int .i64 0] 23)
  have HA5q := hide (hp_up hA5 (.cells #[.bool false, .bool false, .bool false] 27))
  clear hA5
  have LA5 : Hid (w.heap.size ≤ w14.heap.size) := hide (by have := HG.out.size; omega)
  have hV5 : ((w14.alloc (.cells #[.int .i64 0, .int .i64 0, .int .i64 0, .int .i64 0, .int .i64 0, .int .i64 0, .int .i64 0] 23)).alloc (.cells #[.bool false, .bool false, .bool false] 27)).heap[w14.heap.size + 1]? = some (.cells #[.bool false, .bool false, .bool false] 27) := by have h := heap_alloc_new (w14.alloc (.cells #[.int .i64 0, .int .i64 0, .int .i64 0, .int .i64 0, .int .i64 0, .int .i64 0, .int .i64 0] 23)) (.cells #[.bool false, .bool false, .bool false] 27); rwa [show (w14.alloc (.cells #[.int .i64 0, .int .i64 0, .int .i64 0, .int .i64 0, .int .i64 0, .int .i64 0, .int .i64 0] 23)).heap.size = w14.heap.size + 1 by simp] at h
  have HV5q := hide hV5
  clear hV5
  have LV5 : Hid (w.heap.size ≤ w14.heap.size + 1) := hide (by have := HG.out.size; omega)
  have NA5J : Hid (BJ < w14.heap.size) := hide (by have := box_lt HJ.out; omega)
  have NV5J : Hid (BJ < w14.heap.size + 1) := hide (by have := box_lt HJ.out; omega)
  have HGn := hide (grownBy_trans HG.out hg)
  have HTn := hide (box_grown HT.out hg (by simp))
  have HJn := hide (box_grown HJ.out hg (by simp))
  have HA1n := hide (box_grown HA1.out hg (by simp))
  have HV1n := hide (box_grown HV1.out hg (by simp))
  have HV2n := hide (box_grown HV2.out hg (by simp))
  have HV3n := hide (box_grown HV3.out hg (by simp))
  have HV4n := hide (box_grown HV4.out hg (by simp))
  clear HG HT HJ HA1 HV1 HV2 HV3 HV4
  have HG := HGn
  have HT := HTn
  have HJ := HJn
  have HA1 := HA1n
  have HV1 := HV1n
  have HV2 := HV2n
  have HV3 := HV3n
  have HV4 := HV4n
  clear HGn HTn HJn HA1n HV1n HV2n HV3n HV4n
  clear hg
  have HA5 := HA5q
  clear HA5q
  have HV5 := HV5q
  clear HV5q
  have HOA5 : Hid (w14.heap.size < w14.heap.size + 1) := hide (by omega)
  generalize hWx : ((w14.alloc (.cells #[.int .i64 0, .int .i64 0, .int .i64 0, .int .i64 0, .int .i64 0, .int .i64 0, .int .i64 0] 23)).alloc (.cells #[.bool false, .bool false, .bool false] 27)) = w15 at *
  clear hWx
  generalize hBx : w14.heap.size + 1 = BV5 at *
  clear hBx
  generalize hBx : w14.heap.size = BA5 at *
  clear hBx
  clear HA5 LA5
  have cA16 : w15.cell? ⟨BA1, 6, none⟩ = some (.int .i64 2) := blk_cell HA1.out 6
  have cV10 : w15.cell? ⟨BV1, 0, none⟩ = some (.bool true) := blk_cell HV1.out 0
  have cV11 : w15.cell? ⟨BV1, 1, none⟩ = some (.bool false) := blk_cell HV1.out 1
  have cV12 : w15.cell? ⟨BV1, 2, none⟩ = some (.bool false) := blk_cell HV1.out 2
  have cV20 : w15.cell? ⟨BV2, 0, none⟩ = some (.bool false) := blk_cell HV2.out 0
  have cV21 : w15.cell? ⟨BV2, 1, none⟩ = some (.bool false) := blk_cell HV2.out 1
  have cV22 : w15.cell? ⟨BV2, 2, none⟩ = some (.bool true) := blk_cell HV2.out 2
  have cV30 : w15.cell? ⟨BV3, 0, none⟩ = some (.bool false) := blk_cell HV3.out 0
  have cV31 : w15.cell? ⟨BV3, 1, none⟩ = some (.bool true) := blk_cell HV3.out 1
  have cV32 : w15.cell? ⟨BV3, 2, none⟩ = some (.bool false) := blk_cell HV3.out 2
  have cV40 : w15.cell? ⟨BV4, 0, none⟩ = some (.bool false) := blk_cell HV4.out 0
  have cV41 : w15.cell? ⟨BV4, 1, none⟩ = some (.bool false) := blk_cell HV4.out 1
  have cV42 : w15.cell? ⟨BV4, 2, none⟩ = some (.bool true) := blk_cell HV4.out 2
  go_wp2_with (first | (go_at_call 9; refine (NUM.out _ _).mono ?_; rintro e wn ⟨rfl, rfl⟩) | fail)
  clear cA16 cV10 cV11 cV12 cV20 cV21 cV22 cV30 cV31 cV32 cV40 cV41 cV42
  go_ret
  exact ⟨rfl, HG.out⟩
theorem awake_any (w : World) : Calls Try.prog 10 #[] w fun e w' => e = .returned (.bool true) ∧ w.grownBy w' none := awake_from w w (grownBy_refl _ _)
#print axioms awake_any
end Go.Proofs.Ytabnkmghgkmbmaa
