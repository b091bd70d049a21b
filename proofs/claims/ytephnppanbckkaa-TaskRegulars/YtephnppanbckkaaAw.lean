/- The statements' own awake answers true, proved over the translation. -/
import Derived.Test.YtephnppanbckkaaLaw0
namespace Go.Proofs.Ytephnppanbckkaa
open Go.RowKit
attribute [local go_sem] alloc_drewN setCell_drewN

def awT : TaskV := ⟨1, 10, 9, 2, 3, 0⟩
def awR : TaskV := ⟨0, 10, 9, 2, 3, 0⟩
set_option maxRecDepth 100000 in
set_option maxHeartbeats 4000000 in
theorem awake_from (w w0 : World) (hg0 : w.grownBy w0 none) : Calls Try.prog 21 #[] w0 fun e w' => e = .returned (.bool true) ∧ w.grownBy w' none := by
  have NUM := hide num_to
  have HG := hide hg0
  clear hg0
  go_enter Try.func21, Try.ntmps21
  go_upto_region 2 with (first | fail)
  have hg := World.grownBy_alloc w0 (.cells #[.int .i64 1, .int .i64 10, .int .i64 9, .int .i64 2, .int .i64 3, .int .i64 0] 23) none
  have HTq := hide (heap_alloc_new w0 (.cells #[.int .i64 1, .int .i64 10, .int .i64 9, .int .i64 2, .int .i64 3, .int .i64 0] 23))
  have LT := hide HG.out.size
  have HGn := hide (grownBy_trans HG.out hg)
  clear HG
  have HG := HGn
  clear HGn
  clear hg
  have HT := HTq
  clear HTq
  generalize hWx : w0.alloc (.cells #[.int .i64 1, .int .i64 10, .int .i64 9, .int .i64 2, .int .i64 3, .int .i64 0] 23) = w1 at *
  generalize hBx : w0.heap.size = BT at *
  clear hWx hBx
  have cT0 : w1.cell? ⟨BT, 0, none⟩ = some (.int .i64 1) := blk_cell HT.out 0
  have cT1 : w1.cell? ⟨BT, 1, none⟩ = some (.int .i64 10) := blk_cell HT.out 1
  have cT2 : w1.cell? ⟨BT, 2, none⟩ = some (.int .i64 9) := blk_cell HT.out 2
  have cT3 : w1.cell? ⟨BT, 3, none⟩ = some (.int .i64 2) := blk_cell HT.out 3
  have cT4 : w1.cell? ⟨BT, 4, none⟩ = some (.int .i64 3) := blk_cell HT.out 4
  have cT5 : w1.cell? ⟨BT, 5, none⟩ = some (.int .i64 0) := blk_cell HT.out 5
  go_wp2_with (first | fail)
  refine (pick_at (t := awT) (L := 4) (v := .slice none 0 0) (zs := []) (d := 7) (L' := 4) (E := 0) (zs' := [7]) (N := 1) _ (rowAt_nil 0 _ none 0) (by kernel_rfl) (by kernel_rfl) rfl).mono ?_; rintro e w2 ⟨u1, c1, rfl, ho, hg⟩
  clear cT0 cT1 cT2 cT3 cT4 cT5
  have HGn := hide (grownBy_trans HG.out hg)
  have HTn := hide (box_grown HT.out hg (by simp))
  clear HG HT
  have HG := HGn
  have HT := HTn
  clear HGn HTn
  clear hg
  have OS := hide (ho.base (Nat.zero_le _))
  clear ho
  go_upto_region 3 with (first | fail)
  have hg := World.grownBy_alloc w2 (.cells #[.int .i64 4, .slice u1 1 c1] 26) none
  have HSq := hide (heap_alloc_new w2 (.cells #[.int .i64 4, .slice u1 1 c1] 26))
  have LS := hide HG.out.size
  have HGn := hide (grownBy_trans HG.out hg)
  have HTn := hide (box_grown HT.out hg (by simp))
  have OSn := hide (OS.out.grown hg)
  clear HG HT OS
  have HG := HGn
  have HT := HTn
  have OS := OSn
  clear HGn HTn OSn
  clear hg
  have HS := HSq
  clear HSq
  generalize hWx : w2.alloc (.cells #[.int .i64 4, .slice u1 1 c1] 26) = w3 at *
  generalize hBx : w2.heap.size = BS at *
  clear hWx hBx
  have cT0 : w3.cell? ⟨BT, 0, none⟩ = some (.int .i64 1) := blk_cell HT.out 0
  have cT1 : w3.cell? ⟨BT, 1, none⟩ = some (.int .i64 10) := blk_cell HT.out 1
  have cT2 : w3.cell? ⟨BT, 2, none⟩ = some (.int .i64 9) := blk_cell HT.out 2
  have cT3 : w3.cell? ⟨BT, 3, none⟩ = some (.int .i64 2) := blk_cell HT.out 3
  have cT4 : w3.cell? ⟨BT, 4, none⟩ = some (.int .i64 3) := blk_cell HT.out 4
  have cT5 : w3.cell? ⟨BT, 5, none⟩ = some (.int .i64 0) := blk_cell HT.out 5
  have cS0 : w3.cell? ⟨BS, 0, none⟩ = some (.int .i64 4) := blk_cell HS.out 0
  have cS1 : w3.cell? ⟨BS, 1, none⟩ = some (.slice u1 1 c1) := blk_cell HS.out 1
  go_wp2_with (first | fail)
  refine (pick_at (t := awT) (L := 4) (v := .slice u1 1 c1) (zs := [7]) (d := 0) (L' := 0) (E := 1100) (zs' := []) (N := 0) _ OS.out.row (by kernel_rfl) (by kernel_rfl) rfl).mono ?_; rintro e w4 ⟨u2, c2, rfl, ho, hg⟩
  clear cT0 cT1 cT2 cT3 cT4 cT5 cS0 cS1
  have HGn := hide (grownBy_trans HG.out hg)
  have HTn := hide (box_grown HT.out hg (by simp))
  have HSn := hide (box_grown HS.out hg (by simp))
  have OSn := hide (OS.out.grown hg)
  clear HG HT HS OS
  have HG := HGn
  have HT := HTn
  have HS := HSn
  have OS := OSn
  clear HGn HTn HSn OSn
  clear hg
  clear ho
  go_upto_region 4 with (first | fail)
  have hg := World.grownBy_alloc w4 (.cells #[.int .i64 0, .slice u2 0 c2] 26) none
  have HXq := hide (heap_alloc_new w4 (.cells #[.int .i64 0, .slice u2 0 c2] 26))
  have LX := hide HG.out.size
  have HGn := hide (grownBy_trans HG.out hg)
  have HTn := hide (box_grown HT.out hg (by simp))
  have HSn := hide (box_grown HS.out hg (by simp))
  have OSn := hide (OS.out.grown hg)
  clear HG HT HS OS
  have HG := HGn
  have HT := HTn
  have HS := HSn
  have OS := OSn
  clear HGn HTn HSn OSn
  clear hg
  have HX := HXq
  clear HXq
  generalize hWx : w4.alloc (.cells #[.int .i64 0, .slice u2 0 c2] 26) = w5 at *
  generalize hBx : w4.heap.size = BX at *
  clear hWx hBx
  have cT0 : w5.cell? ⟨BT, 0, none⟩ = some (.int .i64 1) := blk_cell HT.out 0
  have cT1 : w5.cell? ⟨BT, 1, none⟩ = some (.int .i64 10) := blk_cell HT.out 1
  have cT2 : w5.cell? ⟨BT, 2, none⟩ = some (.int .i64 9) := blk_cell HT.out 2
  have cT3 : w5.cell? ⟨BT, 3, none⟩ = some (.int .i64 2) := blk_cell HT.out 3
  have cT4 : w5.cell? ⟨BT, 4, none⟩ = some (.int .i64 3) := blk_cell HT.out 4
  have cT5 : w5.cell? ⟨BT, 5, none⟩ = some (.int .i64 0) := blk_cell HT.out 5
  have cS0 : w5.cell? ⟨BS, 0, none⟩ = some (.int .i64 4) := blk_cell HS.out 0
  have cS1 : w5.cell? ⟨BS, 1, none⟩ = some (.slice u1 1 c1) := blk_cell HS.out 1
  go_wp2_with (first | fail)
  refine (rel_at (t := awT) (L := 4) (v := .slice u1 1 c1) (zs := [7]) (now := 14) (L' := 14) (D := 7) (b := true) (zs' := []) (N := 0) _ OS.out.row (by kernel_rfl) (by kernel_rfl) (by kernel_rfl) rfl).mono ?_; rintro e w6 ⟨u3, c3, rfl, ho, hg⟩
  clear cT0 cT1 cT2 cT3 cT4 cT5 cS0 cS1
  have HGn := hide (grownBy_trans HG.out hg)
  have HTn := hide (box_grown HT.out hg (by simp))
  have HSn := hide (box_grown HS.out hg (by simp))
  have HXn := hide (box_grown HX.out hg (by simp))
  have OSn := hide (OS.out.grown hg)
  clear HG HT HS HX OS
  have HG := HGn
  have HT := HTn
  have HS := HSn
  have HX := HXn
  have OS := OSn
  clear HGn HTn HSn HXn OSn
  clear hg
  have OA := hide (ho.base (Nat.zero_le _))
  clear ho
  go_upto_region 5 with (first | fail)
  have hg := World.grownBy_alloc w6 (.cells #[.int .i64 14, .slice u3 0 c3] 26) none
  have HAq := hide (heap_alloc_new w6 (.cells #[.int .i64 14, .slice u3 0 c3] 26))
  have LA := hide HG.out.size
  have HGn := hide (grownBy_trans HG.out hg)
  have HTn := hide (box_grown HT.out hg (by simp))
  have HSn := hide (box_grown HS.out hg (by simp))
  have HXn := hide (box_grown HX.out hg (by simp))
  have OSn := hide (OS.out.grown hg)
  have OAn := hide (OA.out.grown hg)
  clear HG HT HS HX OS OA
  have HG := HGn
  have HT := HTn
  have HS := HSn
  have HX := HXn
  have OS := OSn
  have OA := OAn
  clear HGn HTn HSn HXn OSn OAn
  clear hg
  have HA := HAq
  clear HAq
  generalize hWx : w6.alloc (.cells #[.int .i64 14, .slice u3 0 c3] 26) = w7 at *
  generalize hBx : w6.heap.size = BA at *
  clear hWx hBx
  have cT0 : w7.cell? ⟨BT, 0, none⟩ = some (.int .i64 1) := blk_cell HT.out 0
  have cT1 : w7.cell? ⟨BT, 1, none⟩ = some (.int .i64 10) := blk_cell HT.out 1
  have cT2 : w7.cell? ⟨BT, 2, none⟩ = some (.int .i64 9) := blk_cell HT.out 2
  have cT3 : w7.cell? ⟨BT, 3, none⟩ = some (.int .i64 2) := blk_cell HT.out 3
  have cT4 : w7.cell? ⟨BT, 4, none⟩ = some (.int .i64 3) := blk_cell HT.out 4
  have cT5 : w7.cell? ⟨BT, 5, none⟩ = some (.int .i64 0) := blk_cell HT.out 5
  have cS0 : w7.cell? ⟨BS, 0, none⟩ = some (.int .i64 4) := blk_cell HS.out 0
  have cS1 : w7.cell? ⟨BS, 1, none⟩ = some (.slice u1 1 c1) := blk_cell HS.out 1
  go_wp2_with (first | fail)
  refine (rel_at (t := awT) (L := 4) (v := .slice u1 1 c1) (zs := [7]) (now := 13) (L' := 4) (D := 0) (b := false) (zs' := [7]) (N := 1) _ OS.out.row (by kernel_rfl) (by kernel_rfl) (by kernel_rfl) rfl).mono ?_; rintro e w8 ⟨u4, c4, rfl, ho, hg⟩
  clear cT0 cT1 cT2 cT3 cT4 cT5 cS0 cS1
  have HGn := hide (grownBy_trans HG.out hg)
  have HTn := hide (box_grown HT.out hg (by simp))
  have HSn := hide (box_grown HS.out hg (by simp))
  have HXn := hide (box_grown HX.out hg (by simp))
  have HAn := hide (box_grown HA.out hg (by simp))
  have OSn := hide (OS.out.grown hg)
  have OAn := hide (OA.out.grown hg)
  clear HG HT HS HX HA OS OA
  have HG := HGn
  have HT := HTn
  have HS := HSn
  have HX := HXn
  have HA := HAn
  have OS := OSn
  have OA := OAn
  clear HGn HTn HSn HXn HAn OSn OAn
  clear hg
  clear ho
  go_upto_region 6 with (first | fail)
  have hg := World.grownBy_alloc w8 (.cells #[.int .i64 4, .slice u4 1 c4] 26) none
  have HYq := hide (heap_alloc_new w8 (.cells #[.int .i64 4, .slice u4 1 c4] 26))
  have LY := hide HG.out.size
  have HGn := hide (grownBy_trans HG.out hg)
  have HTn := hide (box_grown HT.out hg (by simp))
  have HSn := hide (box_grown HS.out hg (by simp))
  have HXn := hide (box_grown HX.out hg (by simp))
  have HAn := hide (box_grown HA.out hg (by simp))
  have OSn := hide (OS.out.grown hg)
  have OAn := hide (OA.out.grown hg)
  clear HG HT HS HX HA OS OA
  have HG := HGn
  have HT := HTn
  have HS := HSn
  have HX := HXn
  have HA := HAn
  have OS := OSn
  have OA := OAn
  clear HGn HTn HSn HXn HAn OSn OAn
  clear hg
  have HY := HYq
  clear HYq
  generalize hWx : w8.alloc (.cells #[.int .i64 4, .slice u4 1 c4] 26) = w9 at *
  generalize hBx : w8.heap.size = BY at *
  clear hWx hBx
  have cT0 : w9.cell? ⟨BT, 0, none⟩ = some (.int .i64 1) := blk_cell HT.out 0
  have fT0 := blk_free HT.out 0
  go_upto_region 7 with (first | fail)
  clear cT0 fT0
  have hg := grownBy_set w9 BT 0 (.int .i64 0)
  have HGn := hide (grown_spoil HG.out LT.out hg)
  have HSn := hide (box_type HS.out hg (type_box HT.out) (by decide))
  have HXn := hide (box_type HX.out hg (type_box HT.out) (by decide))
  have HAn := hide (box_type HA.out hg (type_box HT.out) (by decide))
  have HYn := hide (box_type HY.out hg (type_box HT.out) (by decide))
  have OSn := hide (OS.out.type hg (type_box HT.out) (by decide))
  have OAn := hide (OA.out.type hg (type_box HT.out) (by decide))
  have HTn := hide (blk_set (j := 0) (u := .int .i64 0) (cs' := #[.int .i64 0, .int .i64 10, .int .i64 9, .int .i64 2, .int .i64 3, .int .i64 0]) HT.out rfl)
  clear HG HS HX HA HY OS OA HT
  have HG := HGn
  have HS := HSn
  have HX := HXn
  have HA := HAn
  have HY := HYn
  have OS := OSn
  have OA := OAn
  have HT := HTn
  clear HGn HSn HXn HAn HYn OSn OAn HTn
  clear hg
  generalize hWx : w9.setCell ⟨BT, 0, none⟩ (.int .i64 0) = w10 at *
  clear hWx
  have cT0 : w10.cell? ⟨BT, 0, none⟩ = some (.int .i64 0) := blk_cell HT.out 0
  have cT1 : w10.cell? ⟨BT, 1, none⟩ = some (.int .i64 10) := blk_cell HT.out 1
  have cT2 : w10.cell? ⟨BT, 2, none⟩ = some (.int .i64 9) := blk_cell HT.out 2
  have cT3 : w10.cell? ⟨BT, 3, none⟩ = some (.int .i64 2) := blk_cell HT.out 3
  have cT4 : w10.cell? ⟨BT, 4, none⟩ = some (.int .i64 3) := blk_cell HT.out 4
  have cT5 : w10.cell? ⟨BT, 5, none⟩ = some (.int .i64 0) := blk_cell HT.out 5
  go_wp2_with (first | fail)
  refine (rel_at (t := awR) (L := (-1)) (v := .slice none 0 0) (zs := []) (now := 20) (L' := 20) (D := 2) (b := true) (zs' := []) (N := 0) _ (rowAt_nil 0 _ none 0) (by kernel_rfl) (by kernel_rfl) (by kernel_rfl) rfl).mono ?_; rintro e w11 ⟨u5, c5, rfl, ho, hg⟩
  clear cT0 cT1 cT2 cT3 cT4 cT5
  have HGn := hide (grownBy_trans HG.out hg)
  have HTn := hide (box_grown HT.out hg (by simp))
  have HSn := hide (box_grown HS.out hg (by simp))
  have HXn := hide (box_grown HX.out hg (by simp))
  have HAn := hide (box_grown HA.out hg (by simp))
  have HYn := hide (box_grown HY.out hg (by simp))
  have OSn := hide (OS.out.grown hg)
  have OAn := hide (OA.out.grown hg)
  clear HG HT HS HX HA HY OS OA
  have HG := HGn
  have HT := HTn
  have HS := HSn
  have HX := HXn
  have HA := HAn
  have HY := HYn
  have OS := OSn
  have OA := OAn
  clear HGn HTn HSn HXn HAn HYn OSn OAn
  clear hg
  clear ho
  go_upto_region 8 with (first | fail)
  have hg := World.grownBy_alloc w11 (.cells #[.int .i64 20, .slice u5 0 c5] 26) none
  have HZq := hide (heap_alloc_new w11 (.cells #[.int .i64 20, .slice u5 0 c5] 26))
  have LZ := hide HG.out.size
  have HGn := hide (grownBy_trans HG.out hg)
  have HTn := hide (box_grown HT.out hg (by simp))
  have HSn := hide (box_grown HS.out hg (by simp))
  have HXn := hide (box_grown HX.out hg (by simp))
  have HAn := hide (box_grown HA.out hg (by simp))
  have HYn := hide (box_grown HY.out hg (by simp))
  have OSn := hide (OS.out.grown hg)
  have OAn := hide (OA.out.grown hg)
  clear HG HT HS HX HA HY OS OA
  have HG := HGn
  have HT := HTn
  have HS := HSn
  have HX := HXn
  have HA := HAn
  have HY := HYn
  have OS := OSn
  have OA := OAn
  clear HGn HTn HSn HXn HAn HYn OSn OAn
  clear hg
  have HZ := HZq
  clear HZq
  generalize hWx : w11.alloc (.cells #[.int .i64 20, .slice u5 0 c5] 26) = w12 at *
  generalize hBx : w11.heap.size = BZ at *
  clear hWx hBx
  have cS0 : w12.cell? ⟨BS, 0, none⟩ = some (.int .i64 4) := blk_cell HS.out 0
  have cS1 : w12.cell? ⟨BS, 1, none⟩ = some (.slice u1 1 c1) := blk_cell HS.out 1
  go_wp2_with (first | fail)
  refine (sameT_any 4 u1 (some ⟨w12.heap.size, 0, none⟩) 1 1 c1 1 [7] (w12.alloc (.cells #[.int .i64 7] 3)) (OS.out.row.grown (World.grownBy_alloc _ _ _)) (rowAt_lit (S := shN) w12 [7] 3 (by decide))).mono ?_; rintro e w13 ⟨rfl, hg⟩
  clear cS0 cS1
  replace hg := grownBy_trans (World.grownBy_alloc _ _ _) hg
  have HGn := hide (grownBy_trans HG.out hg)
  have HTn := hide (box_grown HT.out hg (by simp))
  have HSn := hide (box_grown HS.out hg (by simp))
  have HXn := hide (box_grown HX.out hg (by simp))
  have HAn := hide (box_grown HA.out hg (by simp))
  have HYn := hide (box_grown HY.out hg (by simp))
  have HZn := hide (box_grown HZ.out hg (by simp))
  have OSn := hide (OS.out.grown hg)
  have OAn := hide (OA.out.grown hg)
  clear HG HT HS HX HA HY HZ OS OA
  have HG := HGn
  have HT := HTn
  have HS := HSn
  have HX := HXn
  have HA := HAn
  have HY := HYn
  have HZ := HZn
  have OS := OSn
  have OA := OAn
  clear HGn HTn HSn HXn HAn HYn HZn OSn OAn
  clear hg
  have cA0 : w13.cell? ⟨BA, 0, none⟩ = some (.int .i64 14) := blk_cell HA.out 0
  have cA1 : w13.cell? ⟨BA, 1, none⟩ = some (.slice u3 0 c3) := blk_cell HA.out 1
  go_wp2_with (first | (go_at_call 14; refine (NUM.out _ _).mono ?_; rintro e wn ⟨rfl, rfl⟩) | fail)
  refine (sameT_any 14 u3 none 0 0 c3 0 [] _ OA.out.row (rowAt_nil 0 _ none 0)).mono ?_; rintro e w14 ⟨rfl, hg⟩
  clear cA0 cA1
  have HGn := hide (grownBy_trans HG.out hg)
  have HTn := hide (box_grown HT.out hg (by simp))
  have HSn := hide (box_grown HS.out hg (by simp))
  have HXn := hide (box_grown HX.out hg (by simp))
  have HAn := hide (box_grown HA.out hg (by simp))
  have HYn := hide (box_grown HY.out hg (by simp))
  have HZn := hide (box_grown HZ.out hg (by simp))
  have OSn := hide (OS.out.grown hg)
  have OAn := hide (OA.out.grown hg)
  clear HG HT HS HX HA HY HZ OS OA
  have HG := HGn
  have HT := HTn
  have HS := HSn
  have HX := HXn
  have HA := HAn
  have HY := HYn
  have HZ := HZn
  have OS := OSn
  have OA := OAn
  clear HGn HTn HSn HXn HAn HYn HZn OSn OAn
  clear hg
  have cT0 : w14.cell? ⟨BT, 0, none⟩ = some (.int .i64 0) := blk_cell HT.out 0
  have cT1 : w14.cell? ⟨BT, 1, none⟩ = some (.int .i64 10) := blk_cell HT.out 1
  have cT2 : w14.cell? ⟨BT, 2, none⟩ = some (.int .i64 9) := blk_cell HT.out 2
  have cT3 : w14.cell? ⟨BT, 3, none⟩ = some (.int .i64 2) := blk_cell HT.out 3
  have cT4 : w14.cell? ⟨BT, 4, none⟩ = some (.int .i64 3) := blk_cell HT.out 4
  have cT5 : w14.cell? ⟨BT, 5, none⟩ = some (.int .i64 0) := blk_cell HT.out 5
  go_wp2_with (first | (go_at_call 14; refine (NUM.out _ _).mono ?_; rintro e wn ⟨rfl, rfl⟩) | fail)
  refine (may_at (t := awR) (b := true) _ (by kernel_rfl)).mono ?_; rintro e w15 ⟨rfl, hg⟩
  clear cT0 cT1 cT2 cT3 cT4 cT5
  have HGn := hide (grownBy_trans HG.out hg)
  have HTn := hide (box_grown HT.out hg (by simp))
  have HSn := hide (box_grown HS.out hg (by simp))
  have HXn := hide (box_grown HX.out hg (by simp))
  have HAn := hide (box_grown HA.out hg (by simp))
  have HYn := hide (box_grown HY.out hg (by simp))
  have HZn := hide (box_grown HZ.out hg (by simp))
  have OSn := hide (OS.out.grown hg)
  have OAn := hide (OA.out.grown hg)
  clear HG HT HS HX HA HY HZ OS OA
  have HG := HGn
  have HT := HTn
  have HS := HSn
  have HX := HXn
  have HA := HAn
  have HY := HYn
  have HZ := HZn
  have OS := OSn
  have OA := OAn
  clear HGn HTn HSn HXn HAn HYn HZn OSn OAn
  clear hg
  have cT0 : w15.cell? ⟨BT, 0, none⟩ = some (.int .i64 0) := blk_cell HT.out 0
  have cT1 : w15.cell? ⟨BT, 1, none⟩ = some (.int .i64 10) := blk_cell HT.out 1
  have cT2 : w15.cell? ⟨BT, 2, none⟩ = some (.int .i64 9) := blk_cell HT.out 2
  have cT3 : w15.cell? ⟨BT, 3, none⟩ = some (.int .i64 2) := blk_cell HT.out 3
  have cT4 : w15.cell? ⟨BT, 4, none⟩ = some (.int .i64 3) := blk_cell HT.out 4
  have cT5 : w15.cell? ⟨BT, 5, none⟩ = some (.int .i64 0) := blk_cell HT.out 5
  have cS0 : w15.cell? ⟨BS, 0, none⟩ = some (.int .i64 4) := blk_cell HS.out 0
  have cS1 : w15.cell? ⟨BS, 1, none⟩ = some (.slice u1 1 c1) := blk_cell HS.out 1
  go_wp2_with (first | (go_at_call 14; refine (NUM.out _ _).mono ?_; rintro e wn ⟨rfl, rfl⟩) | fail)
  refine (late_at (t := awR) (L := 4) (zs := [7]) (now := 5) (b := false) _ OS.out.row (by kernel_rfl)).mono ?_; rintro e w16 ⟨rfl, hg⟩
  clear cT0 cT1 cT2 cT3 cT4 cT5 cS0 cS1
  have HGn := hide (grownBy_trans HG.out hg)
  have HTn := hide (box_grown HT.out hg (by simp))
  have HSn := hide (box_grown HS.out hg (by simp))
  have HXn := hide (box_grown HX.out hg (by simp))
  have HAn := hide (box_grown HA.out hg (by simp))
  have HYn := hide (box_grown HY.out hg (by simp))
  have HZn := hide (box_grown HZ.out hg (by simp))
  have OSn := hide (OS.out.grown hg)
  have OAn := hide (OA.out.grown hg)
  clear HG HT HS HX HA HY HZ OS OA
  have HG := HGn
  have HT := HTn
  have HS := HSn
  have HX := HXn
  have HA := HAn
  have HY := HYn
  have HZ := HZn
  have OS := OSn
  have OA := OAn
  clear HGn HTn HSn HXn HAn HYn HZn OSn OAn
  clear hg
  go_wp2_with (first | fail)
  go_ret
  exact ⟨rfl, HG.out⟩
theorem awake_any (w : World) : Calls Try.prog 21 #[] w fun e w' => e = .returned (.bool true) ∧ w.grownBy w' none := awake_from w w (grownBy_refl _ _)
#print axioms awake_any
end Go.Proofs.Ytephnppanbckkaa
