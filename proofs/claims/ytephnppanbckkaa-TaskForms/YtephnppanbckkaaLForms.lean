/- The walk of the statement TaskForms: each part of a task, of turns that may not be; proved over the translation. -/
import Derived.Test.YtephnppanbckkaaAw
import Derived.Test.YtephnppanbckkaaFmath
namespace Go.Proofs.Ytephnppanbckkaa
open Go.RowKit
attribute [local go_sem] alloc_drewN setCell_drewN

set_option maxRecDepth 100000 in
set_option maxHeartbeats 40000000 in
theorem taskForms_from (x0 x1 : Int) (w w0 : World) (hg0 : w.grownBy w0 none) : Calls Try.prog 5 #[.int .i64 x0, .int .i64 x1] w0 fun e w' => e = .returned (.bool true) ∧ w.grownBy w' none := by
  obtain ⟨a, ha, hma⟩ := and6 x1
  obtain ⟨U, hU, hU1⟩ := conv_uf x0
  obtain ⟨r, hr'⟩ : ∃ r, U % 14 = r := ⟨_, rfl⟩
  have hr : r < 14 := by rw [← hr']; exact Nat.mod_lt _ (by omega)
  have hrem : ((U : Int)).tmod 14 = (r : Int) := by
    rw [Int.tmod_eq_emod_of_nonneg (by omega), ← hr']; simp
  have HR := hide hr
  clear hr hr'
  have NUM := hide num_to
  have HG := hide hg0
  clear hg0
  go_enter Try.func5, Try.ntmps5
  go_wp2_with (first | fail)
  refine (awake_any _).mono ?_; rintro e w1 ⟨rfl, hg⟩
  have HGn := hide (grownBy_trans HG.out hg)
  clear HG
  have HG := HGn
  clear HGn
  clear hg
  go_upto_region 4 with (first | fail)
  generalize hd : 1 + (a : Int) = d at *
  have hd1 : 1 ≤ d := by omega
  have hd2 : d ≤ 64 := by omega
  clear hd hma ha
  go_upto_region 5 with (first | fail)
  have hg := World.grownBy_alloc w1 (.cells #[.int .i64 1, .int .i64 9, .int .i64 8, .int .i64 2, .int .i64 3, .int .i64 4] 23) none
  have HTq := hide (heap_alloc_new w1 (.cells #[.int .i64 1, .int .i64 9, .int .i64 8, .int .i64 2, .int .i64 3, .int .i64 4] 23))
  have LT := hide HG.out.size
  have HGn := hide (grownBy_trans HG.out hg)
  clear HG
  have HG := HGn
  clear HGn
  clear hg
  have HT := HTq
  clear HTq
  generalize hWx : w1.alloc (.cells #[.int .i64 1, .int .i64 9, .int .i64 8, .int .i64 2, .int .i64 3, .int .i64 4] 23) = w2 at *
  generalize hBx : w1.heap.size = BT at *
  clear hWx hBx
  go_upto_region 6 with (first | fail)
  have hg := grownBy_trans (World.grownBy_alloc w2 (.cells #[.int .i64 5] 3) none) (World.grownBy_alloc _ (.cells #[.int .i64 1, .slice (some ⟨w2.heap.size, 0, none⟩) 1 1] 26) none)
  have HZq := hide (hp_up (heap_alloc_new w2 (.cells #[.int .i64 5] 3)) (.cells #[.int .i64 1, .slice (some ⟨w2.heap.size, 0, none⟩) 1 1] 26))
  have HSq := hide (alloc_next w2 (.cells #[.int .i64 5] 3) (.cells #[.int .i64 1, .slice (some ⟨w2.heap.size, 0, none⟩) 1 1] 26))
  have LZ := hide HG.out.size
  have LS := hide (show w.heap.size ≤ w2.heap.size + 1 from Nat.le_trans HG.out.size (Nat.le_succ _))
  have HGn := hide (grownBy_trans HG.out hg)
  have HTn := hide (box_grown HT.out hg (by simp))
  clear HG HT
  have HG := HGn
  have HT := HTn
  clear HGn HTn
  clear hg
  have HZ := HZq
  have HS := HSq
  clear HZq HSq
  generalize hWx : (w2.alloc (.cells #[.int .i64 5] 3)).alloc (.cells #[.int .i64 1, .slice (some ⟨w2.heap.size, 0, none⟩) 1 1] 26) = w3 at *
  clear hWx
  have NZS : Hid (w2.heap.size < w2.heap.size + 1) := hide (Nat.lt_succ_self _)
  generalize hBx : w2.heap.size + 1 = BS at *
  clear hBx
  generalize hBx : w2.heap.size = BZ at *
  clear hBx
  have cT0 : w3.cell? ⟨BT, 0, none⟩ = some (.int .i64 1) := blk_cell HT.out 0
  have cT1 : w3.cell? ⟨BT, 1, none⟩ = some (.int .i64 9) := blk_cell HT.out 1
  have cT2 : w3.cell? ⟨BT, 2, none⟩ = some (.int .i64 8) := blk_cell HT.out 2
  have cT3 : w3.cell? ⟨BT, 3, none⟩ = some (.int .i64 2) := blk_cell HT.out 3
  have cT4 : w3.cell? ⟨BT, 4, none⟩ = some (.int .i64 3) := blk_cell HT.out 4
  have cT5 : w3.cell? ⟨BT, 5, none⟩ = some (.int .i64 4) := blk_cell HT.out 5
  go_wp2_with (first | fail)
  refine (may_at (t := fT) (b := true) _ fT_may).mono ?_; rintro e w4 ⟨rfl, hg⟩
  clear cT0 cT1 cT2 cT3 cT4 cT5
  have HGn := hide (grownBy_trans HG.out hg)
  have HTn := hide (box_grown HT.out hg (by simp))
  have HZn := hide (box_grown HZ.out hg (by simp))
  have HSn := hide (box_grown HS.out hg (by simp))
  clear HG HT HZ HS
  have HG := HGn
  have HT := HTn
  have HZ := HZn
  have HS := HSn
  clear HGn HTn HZn HSn
  clear hg
  go_upto_region 9 with (first | fail)
  have hr := HR.out
  clear HR
  rcases (show r = 0 ∨ r = 1 ∨ r = 2 ∨ r = 3 ∨ r = 4 ∨ r = 5 ∨ r = 6 ∨ r = 7 ∨ r = 8 ∨ r = 9 ∨ r = 10 ∨ r = 11 ∨ r = 12 ∨ r = 13 by omega) with rfl | rfl | rfl | rfl | rfl | rfl | rfl | rfl | rfl | rfl | rfl | rfl | rfl | rfl
  all_goals clear hr
  · skip
    have cT0 : w4.cell? ⟨BT, 0, none⟩ = some (.int .i64 1) := blk_cell HT.out 0
    have fT0 := blk_free HT.out 0
    go_upto_region 44 with (first | fail)
    clear cT0 fT0
    have hg := grownBy_set w4 BT 0 (.int .i64 (1 + d))
    have HGn := hide (grown_spoil HG.out LT.out hg)
    have HZn := hide (box_type HZ.out hg (type_box HT.out) (by decide))
    have HSn := hide (box_type HS.out hg (type_box HT.out) (by decide))
    have HTn := hide (blk_set (j := 0) (u := .int .i64 (1 + d)) (cs' := #[.int .i64 (1 + d), .int .i64 9, .int .i64 8, .int .i64 2, .int .i64 3, .int .i64 4]) HT.out rfl)
    clear HG HZ HS HT
    have HG := HGn
    have HZ := HZn
    have HS := HSn
    have HT := HTn
    clear HGn HZn HSn HTn
    clear hg
    generalize hWx : w4.setCell ⟨BT, 0, none⟩ (.int .i64 (1 + d)) = w5 at *
    clear hWx
    have HANS := hide (fm0 hd1)
    have cT0 : w5.cell? ⟨BT, 0, none⟩ = some (.int .i64 (1 + d)) := blk_cell HT.out 0
    have cT1 : w5.cell? ⟨BT, 1, none⟩ = some (.int .i64 9) := blk_cell HT.out 1
    have cT2 : w5.cell? ⟨BT, 2, none⟩ = some (.int .i64 8) := blk_cell HT.out 2
    have cT3 : w5.cell? ⟨BT, 3, none⟩ = some (.int .i64 2) := blk_cell HT.out 3
    have cT4 : w5.cell? ⟨BT, 4, none⟩ = some (.int .i64 3) := blk_cell HT.out 4
    have cT5 : w5.cell? ⟨BT, 5, none⟩ = some (.int .i64 4) := blk_cell HT.out 5
    have cS0 : w5.cell? ⟨BS, 0, none⟩ = some (.int .i64 1) := blk_cell HS.out 0
    have cS1 : w5.cell? ⟨BS, 1, none⟩ = some (.slice (some ⟨BZ, 0, none⟩) 1 1) := blk_cell HS.out 1
    go_wp2_with (first | fail)
    refine (pick_at (t := ⟨1 + d, 9, 8, 2, 3, 4⟩) (L := 1) (v := .slice (some ⟨BZ, 0, none⟩) 1 1) (zs := [5]) (d := 7) (L' := 0) (E := 1100) (zs' := []) (N := 0) _ (own_blk (n := 1) (xs := [5]) HZ.out rfl rfl (by decide)).row HANS.out.pick.1 HANS.out.pick.2 rfl).mono ?_; rintro e w6 ⟨u1, c1, rfl, ho, hg⟩
    clear cT0 cT1 cT2 cT3 cT4 cT5 cS0 cS1
    have HGn := hide (grownBy_trans HG.out hg)
    have HTn := hide (box_grown HT.out hg (by simp))
    have HZn := hide (box_grown HZ.out hg (by simp))
    have HSn := hide (box_grown HS.out hg (by simp))
    clear HG HT HZ HS
    have HG := HGn
    have HT := HTn
    have HZ := HZn
    have HS := HSn
    clear HGn HTn HZn HSn
    clear hg
    have OA := hide (ho.base (Nat.zero_le _))
    clear ho
    go_upto_region 45 with (first | fail)
    have hg := World.grownBy_alloc w6 (.cells #[.int .i64 0, .slice u1 0 c1] 26) none
    have HAq := hide (heap_alloc_new w6 (.cells #[.int .i64 0, .slice u1 0 c1] 26))
    have LA := hide HG.out.size
    have HGn := hide (grownBy_trans HG.out hg)
    have HTn := hide (box_grown HT.out hg (by simp))
    have HZn := hide (box_grown HZ.out hg (by simp))
    have HSn := hide (box_grown HS.out hg (by simp))
    have OAn := hide (OA.out.grown hg)
    clear HG HT HZ HS OA
    have HG := HGn
    have HT := HTn
    have HZ := HZn
    have HS := HSn
    have OA := OAn
    clear HGn HTn HZn HSn OAn
    clear hg
    have HA := HAq
    clear HAq
    generalize hWx : w6.alloc (.cells #[.int .i64 0, .slice u1 0 c1] 26) = w7 at *
    generalize hBx : w6.heap.size = BA at *
    clear hWx hBx
    have cT0 : w7.cell? ⟨BT, 0, none⟩ = some (.int .i64 (1 + d)) := blk_cell HT.out 0
    have cT1 : w7.cell? ⟨BT, 1, none⟩ = some (.int .i64 9) := blk_cell HT.out 1
    have cT2 : w7.cell? ⟨BT, 2, none⟩ = some (.int .i64 8) := blk_cell HT.out 2
    have cT3 : w7.cell? ⟨BT, 3, none⟩ = some (.int .i64 2) := blk_cell HT.out 3
    have cT4 : w7.cell? ⟨BT, 4, none⟩ = some (.int .i64 3) := blk_cell HT.out 4
    have cT5 : w7.cell? ⟨BT, 5, none⟩ = some (.int .i64 4) := blk_cell HT.out 5
    have cS0 : w7.cell? ⟨BS, 0, none⟩ = some (.int .i64 1) := blk_cell HS.out 0
    have cS1 : w7.cell? ⟨BS, 1, none⟩ = some (.slice (some ⟨BZ, 0, none⟩) 1 1) := blk_cell HS.out 1
    go_wp2_with (first | fail)
    refine (rel_at (t := ⟨1 + d, 9, 8, 2, 3, 4⟩) (L := 1) (v := .slice (some ⟨BZ, 0, none⟩) 1 1) (zs := [5]) (now := 20) (L' := 0) (D := 0) (b := false) (zs' := []) (N := 0) _ (own_blk (n := 1) (xs := [5]) HZ.out rfl rfl (by decide)).row HANS.out.rel.1 HANS.out.rel.2.1 HANS.out.rel.2.2.1 rfl).mono ?_; rintro e w8 ⟨u2, c2, rfl, ho, hg⟩
    clear cT0 cT1 cT2 cT3 cT4 cT5 cS0 cS1
    have HGn := hide (grownBy_trans HG.out hg)
    have HTn := hide (box_grown HT.out hg (by simp))
    have HZn := hide (box_grown HZ.out hg (by simp))
    have HSn := hide (box_grown HS.out hg (by simp))
    have HAn := hide (box_grown HA.out hg (by simp))
    have OAn := hide (OA.out.grown hg)
    clear HG HT HZ HS HA OA
    have HG := HGn
    have HT := HTn
    have HZ := HZn
    have HS := HSn
    have HA := HAn
    have OA := OAn
    clear HGn HTn HZn HSn HAn OAn
    clear hg
    have OY := hide (ho.base (Nat.zero_le _))
    clear ho
    go_upto_region 46 with (first | fail)
    have hg := World.grownBy_alloc w8 (.cells #[.int .i64 0, .slice u2 0 c2] 26) none
    have HYq := hide (heap_alloc_new w8 (.cells #[.int .i64 0, .slice u2 0 c2] 26))
    have LY := hide HG.out.size
    have HGn := hide (grownBy_trans HG.out hg)
    have HTn := hide (box_grown HT.out hg (by simp))
    have HZn := hide (box_grown HZ.out hg (by simp))
    have HSn := hide (box_grown HS.out hg (by simp))
    have HAn := hide (box_grown HA.out hg (by simp))
    have OAn := hide (OA.out.grown hg)
    have OYn := hide (OY.out.grown hg)
    clear HG HT HZ HS HA OA OY
    have HG := HGn
    have HT := HTn
    have HZ := HZn
    have HS := HSn
    have HA := HAn
    have OA := OAn
    have OY := OYn
    clear HGn HTn HZn HSn HAn OAn OYn
    clear hg
    have HY := HYq
    clear HYq
    generalize hWx : w8.alloc (.cells #[.int .i64 0, .slice u2 0 c2] 26) = w9 at *
    generalize hBx : w8.heap.size = BY at *
    clear hWx hBx
    have cT0 : w9.cell? ⟨BT, 0, none⟩ = some (.int .i64 (1 + d)) := blk_cell HT.out 0
    have cT1 : w9.cell? ⟨BT, 1, none⟩ = some (.int .i64 9) := blk_cell HT.out 1
    have cT2 : w9.cell? ⟨BT, 2, none⟩ = some (.int .i64 8) := blk_cell HT.out 2
    have cT3 : w9.cell? ⟨BT, 3, none⟩ = some (.int .i64 2) := blk_cell HT.out 3
    have cT4 : w9.cell? ⟨BT, 4, none⟩ = some (.int .i64 3) := blk_cell HT.out 4
    have cT5 : w9.cell? ⟨BT, 5, none⟩ = some (.int .i64 4) := blk_cell HT.out 5
    go_wp2_with (first | fail)
    refine (may_at (t := ⟨1 + d, 9, 8, 2, 3, 4⟩) (b := false) _ HANS.out.may).mono ?_; rintro e w10 ⟨rfl, hg⟩
    clear cT0 cT1 cT2 cT3 cT4 cT5
    have HGn := hide (grownBy_trans HG.out hg)
    have HTn := hide (box_grown HT.out hg (by simp))
    have HZn := hide (box_grown HZ.out hg (by simp))
    have HSn := hide (box_grown HS.out hg (by simp))
    have HAn := hide (box_grown HA.out hg (by simp))
    have HYn := hide (box_grown HY.out hg (by simp))
    have OAn := hide (OA.out.grown hg)
    have OYn := hide (OY.out.grown hg)
    clear HG HT HZ HS HA HY OA OY
    have HG := HGn
    have HT := HTn
    have HZ := HZn
    have HS := HSn
    have HA := HAn
    have HY := HYn
    have OA := OAn
    have OY := OYn
    clear HGn HTn HZn HSn HAn HYn OAn OYn
    clear hg
    have cA0 : w10.cell? ⟨BA, 0, none⟩ = some (.int .i64 0) := blk_cell HA.out 0
    have cA1 : w10.cell? ⟨BA, 1, none⟩ = some (.slice u1 0 c1) := blk_cell HA.out 1
    go_wp2_with (first | fail)
    refine (sameT_any 0 u1 none 0 0 c1 0 [] _ OA.out.row (rowAt_nil 0 _ none 0)).mono ?_; rintro e w11 ⟨rfl, hg⟩
    clear cA0 cA1
    have HGn := hide (grownBy_trans HG.out hg)
    have HTn := hide (box_grown HT.out hg (by simp))
    have HZn := hide (box_grown HZ.out hg (by simp))
    have HSn := hide (box_grown HS.out hg (by simp))
    have HAn := hide (box_grown HA.out hg (by simp))
    have HYn := hide (box_grown HY.out hg (by simp))
    have OAn := hide (OA.out.grown hg)
    have OYn := hide (OY.out.grown hg)
    clear HG HT HZ HS HA HY OA OY
    have HG := HGn
    have HT := HTn
    have HZ := HZn
    have HS := HSn
    have HA := HAn
    have HY := HYn
    have OA := OAn
    have OY := OYn
    clear HGn HTn HZn HSn HAn HYn OAn OYn
    clear hg
    have cY0 : w11.cell? ⟨BY, 0, none⟩ = some (.int .i64 0) := blk_cell HY.out 0
    have cY1 : w11.cell? ⟨BY, 1, none⟩ = some (.slice u2 0 c2) := blk_cell HY.out 1
    go_wp2_with (first | (go_at_call 14; refine (NUM.out _ _).mono ?_; rintro e wn ⟨rfl, rfl⟩) | fail)
    refine (sameT_any 0 u2 none 0 0 c2 0 [] _ OY.out.row (rowAt_nil 0 _ none 0)).mono ?_; rintro e w12 ⟨rfl, hg⟩
    clear cY0 cY1
    have HGn := hide (grownBy_trans HG.out hg)
    have HTn := hide (box_grown HT.out hg (by simp))
    have HZn := hide (box_grown HZ.out hg (by simp))
    have HSn := hide (box_grown HS.out hg (by simp))
    have HAn := hide (box_grown HA.out hg (by simp))
    have HYn := hide (box_grown HY.out hg (by simp))
    have OAn := hide (OA.out.grown hg)
    have OYn := hide (OY.out.grown hg)
    clear HG HT HZ HS HA HY OA OY
    have HG := HGn
    have HT := HTn
    have HZ := HZn
    have HS := HSn
    have HA := HAn
    have HY := HYn
    have OA := OAn
    have OY := OYn
    clear HGn HTn HZn HSn HAn HYn OAn OYn
    clear hg
    have cT0 : w12.cell? ⟨BT, 0, none⟩ = some (.int .i64 (1 + d)) := blk_cell HT.out 0
    have cT1 : w12.cell? ⟨BT, 1, none⟩ = some (.int .i64 9) := blk_cell HT.out 1
    have cT2 : w12.cell? ⟨BT, 2, none⟩ = some (.int .i64 8) := blk_cell HT.out 2
    have cT3 : w12.cell? ⟨BT, 3, none⟩ = some (.int .i64 2) := blk_cell HT.out 3
    have cT4 : w12.cell? ⟨BT, 4, none⟩ = some (.int .i64 3) := blk_cell HT.out 4
    have cT5 : w12.cell? ⟨BT, 5, none⟩ = some (.int .i64 4) := blk_cell HT.out 5
    have cS0 : w12.cell? ⟨BS, 0, none⟩ = some (.int .i64 1) := blk_cell HS.out 0
    have cS1 : w12.cell? ⟨BS, 1, none⟩ = some (.slice (some ⟨BZ, 0, none⟩) 1 1) := blk_cell HS.out 1
    go_wp2_with (first | fail)
    refine (late_at (t := ⟨1 + d, 9, 8, 2, 3, 4⟩) (L := 1) (zs := [5]) (now := 20) (b := false) _ (own_blk (n := 1) (xs := [5]) HZ.out rfl rfl (by decide)).row HANS.out.rel.2.2.2).mono ?_; rintro e w13 ⟨rfl, hg⟩
    clear cT0 cT1 cT2 cT3 cT4 cT5 cS0 cS1
    have HGn := hide (grownBy_trans HG.out hg)
    have HTn := hide (box_grown HT.out hg (by simp))
    have HZn := hide (box_grown HZ.out hg (by simp))
    have HSn := hide (box_grown HS.out hg (by simp))
    have HAn := hide (box_grown HA.out hg (by simp))
    have HYn := hide (box_grown HY.out hg (by simp))
    have OAn := hide (OA.out.grown hg)
    have OYn := hide (OY.out.grown hg)
    clear HG HT HZ HS HA HY OA OY
    have HG := HGn
    have HT := HTn
    have HZ := HZn
    have HS := HSn
    have HA := HAn
    have HY := HYn
    have OA := OAn
    have OY := OYn
    clear HGn HTn HZn HSn HAn HYn OAn OYn
    clear hg
    go_wp2_with (first | fail)
    go_ret
    exact ⟨rfl, HG.out⟩
  · skip
    have cT1 : w4.cell? ⟨BT, 1, none⟩ = some (.int .i64 9) := blk_cell HT.out 1
    have fT1 := blk_free HT.out 1
    go_upto_region 44 with (first | fail)
    clear cT1 fT1
    have hg := grownBy_set w4 BT 1 (.int .i64 (1 - d))
    have HGn := hide (grown_spoil HG.out LT.out hg)
    have HZn := hide (box_type HZ.out hg (type_box HT.out) (by decide))
    have HSn := hide (box_type HS.out hg (type_box HT.out) (by decide))
    have HTn := hide (blk_set (j := 1) (u := .int .i64 (1 - d)) (cs' := #[.int .i64 1, .int .i64 (1 - d), .int .i64 8, .int .i64 2, .int .i64 3, .int .i64 4]) HT.out rfl)
    clear HG HZ HS HT
    have HG := HGn
    have HZ := HZn
    have HS := HSn
    have HT := HTn
    clear HGn HZn HSn HTn
    clear hg
    generalize hWx : w4.setCell ⟨BT, 1, none⟩ (.int .i64 (1 - d)) = w5 at *
    clear hWx
    have HANS := hide (fm1 hd1)
    have cT0 : w5.cell? ⟨BT, 0, none⟩ = some (.int .i64 1) := blk_cell HT.out 0
    have cT1 : w5.cell? ⟨BT, 1, none⟩ = some (.int .i64 (1 - d)) := blk_cell HT.out 1
    have cT2 : w5.cell? ⟨BT, 2, none⟩ = some (.int .i64 8) := blk_cell HT.out 2
    have cT3 : w5.cell? ⟨BT, 3, none⟩ = some (.int .i64 2) := blk_cell HT.out 3
    have cT4 : w5.cell? ⟨BT, 4, none⟩ = some (.int .i64 3) := blk_cell HT.out 4
    have cT5 : w5.cell? ⟨BT, 5, none⟩ = some (.int .i64 4) := blk_cell HT.out 5
    have cS0 : w5.cell? ⟨BS, 0, none⟩ = some (.int .i64 1) := blk_cell HS.out 0
    have cS1 : w5.cell? ⟨BS, 1, none⟩ = some (.slice (some ⟨BZ, 0, none⟩) 1 1) := blk_cell HS.out 1
    go_wp2_with (first | fail)
    refine (pick_at (t := ⟨1, 1 - d, 8, 2, 3, 4⟩) (L := 1) (v := .slice (some ⟨BZ, 0, none⟩) 1 1) (zs := [5]) (d := 7) (L' := 0) (E := 1100) (zs' := []) (N := 0) _ (own_blk (n := 1) (xs := [5]) HZ.out rfl rfl (by decide)).row HANS.out.pick.1 HANS.out.pick.2 rfl).mono ?_; rintro e w6 ⟨u1, c1, rfl, ho, hg⟩
    clear cT0 cT1 cT2 cT3 cT4 cT5 cS0 cS1
    have HGn := hide (grownBy_trans HG.out hg)
    have HTn := hide (box_grown HT.out hg (by simp))
    have HZn := hide (box_grown HZ.out hg (by simp))
    have HSn := hide (box_grown HS.out hg (by simp))
    clear HG HT HZ HS
    have HG := HGn
    have HT := HTn
    have HZ := HZn
    have HS := HSn
    clear HGn HTn HZn HSn
    clear hg
    have OA := hide (ho.base (Nat.zero_le _))
    clear ho
    go_upto_region 45 with (first | fail)
    have hg := World.grownBy_alloc w6 (.cells #[.int .i64 0, .slice u1 0 c1] 26) none
    have HAq := hide (heap_alloc_new w6 (.cells #[.int .i64 0, .slice u1 0 c1] 26))
    have LA := hide HG.out.size
    have HGn := hide (grownBy_trans HG.out hg)
    have HTn := hide (box_grown HT.out hg (by simp))
    have HZn := hide (box_grown HZ.out hg (by simp))
    have HSn := hide (box_grown HS.out hg (by simp))
    have OAn := hide (OA.out.grown hg)
    clear HG HT HZ HS OA
    have HG := HGn
    have HT := HTn
    have HZ := HZn
    have HS := HSn
    have OA := OAn
    clear HGn HTn HZn HSn OAn
    clear hg
    have HA := HAq
    clear HAq
    generalize hWx : w6.alloc (.cells #[.int .i64 0, .slice u1 0 c1] 26) = w7 at *
    generalize hBx : w6.heap.size = BA at *
    clear hWx hBx
    have cT0 : w7.cell? ⟨BT, 0, none⟩ = some (.int .i64 1) := blk_cell HT.out 0
    have cT1 : w7.cell? ⟨BT, 1, none⟩ = some (.int .i64 (1 - d)) := blk_cell HT.out 1
    have cT2 : w7.cell? ⟨BT, 2, none⟩ = some (.int .i64 8) := blk_cell HT.out 2
    have cT3 : w7.cell? ⟨BT, 3, none⟩ = some (.int .i64 2) := blk_cell HT.out 3
    have cT4 : w7.cell? ⟨BT, 4, none⟩ = some (.int .i64 3) := blk_cell HT.out 4
    have cT5 : w7.cell? ⟨BT, 5, none⟩ = some (.int .i64 4) := blk_cell HT.out 5
    have cS0 : w7.cell? ⟨BS, 0, none⟩ = some (.int .i64 1) := blk_cell HS.out 0
    have cS1 : w7.cell? ⟨BS, 1, none⟩ = some (.slice (some ⟨BZ, 0, none⟩) 1 1) := blk_cell HS.out 1
    go_wp2_with (first | fail)
    refine (rel_at (t := ⟨1, 1 - d, 8, 2, 3, 4⟩) (L := 1) (v := .slice (some ⟨BZ, 0, none⟩) 1 1) (zs := [5]) (now := 20) (L' := 0) (D := 0) (b := false) (zs' := []) (N := 0) _ (own_blk (n := 1) (xs := [5]) HZ.out rfl rfl (by decide)).row HANS.out.rel.1 HANS.out.rel.2.1 HANS.out.rel.2.2.1 rfl).mono ?_; rintro e w8 ⟨u2, c2, rfl, ho, hg⟩
    clear cT0 cT1 cT2 cT3 cT4 cT5 cS0 cS1
    have HGn := hide (grownBy_trans HG.out hg)
    have HTn := hide (box_grown HT.out hg (by simp))
    have HZn := hide (box_grown HZ.out hg (by simp))
    have HSn := hide (box_grown HS.out hg (by simp))
    have HAn := hide (box_grown HA.out hg (by simp))
    have OAn := hide (OA.out.grown hg)
    clear HG HT HZ HS HA OA
    have HG := HGn
    have HT := HTn
    have HZ := HZn
    have HS := HSn
    have HA := HAn
    have OA := OAn
    clear HGn HTn HZn HSn HAn OAn
    clear hg
    have OY := hide (ho.base (Nat.zero_le _))
    clear ho
    go_upto_region 46 with (first | fail)
    have hg := World.grownBy_alloc w8 (.cells #[.int .i64 0, .slice u2 0 c2] 26) none
    have HYq := hide (heap_alloc_new w8 (.cells #[.int .i64 0, .slice u2 0 c2] 26))
    have LY := hide HG.out.size
    have HGn := hide (grownBy_trans HG.out hg)
    have HTn := hide (box_grown HT.out hg (by simp))
    have HZn := hide (box_grown HZ.out hg (by simp))
    have HSn := hide (box_grown HS.out hg (by simp))
    have HAn := hide (box_grown HA.out hg (by simp))
    have OAn := hide (OA.out.grown hg)
    have OYn := hide (OY.out.grown hg)
    clear HG HT HZ HS HA OA OY
    have HG := HGn
    have HT := HTn
    have HZ := HZn
    have HS := HSn
    have HA := HAn
    have OA := OAn
    have OY := OYn
    clear HGn HTn HZn HSn HAn OAn OYn
    clear hg
    have HY := HYq
    clear HYq
    generalize hWx : w8.alloc (.cells #[.int .i64 0, .slice u2 0 c2] 26) = w9 at *
    generalize hBx : w8.heap.size = BY at *
    clear hWx hBx
    have cT0 : w9.cell? ⟨BT, 0, none⟩ = some (.int .i64 1) := blk_cell HT.out 0
    have cT1 : w9.cell? ⟨BT, 1, none⟩ = some (.int .i64 (1 - d)) := blk_cell HT.out 1
    have cT2 : w9.cell? ⟨BT, 2, none⟩ = some (.int .i64 8) := blk_cell HT.out 2
    have cT3 : w9.cell? ⟨BT, 3, none⟩ = some (.int .i64 2) := blk_cell HT.out 3
    have cT4 : w9.cell? ⟨BT, 4, none⟩ = some (.int .i64 3) := blk_cell HT.out 4
    have cT5 : w9.cell? ⟨BT, 5, none⟩ = some (.int .i64 4) := blk_cell HT.out 5
    go_wp2_with (first | fail)
    refine (may_at (t := ⟨1, 1 - d, 8, 2, 3, 4⟩) (b := false) _ HANS.out.may).mono ?_; rintro e w10 ⟨rfl, hg⟩
    clear cT0 cT1 cT2 cT3 cT4 cT5
    have HGn := hide (grownBy_trans HG.out hg)
    have HTn := hide (box_grown HT.out hg (by simp))
    have HZn := hide (box_grown HZ.out hg (by simp))
    have HSn := hide (box_grown HS.out hg (by simp))
    have HAn := hide (box_grown HA.out hg (by simp))
    have HYn := hide (box_grown HY.out hg (by simp))
    have OAn := hide (OA.out.grown hg)
    have OYn := hide (OY.out.grown hg)
    clear HG HT HZ HS HA HY OA OY
    have HG := HGn
    have HT := HTn
    have HZ := HZn
    have HS := HSn
    have HA := HAn
    have HY := HYn
    have OA := OAn
    have OY := OYn
    clear HGn HTn HZn HSn HAn HYn OAn OYn
    clear hg
    have cA0 : w10.cell? ⟨BA, 0, none⟩ = some (.int .i64 0) := blk_cell HA.out 0
    have cA1 : w10.cell? ⟨BA, 1, none⟩ = some (.slice u1 0 c1) := blk_cell HA.out 1
    go_wp2_with (first | fail)
    refine (sameT_any 0 u1 none 0 0 c1 0 [] _ OA.out.row (rowAt_nil 0 _ none 0)).mono ?_; rintro e w11 ⟨rfl, hg⟩
    clear cA0 cA1
    have HGn := hide (grownBy_trans HG.out hg)
    have HTn := hide (box_grown HT.out hg (by simp))
    have HZn := hide (box_grown HZ.out hg (by simp))
    have HSn := hide (box_grown HS.out hg (by simp))
    have HAn := hide (box_grown HA.out hg (by simp))
    have HYn := hide (box_grown HY.out hg (by simp))
    have OAn := hide (OA.out.grown hg)
    have OYn := hide (OY.out.grown hg)
    clear HG HT HZ HS HA HY OA OY
    have HG := HGn
    have HT := HTn
    have HZ := HZn
    have HS := HSn
    have HA := HAn
    have HY := HYn
    have OA := OAn
    have OY := OYn
    clear HGn HTn HZn HSn HAn HYn OAn OYn
    clear hg
    have cY0 : w11.cell? ⟨BY, 0, none⟩ = some (.int .i64 0) := blk_cell HY.out 0
    have cY1 : w11.cell? ⟨BY, 1, none⟩ = some (.slice u2 0 c2) := blk_cell HY.out 1
    go_wp2_with (first | (go_at_call 14; refine (NUM.out _ _).mono ?_; rintro e wn ⟨rfl, rfl⟩) | fail)
    refine (sameT_any 0 u2 none 0 0 c2 0 [] _ OY.out.row (rowAt_nil 0 _ none 0)).mono ?_; rintro e w12 ⟨rfl, hg⟩
    clear cY0 cY1
    have HGn := hide (grownBy_trans HG.out hg)
    have HTn := hide (box_grown HT.out hg (by simp))
    have HZn := hide (box_grown HZ.out hg (by simp))
    have HSn := hide (box_grown HS.out hg (by simp))
    have HAn := hide (box_grown HA.out hg (by simp))
    have HYn := hide (box_grown HY.out hg (by simp))
    have OAn := hide (OA.out.grown hg)
    have OYn := hide (OY.out.grown hg)
    clear HG HT HZ HS HA HY OA OY
    have HG := HGn
    have HT := HTn
    have HZ := HZn
    have HS := HSn
    have HA := HAn
    have HY := HYn
    have OA := OAn
    have OY := OYn
    clear HGn HTn HZn HSn HAn HYn OAn OYn
    clear hg
    have cT0 : w12.cell? ⟨BT, 0, none⟩ = some (.int .i64 1) := blk_cell HT.out 0
    have cT1 : w12.cell? ⟨BT, 1, none⟩ = some (.int .i64 (1 - d)) := blk_cell HT.out 1
    have cT2 : w12.cell? ⟨BT, 2, none⟩ = some (.int .i64 8) := blk_cell HT.out 2
    have cT3 : w12.cell? ⟨BT, 3, none⟩ = some (.int .i64 2) := blk_cell HT.out 3
    have cT4 : w12.cell? ⟨BT, 4, none⟩ = some (.int .i64 3) := blk_cell HT.out 4
    have cT5 : w12.cell? ⟨BT, 5, none⟩ = some (.int .i64 4) := blk_cell HT.out 5
    have cS0 : w12.cell? ⟨BS, 0, none⟩ = some (.int .i64 1) := blk_cell HS.out 0
    have cS1 : w12.cell? ⟨BS, 1, none⟩ = some (.slice (some ⟨BZ, 0, none⟩) 1 1) := blk_cell HS.out 1
    go_wp2_with (first | fail)
    refine (late_at (t := ⟨1, 1 - d, 8, 2, 3, 4⟩) (L := 1) (zs := [5]) (now := 20) (b := false) _ (own_blk (n := 1) (xs := [5]) HZ.out rfl rfl (by decide)).row HANS.out.rel.2.2.2).mono ?_; rintro e w13 ⟨rfl, hg⟩
    clear cT0 cT1 cT2 cT3 cT4 cT5 cS0 cS1
    have HGn := hide (grownBy_trans HG.out hg)
    have HTn := hide (box_grown HT.out hg (by simp))
    have HZn := hide (box_grown HZ.out hg (by simp))
    have HSn := hide (box_grown HS.out hg (by simp))
    have HAn := hide (box_grown HA.out hg (by simp))
    have HYn := hide (box_grown HY.out hg (by simp))
    have OAn := hide (OA.out.grown hg)
    have OYn := hide (OY.out.grown hg)
    clear HG HT HZ HS HA HY OA OY
    have HG := HGn
    have HT := HTn
    have HZ := HZn
    have HS := HSn
    have HA := HAn
    have HY := HYn
    have OA := OAn
    have OY := OYn
    clear HGn HTn HZn HSn HAn HYn OAn OYn
    clear hg
    go_wp2_with (first | fail)
    go_ret
    exact ⟨rfl, HG.out⟩
  · skip
    have cT1 : w4.cell? ⟨BT, 1, none⟩ = some (.int .i64 9) := blk_cell HT.out 1
    have fT1 := blk_free HT.out 1
    go_upto_region 44 with (first | fail)
    clear cT1 fT1
    have hg := grownBy_set w4 BT 1 (.int .i64 (1024 + d))
    have HGn := hide (grown_spoil HG.out LT.out hg)
    have HZn := hide (box_type HZ.out hg (type_box HT.out) (by decide))
    have HSn := hide (box_type HS.out hg (type_box HT.out) (by decide))
    have HTn := hide (blk_set (j := 1) (u := .int .i64 (1024 + d)) (cs' := #[.int .i64 1, .int .i64 (1024 + d), .int .i64 8, .int .i64 2, .int .i64 3, .int .i64 4]) HT.out rfl)
    clear HG HZ HS HT
    have HG := HGn
    have HZ := HZn
    have HS := HSn
    have HT := HTn
    clear HGn HZn HSn HTn
    clear hg
    generalize hWx : w4.setCell ⟨BT, 1, none⟩ (.int .i64 (1024 + d)) = w5 at *
    clear hWx
    have HANS := hide (fm2 hd1)
    have cT0 : w5.cell? ⟨BT, 0, none⟩ = some (.int .i64 1) := blk_cell HT.out 0
    have cT1 : w5.cell? ⟨BT, 1, none⟩ = some (.int .i64 (1024 + d)) := blk_cell HT.out 1
    have cT2 : w5.cell? ⟨BT, 2, none⟩ = some (.int .i64 8) := blk_cell HT.out 2
    have cT3 : w5.cell? ⟨BT, 3, none⟩ = some (.int .i64 2) := blk_cell HT.out 3
    have cT4 : w5.cell? ⟨BT, 4, none⟩ = some (.int .i64 3) := blk_cell HT.out 4
    have cT5 : w5.cell? ⟨BT, 5, none⟩ = some (.int .i64 4) := blk_cell HT.out 5
    have cS0 : w5.cell? ⟨BS, 0, none⟩ = some (.int .i64 1) := blk_cell HS.out 0
    have cS1 : w5.cell? ⟨BS, 1, none⟩ = some (.slice (some ⟨BZ, 0, none⟩) 1 1) := blk_cell HS.out 1
    go_wp2_with (first | fail)
    refine (pick_at (t := ⟨1, 1024 + d, 8, 2, 3, 4⟩) (L := 1) (v := .slice (some ⟨BZ, 0, none⟩) 1 1) (zs := [5]) (d := 7) (L' := 0) (E := 1100) (zs' := []) (N := 0) _ (own_blk (n := 1) (xs := [5]) HZ.out rfl rfl (by decide)).row HANS.out.pick.1 HANS.out.pick.2 rfl).mono ?_; rintro e w6 ⟨u1, c1, rfl, ho, hg⟩
    clear cT0 cT1 cT2 cT3 cT4 cT5 cS0 cS1
    have HGn := hide (grownBy_trans HG.out hg)
    have HTn := hide (box_grown HT.out hg (by simp))
    have HZn := hide (box_grown HZ.out hg (by simp))
    have HSn := hide (box_grown HS.out hg (by simp))
    clear HG HT HZ HS
    have HG := HGn
    have HT := HTn
    have HZ := HZn
    have HS := HSn
    clear HGn HTn HZn HSn
    clear hg
    have OA := hide (ho.base (Nat.zero_le _))
    clear ho
    go_upto_region 45 with (first | fail)
    have hg := World.grownBy_alloc w6 (.cells #[.int .i64 0, .slice u1 0 c1] 26) none
    have HAq := hide (heap_alloc_new w6 (.cells #[.int .i64 0, .slice u1 0 c1] 26))
    have LA := hide HG.out.size
    have HGn := hide (grownBy_trans HG.out hg)
    have HTn := hide (box_grown HT.out hg (by simp))
    have HZn := hide (box_grown HZ.out hg (by simp))
    have HSn := hide (box_grown HS.out hg (by simp))
    have OAn := hide (OA.out.grown hg)
    clear HG HT HZ HS OA
    have HG := HGn
    have HT := HTn
    have HZ := HZn
    have HS := HSn
    have OA := OAn
    clear HGn HTn HZn HSn OAn
    clear hg
    have HA := HAq
    clear HAq
    generalize hWx : w6.alloc (.cells #[.int .i64 0, .slice u1 0 c1] 26) = w7 at *
    generalize hBx : w6.heap.size = BA at *
    clear hWx hBx
    have cT0 : w7.cell? ⟨BT, 0, none⟩ = some (.int .i64 1) := blk_cell HT.out 0
    have cT1 : w7.cell? ⟨BT, 1, none⟩ = some (.int .i64 (1024 + d)) := blk_cell HT.out 1
    have cT2 : w7.cell? ⟨BT, 2, none⟩ = some (.int .i64 8) := blk_cell HT.out 2
    have cT3 : w7.cell? ⟨BT, 3, none⟩ = some (.int .i64 2) := blk_cell HT.out 3
    have cT4 : w7.cell? ⟨BT, 4, none⟩ = some (.int .i64 3) := blk_cell HT.out 4
    have cT5 : w7.cell? ⟨BT, 5, none⟩ = some (.int .i64 4) := blk_cell HT.out 5
    have cS0 : w7.cell? ⟨BS, 0, none⟩ = some (.int .i64 1) := blk_cell HS.out 0
    have cS1 : w7.cell? ⟨BS, 1, none⟩ = some (.slice (some ⟨BZ, 0, none⟩) 1 1) := blk_cell HS.out 1
    go_wp2_with (first | fail)
    refine (rel_at (t := ⟨1, 1024 + d, 8, 2, 3, 4⟩) (L := 1) (v := .slice (some ⟨BZ, 0, none⟩) 1 1) (zs := [5]) (now := 20) (L' := 0) (D := 0) (b := false) (zs' := []) (N := 0) _ (own_blk (n := 1) (xs := [5]) HZ.out rfl rfl (by decide)).row HANS.out.rel.1 HANS.out.rel.2.1 HANS.out.rel.2.2.1 rfl).mono ?_; rintro e w8 ⟨u2, c2, rfl, ho, hg⟩
    clear cT0 cT1 cT2 cT3 cT4 cT5 cS0 cS1
    have HGn := hide (grownBy_trans HG.out hg)
    have HTn := hide (box_grown HT.out hg (by simp))
    have HZn := hide (box_grown HZ.out hg (by simp))
    have HSn := hide (box_grown HS.out hg (by simp))
    have HAn := hide (box_grown HA.out hg (by simp))
    have OAn := hide (OA.out.grown hg)
    clear HG HT HZ HS HA OA
    have HG := HGn
    have HT := HTn
    have HZ := HZn
    have HS := HSn
    have HA := HAn
    have OA := OAn
    clear HGn HTn HZn HSn HAn OAn
    clear hg
    have OY := hide (ho.base (Nat.zero_le _))
    clear ho
    go_upto_region 46 with (first | fail)
    have hg := World.grownBy_alloc w8 (.cells #[.int .i64 0, .slice u2 0 c2] 26) none
    have HYq := hide (heap_alloc_new w8 (.cells #[.int .i64 0, .slice u2 0 c2] 26))
    have LY := hide HG.out.size
    have HGn := hide (grownBy_trans HG.out hg)
    have HTn := hide (box_grown HT.out hg (by simp))
    have HZn := hide (box_grown HZ.out hg (by simp))
    have HSn := hide (box_grown HS.out hg (by simp))
    have HAn := hide (box_grown HA.out hg (by simp))
    have OAn := hide (OA.out.grown hg)
    have OYn := hide (OY.out.grown hg)
    clear HG HT HZ HS HA OA OY
    have HG := HGn
    have HT := HTn
    have HZ := HZn
    have HS := HSn
    have HA := HAn
    have OA := OAn
    have OY := OYn
    clear HGn HTn HZn HSn HAn OAn OYn
    clear hg
    have HY := HYq
    clear HYq
    generalize hWx : w8.alloc (.cells #[.int .i64 0, .slice u2 0 c2] 26) = w9 at *
    generalize hBx : w8.heap.size = BY at *
    clear hWx hBx
    have cT0 : w9.cell? ⟨BT, 0, none⟩ = some (.int .i64 1) := blk_cell HT.out 0
    have cT1 : w9.cell? ⟨BT, 1, none⟩ = some (.int .i64 (1024 + d)) := blk_cell HT.out 1
    have cT2 : w9.cell? ⟨BT, 2, none⟩ = some (.int .i64 8) := blk_cell HT.out 2
    have cT3 : w9.cell? ⟨BT, 3, none⟩ = some (.int .i64 2) := blk_cell HT.out 3
    have cT4 : w9.cell? ⟨BT, 4, none⟩ = some (.int .i64 3) := blk_cell HT.out 4
    have cT5 : w9.cell? ⟨BT, 5, none⟩ = some (.int .i64 4) := blk_cell HT.out 5
    go_wp2_with (first | fail)
    refine (may_at (t := ⟨1, 1024 + d, 8, 2, 3, 4⟩) (b := false) _ HANS.out.may).mono ?_; rintro e w10 ⟨rfl, hg⟩
    clear cT0 cT1 cT2 cT3 cT4 cT5
    have HGn := hide (grownBy_trans HG.out hg)
    have HTn := hide (box_grown HT.out hg (by simp))
    have HZn := hide (box_grown HZ.out hg (by simp))
    have HSn := hide (box_grown HS.out hg (by simp))
    have HAn := hide (box_grown HA.out hg (by simp))
    have HYn := hide (box_grown HY.out hg (by simp))
    have OAn := hide (OA.out.grown hg)
    have OYn := hide (OY.out.grown hg)
    clear HG HT HZ HS HA HY OA OY
    have HG := HGn
    have HT := HTn
    have HZ := HZn
    have HS := HSn
    have HA := HAn
    have HY := HYn
    have OA := OAn
    have OY := OYn
    clear HGn HTn HZn HSn HAn HYn OAn OYn
    clear hg
    have cA0 : w10.cell? ⟨BA, 0, none⟩ = some (.int .i64 0) := blk_cell HA.out 0
    have cA1 : w10.cell? ⟨BA, 1, none⟩ = some (.slice u1 0 c1) := blk_cell HA.out 1
    go_wp2_with (first | fail)
    refine (sameT_any 0 u1 none 0 0 c1 0 [] _ OA.out.row (rowAt_nil 0 _ none 0)).mono ?_; rintro e w11 ⟨rfl, hg⟩
    clear cA0 cA1
    have HGn := hide (grownBy_trans HG.out hg)
    have HTn := hide (box_grown HT.out hg (by simp))
    have HZn := hide (box_grown HZ.out hg (by simp))
    have HSn := hide (box_grown HS.out hg (by simp))
    have HAn := hide (box_grown HA.out hg (by simp))
    have HYn := hide (box_grown HY.out hg (by simp))
    have OAn := hide (OA.out.grown hg)
    have OYn := hide (OY.out.grown hg)
    clear HG HT HZ HS HA HY OA OY
    have HG := HGn
    have HT := HTn
    have HZ := HZn
    have HS := HSn
    have HA := HAn
    have HY := HYn
    have OA := OAn
    have OY := OYn
    clear HGn HTn HZn HSn HAn HYn OAn OYn
    clear hg
    have cY0 : w11.cell? ⟨BY, 0, none⟩ = some (.int .i64 0) := blk_cell HY.out 0
    have cY1 : w11.cell? ⟨BY, 1, none⟩ = some (.slice u2 0 c2) := blk_cell HY.out 1
    go_wp2_with (first | (go_at_call 14; refine (NUM.out _ _).mono ?_; rintro e wn ⟨rfl, rfl⟩) | fail)
    refine (sameT_any 0 u2 none 0 0 c2 0 [] _ OY.out.row (rowAt_nil 0 _ none 0)).mono ?_; rintro e w12 ⟨rfl, hg⟩
    clear cY0 cY1
    have HGn := hide (grownBy_trans HG.out hg)
    have HTn := hide (box_grown HT.out hg (by simp))
    have HZn := hide (box_grown HZ.out hg (by simp))
    have HSn := hide (box_grown HS.out hg (by simp))
    have HAn := hide (box_grown HA.out hg (by simp))
    have HYn := hide (box_grown HY.out hg (by simp))
    have OAn := hide (OA.out.grown hg)
    have OYn := hide (OY.out.grown hg)
    clear HG HT HZ HS HA HY OA OY
    have HG := HGn
    have HT := HTn
    have HZ := HZn
    have HS := HSn
    have HA := HAn
    have HY := HYn
    have OA := OAn
    have OY := OYn
    clear HGn HTn HZn HSn HAn HYn OAn OYn
    clear hg
    have cT0 : w12.cell? ⟨BT, 0, none⟩ = some (.int .i64 1) := blk_cell HT.out 0
    have cT1 : w12.cell? ⟨BT, 1, none⟩ = some (.int .i64 (1024 + d)) := blk_cell HT.out 1
    have cT2 : w12.cell? ⟨BT, 2, none⟩ = some (.int .i64 8) := blk_cell HT.out 2
    have cT3 : w12.cell? ⟨BT, 3, none⟩ = some (.int .i64 2) := blk_cell HT.out 3
    have cT4 : w12.cell? ⟨BT, 4, none⟩ = some (.int .i64 3) := blk_cell HT.out 4
    have cT5 : w12.cell? ⟨BT, 5, none⟩ = some (.int .i64 4) := blk_cell HT.out 5
    have cS0 : w12.cell? ⟨BS, 0, none⟩ = some (.int .i64 1) := blk_cell HS.out 0
    have cS1 : w12.cell? ⟨BS, 1, none⟩ = some (.slice (some ⟨BZ, 0, none⟩) 1 1) := blk_cell HS.out 1
    go_wp2_with (first | fail)
    refine (late_at (t := ⟨1, 1024 + d, 8, 2, 3, 4⟩) (L := 1) (zs := [5]) (now := 20) (b := false) _ (own_blk (n := 1) (xs := [5]) HZ.out rfl rfl (by decide)).row HANS.out.rel.2.2.2).mono ?_; rintro e w13 ⟨rfl, hg⟩
    clear cT0 cT1 cT2 cT3 cT4 cT5 cS0 cS1
    have HGn := hide (grownBy_trans HG.out hg)
    have HTn := hide (box_grown HT.out hg (by simp))
    have HZn := hide (box_grown HZ.out hg (by simp))
    have HSn := hide (box_grown HS.out hg (by simp))
    have HAn := hide (box_grown HA.out hg (by simp))
    have HYn := hide (box_grown HY.out hg (by simp))
    have OAn := hide (OA.out.grown hg)
    have OYn := hide (OY.out.grown hg)
    clear HG HT HZ HS HA HY OA OY
    have HG := HGn
    have HT := HTn
    have HZ := HZn
    have HS := HSn
    have HA := HAn
    have HY := HYn
    have OA := OAn
    have OY := OYn
    clear HGn HTn HZn HSn HAn HYn OAn OYn
    clear hg
    go_wp2_with (first | fail)
    go_ret
    exact ⟨rfl, HG.out⟩
  · skip
    have cT2 : w4.cell? ⟨BT, 2, none⟩ = some (.int .i64 8) := blk_cell HT.out 2
    have fT2 := blk_free HT.out 2
    go_upto_region 44 with (first | fail)
    clear cT2 fT2
    have hg := grownBy_set w4 BT 2 (.int .i64 (9 + d))
    have HGn := hide (grown_spoil HG.out LT.out hg)
    have HZn := hide (box_type HZ.out hg (type_box HT.out) (by decide))
    have HSn := hide (box_type HS.out hg (type_box HT.out) (by decide))
    have HTn := hide (blk_set (j := 2) (u := .int .i64 (9 + d)) (cs' := #[.int .i64 1, .int .i64 9, .int .i64 (9 + d), .int .i64 2, .int .i64 3, .int .i64 4]) HT.out rfl)
    clear HG HZ HS HT
    have HG := HGn
    have HZ := HZn
    have HS := HSn
    have HT := HTn
    clear HGn HZn HSn HTn
    clear hg
    generalize hWx : w4.setCell ⟨BT, 2, none⟩ (.int .i64 (9 + d)) = w5 at *
    clear hWx
    have HANS := hide (fm3 hd1)
    have cT0 : w5.cell? ⟨BT, 0, none⟩ = some (.int .i64 1) := blk_cell HT.out 0
    have cT1 : w5.cell? ⟨BT, 1, none⟩ = some (.int .i64 9) := blk_cell HT.out 1
    have cT2 : w5.cell? ⟨BT, 2, none⟩ = some (.int .i64 (9 + d)) := blk_cell HT.out 2
    have cT3 : w5.cell? ⟨BT, 3, none⟩ = some (.int .i64 2) := blk_cell HT.out 3
    have cT4 : w5.cell? ⟨BT, 4, none⟩ = some (.int .i64 3) := blk_cell HT.out 4
    have cT5 : w5.cell? ⟨BT, 5, none⟩ = some (.int .i64 4) := blk_cell HT.out 5
    have cS0 : w5.cell? ⟨BS, 0, none⟩ = some (.int .i64 1) := blk_cell HS.out 0
    have cS1 : w5.cell? ⟨BS, 1, none⟩ = some (.slice (some ⟨BZ, 0, none⟩) 1 1) := blk_cell HS.out 1
    go_wp2_with (first | fail)
    refine (pick_at (t := ⟨1, 9, 9 + d, 2, 3, 4⟩) (L := 1) (v := .slice (some ⟨BZ, 0, none⟩) 1 1) (zs := [5]) (d := 7) (L' := 0) (E := 1100) (zs' := []) (N := 0) _ (own_blk (n := 1) (xs := [5]) HZ.out rfl rfl (by decide)).row HANS.out.pick.1 HANS.out.pick.2 rfl).mono ?_; rintro e w6 ⟨u1, c1, rfl, ho, hg⟩
    clear cT0 cT1 cT2 cT3 cT4 cT5 cS0 cS1
    have HGn := hide (grownBy_trans HG.out hg)
    have HTn := hide (box_grown HT.out hg (by simp))
    have HZn := hide (box_grown HZ.out hg (by simp))
    have HSn := hide (box_grown HS.out hg (by simp))
    clear HG HT HZ HS
    have HG := HGn
    have HT := HTn
    have HZ := HZn
    have HS := HSn
    clear HGn HTn HZn HSn
    clear hg
    have OA := hide (ho.base (Nat.zero_le _))
    clear ho
    go_upto_region 45 with (first | fail)
    have hg := World.grownBy_alloc w6 (.cells #[.int .i64 0, .slice u1 0 c1] 26) none
    have HAq := hide (heap_alloc_new w6 (.cells #[.int .i64 0, .slice u1 0 c1] 26))
    have LA := hide HG.out.size
    have HGn := hide (grownBy_trans HG.out hg)
    have HTn := hide (box_grown HT.out hg (by simp))
    have HZn := hide (box_grown HZ.out hg (by simp))
    have HSn := hide (box_grown HS.out hg (by simp))
    have OAn := hide (OA.out.grown hg)
    clear HG HT HZ HS OA
    have HG := HGn
    have HT := HTn
    have HZ := HZn
    have HS := HSn
    have OA := OAn
    clear HGn HTn HZn HSn OAn
    clear hg
    have HA := HAq
    clear HAq
    generalize hWx : w6.alloc (.cells #[.int .i64 0, .slice u1 0 c1] 26) = w7 at *
    generalize hBx : w6.heap.size = BA at *
    clear hWx hBx
    have cT0 : w7.cell? ⟨BT, 0, none⟩ = some (.int .i64 1) := blk_cell HT.out 0
    have cT1 : w7.cell? ⟨BT, 1, none⟩ = some (.int .i64 9) := blk_cell HT.out 1
    have cT2 : w7.cell? ⟨BT, 2, none⟩ = some (.int .i64 (9 + d)) := blk_cell HT.out 2
    have cT3 : w7.cell? ⟨BT, 3, none⟩ = some (.int .i64 2) := blk_cell HT.out 3
    have cT4 : w7.cell? ⟨BT, 4, none⟩ = some (.int .i64 3) := blk_cell HT.out 4
    have cT5 : w7.cell? ⟨BT, 5, none⟩ = some (.int .i64 4) := blk_cell HT.out 5
    have cS0 : w7.cell? ⟨BS, 0, none⟩ = some (.int .i64 1) := blk_cell HS.out 0
    have cS1 : w7.cell? ⟨BS, 1, none⟩ = some (.slice (some ⟨BZ, 0, none⟩) 1 1) := blk_cell HS.out 1
    go_wp2_with (first | fail)
    refine (rel_at (t := ⟨1, 9, 9 + d, 2, 3, 4⟩) (L := 1) (v := .slice (some ⟨BZ, 0, none⟩) 1 1) (zs := [5]) (now := 20) (L' := 0) (D := 0) (b := false) (zs' := []) (N := 0) _ (own_blk (n := 1) (xs := [5]) HZ.out rfl rfl (by decide)).row HANS.out.rel.1 HANS.out.rel.2.1 HANS.out.rel.2.2.1 rfl).mono ?_; rintro e w8 ⟨u2, c2, rfl, ho, hg⟩
    clear cT0 cT1 cT2 cT3 cT4 cT5 cS0 cS1
    have HGn := hide (grownBy_trans HG.out hg)
    have HTn := hide (box_grown HT.out hg (by simp))
    have HZn := hide (box_grown HZ.out hg (by simp))
    have HSn := hide (box_grown HS.out hg (by simp))
    have HAn := hide (box_grown HA.out hg (by simp))
    have OAn := hide (OA.out.grown hg)
    clear HG HT HZ HS HA OA
    have HG := HGn
    have HT := HTn
    have HZ := HZn
    have HS := HSn
    have HA := HAn
    have OA := OAn
    clear HGn HTn HZn HSn HAn OAn
    clear hg
    have OY := hide (ho.base (Nat.zero_le _))
    clear ho
    go_upto_region 46 with (first | fail)
    have hg := World.grownBy_alloc w8 (.cells #[.int .i64 0, .slice u2 0 c2] 26) none
    have HYq := hide (heap_alloc_new w8 (.cells #[.int .i64 0, .slice u2 0 c2] 26))
    have LY := hide HG.out.size
    have HGn := hide (grownBy_trans HG.out hg)
    have HTn := hide (box_grown HT.out hg (by simp))
    have HZn := hide (box_grown HZ.out hg (by simp))
    have HSn := hide (box_grown HS.out hg (by simp))
    have HAn := hide (box_grown HA.out hg (by simp))
    have OAn := hide (OA.out.grown hg)
    have OYn := hide (OY.out.grown hg)
    clear HG HT HZ HS HA OA OY
    have HG := HGn
    have HT := HTn
    have HZ := HZn
    have HS := HSn
    have HA := HAn
    have OA := OAn
    have OY := OYn
    clear HGn HTn HZn HSn HAn OAn OYn
    clear hg
    have HY := HYq
    clear HYq
    generalize hWx : w8.alloc (.cells #[.int .i64 0, .slice u2 0 c2] 26) = w9 at *
    generalize hBx : w8.heap.size = BY at *
    clear hWx hBx
    have cT0 : w9.cell? ⟨BT, 0, none⟩ = some (.int .i64 1) := blk_cell HT.out 0
    have cT1 : w9.cell? ⟨BT, 1, none⟩ = some (.int .i64 9) := blk_cell HT.out 1
    have cT2 : w9.cell? ⟨BT, 2, none⟩ = some (.int .i64 (9 + d)) := blk_cell HT.out 2
    have cT3 : w9.cell? ⟨BT, 3, none⟩ = some (.int .i64 2) := blk_cell HT.out 3
    have cT4 : w9.cell? ⟨BT, 4, none⟩ = some (.int .i64 3) := blk_cell HT.out 4
    have cT5 : w9.cell? ⟨BT, 5, none⟩ = some (.int .i64 4) := blk_cell HT.out 5
    go_wp2_with (first | fail)
    refine (may_at (t := ⟨1, 9, 9 + d, 2, 3, 4⟩) (b := false) _ HANS.out.may).mono ?_; rintro e w10 ⟨rfl, hg⟩
    clear cT0 cT1 cT2 cT3 cT4 cT5
    have HGn := hide (grownBy_trans HG.out hg)
    have HTn := hide (box_grown HT.out hg (by simp))
    have HZn := hide (box_grown HZ.out hg (by simp))
    have HSn := hide (box_grown HS.out hg (by simp))
    have HAn := hide (box_grown HA.out hg (by simp))
    have HYn := hide (box_grown HY.out hg (by simp))
    have OAn := hide (OA.out.grown hg)
    have OYn := hide (OY.out.grown hg)
    clear HG HT HZ HS HA HY OA OY
    have HG := HGn
    have HT := HTn
    have HZ := HZn
    have HS := HSn
    have HA := HAn
    have HY := HYn
    have OA := OAn
    have OY := OYn
    clear HGn HTn HZn HSn HAn HYn OAn OYn
    clear hg
    have cA0 : w10.cell? ⟨BA, 0, none⟩ = some (.int .i64 0) := blk_cell HA.out 0
    have cA1 : w10.cell? ⟨BA, 1, none⟩ = some (.slice u1 0 c1) := blk_cell HA.out 1
    go_wp2_with (first | fail)
    refine (sameT_any 0 u1 none 0 0 c1 0 [] _ OA.out.row (rowAt_nil 0 _ none 0)).mono ?_; rintro e w11 ⟨rfl, hg⟩
    clear cA0 cA1
    have HGn := hide (grownBy_trans HG.out hg)
    have HTn := hide (box_grown HT.out hg (by simp))
    have HZn := hide (box_grown HZ.out hg (by simp))
    have HSn := hide (box_grown HS.out hg (by simp))
    have HAn := hide (box_grown HA.out hg (by simp))
    have HYn := hide (box_grown HY.out hg (by simp))
    have OAn := hide (OA.out.grown hg)
    have OYn := hide (OY.out.grown hg)
    clear HG HT HZ HS HA HY OA OY
    have HG := HGn
    have HT := HTn
    have HZ := HZn
    have HS := HSn
    have HA := HAn
    have HY := HYn
    have OA := OAn
    have OY := OYn
    clear HGn HTn HZn HSn HAn HYn OAn OYn
    clear hg
    have cY0 : w11.cell? ⟨BY, 0, none⟩ = some (.int .i64 0) := blk_cell HY.out 0
    have cY1 : w11.cell? ⟨BY, 1, none⟩ = some (.slice u2 0 c2) := blk_cell HY.out 1
    go_wp2_with (first | (go_at_call 14; refine (NUM.out _ _).mono ?_; rintro e wn ⟨rfl, rfl⟩) | fail)
    refine (sameT_any 0 u2 none 0 0 c2 0 [] _ OY.out.row (rowAt_nil 0 _ none 0)).mono ?_; rintro e w12 ⟨rfl, hg⟩
    clear cY0 cY1
    have HGn := hide (grownBy_trans HG.out hg)
    have HTn := hide (box_grown HT.out hg (by simp))
    have HZn := hide (box_grown HZ.out hg (by simp))
    have HSn := hide (box_grown HS.out hg (by simp))
    have HAn := hide (box_grown HA.out hg (by simp))
    have HYn := hide (box_grown HY.out hg (by simp))
    have OAn := hide (OA.out.grown hg)
    have OYn := hide (OY.out.grown hg)
    clear HG HT HZ HS HA HY OA OY
    have HG := HGn
    have HT := HTn
    have HZ := HZn
    have HS := HSn
    have HA := HAn
    have HY := HYn
    have OA := OAn
    have OY := OYn
    clear HGn HTn HZn HSn HAn HYn OAn OYn
    clear hg
    have cT0 : w12.cell? ⟨BT, 0, none⟩ = some (.int .i64 1) := blk_cell HT.out 0
    have cT1 : w12.cell? ⟨BT, 1, none⟩ = some (.int .i64 9) := blk_cell HT.out 1
    have cT2 : w12.cell? ⟨BT, 2, none⟩ = some (.int .i64 (9 + d)) := blk_cell HT.out 2
    have cT3 : w12.cell? ⟨BT, 3, none⟩ = some (.int .i64 2) := blk_cell HT.out 3
    have cT4 : w12.cell? ⟨BT, 4, none⟩ = some (.int .i64 3) := blk_cell HT.out 4
    have cT5 : w12.cell? ⟨BT, 5, none⟩ = some (.int .i64 4) := blk_cell HT.out 5
    have cS0 : w12.cell? ⟨BS, 0, none⟩ = some (.int .i64 1) := blk_cell HS.out 0
    have cS1 : w12.cell? ⟨BS, 1, none⟩ = some (.slice (some ⟨BZ, 0, none⟩) 1 1) := blk_cell HS.out 1
    go_wp2_with (first | fail)
    refine (late_at (t := ⟨1, 9, 9 + d, 2, 3, 4⟩) (L := 1) (zs := [5]) (now := 20) (b := false) _ (own_blk (n := 1) (xs := [5]) HZ.out rfl rfl (by decide)).row HANS.out.rel.2.2.2).mono ?_; rintro e w13 ⟨rfl, hg⟩
    clear cT0 cT1 cT2 cT3 cT4 cT5 cS0 cS1
    have HGn := hide (grownBy_trans HG.out hg)
    have HTn := hide (box_grown HT.out hg (by simp))
    have HZn := hide (box_grown HZ.out hg (by simp))
    have HSn := hide (box_grown HS.out hg (by simp))
    have HAn := hide (box_grown HA.out hg (by simp))
    have HYn := hide (box_grown HY.out hg (by simp))
    have OAn := hide (OA.out.grown hg)
    have OYn := hide (OY.out.grown hg)
    clear HG HT HZ HS HA HY OA OY
    have HG := HGn
    have HT := HTn
    have HZ := HZn
    have HS := HSn
    have HA := HAn
    have HY := HYn
    have OA := OAn
    have OY := OYn
    clear HGn HTn HZn HSn HAn HYn OAn OYn
    clear hg
    go_wp2_with (first | fail)
    go_ret
    exact ⟨rfl, HG.out⟩
  · skip
    have cT4 : w4.cell? ⟨BT, 4, none⟩ = some (.int .i64 3) := blk_cell HT.out 4
    have fT4 := blk_free HT.out 4
    go_upto_region 44 with (first | fail)
    clear cT4 fT4
    have hg := grownBy_set w4 BT 4 (.int .i64 (8 + d))
    have HGn := hide (grown_spoil HG.out LT.out hg)
    have HZn := hide (box_type HZ.out hg (type_box HT.out) (by decide))
    have HSn := hide (box_type HS.out hg (type_box HT.out) (by decide))
    have HTn := hide (blk_set (j := 4) (u := .int .i64 (8 + d)) (cs' := #[.int .i64 1, .int .i64 9, .int .i64 8, .int .i64 2, .int .i64 (8 + d), .int .i64 4]) HT.out rfl)
    clear HG HZ HS HT
    have HG := HGn
    have HZ := HZn
    have HS := HSn
    have HT := HTn
    clear HGn HZn HSn HTn
    clear hg
    generalize hWx : w4.setCell ⟨BT, 4, none⟩ (.int .i64 (8 + d)) = w5 at *
    clear hWx
    have HANS := hide (fm4 hd1)
    have cT0 : w5.cell? ⟨BT, 0, none⟩ = some (.int .i64 1) := blk_cell HT.out 0
    have cT1 : w5.cell? ⟨BT, 1, none⟩ = some (.int .i64 9) := blk_cell HT.out 1
    have cT2 : w5.cell? ⟨BT, 2, none⟩ = some (.int .i64 8) := blk_cell HT.out 2
    have cT3 : w5.cell? ⟨BT, 3, none⟩ = some (.int .i64 2) := blk_cell HT.out 3
    have cT4 : w5.cell? ⟨BT, 4, none⟩ = some (.int .i64 (8 + d)) := blk_cell HT.out 4
    have cT5 : w5.cell? ⟨BT, 5, none⟩ = some (.int .i64 4) := blk_cell HT.out 5
    have cS0 : w5.cell? ⟨BS, 0, none⟩ = some (.int .i64 1) := blk_cell HS.out 0
    have cS1 : w5.cell? ⟨BS, 1, none⟩ = some (.slice (some ⟨BZ, 0, none⟩) 1 1) := blk_cell HS.out 1
    go_wp2_with (first | fail)
    refine (pick_at (t := ⟨1, 9, 8, 2, 8 + d, 4⟩) (L := 1) (v := .slice (some ⟨BZ, 0, none⟩) 1 1) (zs := [5]) (d := 7) (L' := 0) (E := 1100) (zs' := []) (N := 0) _ (own_blk (n := 1) (xs := [5]) HZ.out rfl rfl (by decide)).row HANS.out.pick.1 HANS.out.pick.2 rfl).mono ?_; rintro e w6 ⟨u1, c1, rfl, ho, hg⟩
    clear cT0 cT1 cT2 cT3 cT4 cT5 cS0 cS1
    have HGn := hide (grownBy_trans HG.out hg)
    have HTn := hide (box_grown HT.out hg (by simp))
    have HZn := hide (box_grown HZ.out hg (by simp))
    have HSn := hide (box_grown HS.out hg (by simp))
    clear HG HT HZ HS
    have HG := HGn
    have HT := HTn
    have HZ := HZn
    have HS := HSn
    clear HGn HTn HZn HSn
    clear hg
    have OA := hide (ho.base (Nat.zero_le _))
    clear ho
    go_upto_region 45 with (first | fail)
    have hg := World.grownBy_alloc w6 (.cells #[.int .i64 0, .slice u1 0 c1] 26) none
    have HAq := hide (heap_alloc_new w6 (.cells #[.int .i64 0, .slice u1 0 c1] 26))
    have LA := hide HG.out.size
    have HGn := hide (grownBy_trans HG.out hg)
    have HTn := hide (box_grown HT.out hg (by simp))
    have HZn := hide (box_grown HZ.out hg (by simp))
    have HSn := hide (box_grown HS.out hg (by simp))
    have OAn := hide (OA.out.grown hg)
    clear HG HT HZ HS OA
    have HG := HGn
    have HT := HTn
    have HZ := HZn
    have HS := HSn
    have OA := OAn
    clear HGn HTn HZn HSn OAn
    clear hg
    have HA := HAq
    clear HAq
    generalize hWx : w6.alloc (.cells #[.int .i64 0, .slice u1 0 c1] 26) = w7 at *
    generalize hBx : w6.heap.size = BA at *
    clear hWx hBx
    have cT0 : w7.cell? ⟨BT, 0, none⟩ = some (.int .i64 1) := blk_cell HT.out 0
    have cT1 : w7.cell? ⟨BT, 1, none⟩ = some (.int .i64 9) := blk_cell HT.out 1
    have cT2 : w7.cell? ⟨BT, 2, none⟩ = some (.int .i64 8) := blk_cell HT.out 2
    have cT3 : w7.cell? ⟨BT, 3, none⟩ = some (.int .i64 2) := blk_cell HT.out 3
    have cT4 : w7.cell? ⟨BT, 4, none⟩ = some (.int .i64 (8 + d)) := blk_cell HT.out 4
    have cT5 : w7.cell? ⟨BT, 5, none⟩ = some (.int .i64 4) := blk_cell HT.out 5
    have cS0 : w7.cell? ⟨BS, 0, none⟩ = some (.int .i64 1) := blk_cell HS.out 0
    have cS1 : w7.cell? ⟨BS, 1, none⟩ = some (.slice (some ⟨BZ, 0, none⟩) 1 1) := blk_cell HS.out 1
    go_wp2_with (first | fail)
    refine (rel_at (t := ⟨1, 9, 8, 2, 8 + d, 4⟩) (L := 1) (v := .slice (some ⟨BZ, 0, none⟩) 1 1) (zs := [5]) (now := 20) (L' := 0) (D := 0) (b := false) (zs' := []) (N := 0) _ (own_blk (n := 1) (xs := [5]) HZ.out rfl rfl (by decide)).row HANS.out.rel.1 HANS.out.rel.2.1 HANS.out.rel.2.2.1 rfl).mono ?_; rintro e w8 ⟨u2, c2, rfl, ho, hg⟩
    clear cT0 cT1 cT2 cT3 cT4 cT5 cS0 cS1
    have HGn := hide (grownBy_trans HG.out hg)
    have HTn := hide (box_grown HT.out hg (by simp))
    have HZn := hide (box_grown HZ.out hg (by simp))
    have HSn := hide (box_grown HS.out hg (by simp))
    have HAn := hide (box_grown HA.out hg (by simp))
    have OAn := hide (OA.out.grown hg)
    clear HG HT HZ HS HA OA
    have HG := HGn
    have HT := HTn
    have HZ := HZn
    have HS := HSn
    have HA := HAn
    have OA := OAn
    clear HGn HTn HZn HSn HAn OAn
    clear hg
    have OY := hide (ho.base (Nat.zero_le _))
    clear ho
    go_upto_region 46 with (first | fail)
    have hg := World.grownBy_alloc w8 (.cells #[.int .i64 0, .slice u2 0 c2] 26) none
    have HYq := hide (heap_alloc_new w8 (.cells #[.int .i64 0, .slice u2 0 c2] 26))
    have LY := hide HG.out.size
    have HGn := hide (grownBy_trans HG.out hg)
    have HTn := hide (box_grown HT.out hg (by simp))
    have HZn := hide (box_grown HZ.out hg (by simp))
    have HSn := hide (box_grown HS.out hg (by simp))
    have HAn := hide (box_grown HA.out hg (by simp))
    have OAn := hide (OA.out.grown hg)
    have OYn := hide (OY.out.grown hg)
    clear HG HT HZ HS HA OA OY
    have HG := HGn
    have HT := HTn
    have HZ := HZn
    have HS := HSn
    have HA := HAn
    have OA := OAn
    have OY := OYn
    clear HGn HTn HZn HSn HAn OAn OYn
    clear hg
    have HY := HYq
    clear HYq
    generalize hWx : w8.alloc (.cells #[.int .i64 0, .slice u2 0 c2] 26) = w9 at *
    generalize hBx : w8.heap.size = BY at *
    clear hWx hBx
    have cT0 : w9.cell? ⟨BT, 0, none⟩ = some (.int .i64 1) := blk_cell HT.out 0
    have cT1 : w9.cell? ⟨BT, 1, none⟩ = some (.int .i64 9) := blk_cell HT.out 1
    have cT2 : w9.cell? ⟨BT, 2, none⟩ = some (.int .i64 8) := blk_cell HT.out 2
    have cT3 : w9.cell? ⟨BT, 3, none⟩ = some (.int .i64 2) := blk_cell HT.out 3
    have cT4 : w9.cell? ⟨BT, 4, none⟩ = some (.int .i64 (8 + d)) := blk_cell HT.out 4
    have cT5 : w9.cell? ⟨BT, 5, none⟩ = some (.int .i64 4) := blk_cell HT.out 5
    go_wp2_with (first | fail)
    refine (may_at (t := ⟨1, 9, 8, 2, 8 + d, 4⟩) (b := false) _ HANS.out.may).mono ?_; rintro e w10 ⟨rfl, hg⟩
    clear cT0 cT1 cT2 cT3 cT4 cT5
    have HGn := hide (grownBy_trans HG.out hg)
    have HTn := hide (box_grown HT.out hg (by simp))
    have HZn := hide (box_grown HZ.out hg (by simp))
    have HSn := hide (box_grown HS.out hg (by simp))
    have HAn := hide (box_grown HA.out hg (by simp))
    have HYn := hide (box_grown HY.out hg (by simp))
    have OAn := hide (OA.out.grown hg)
    have OYn := hide (OY.out.grown hg)
    clear HG HT HZ HS HA HY OA OY
    have HG := HGn
    have HT := HTn
    have HZ := HZn
    have HS := HSn
    have HA := HAn
    have HY := HYn
    have OA := OAn
    have OY := OYn
    clear HGn HTn HZn HSn HAn HYn OAn OYn
    clear hg
    have cA0 : w10.cell? ⟨BA, 0, none⟩ = some (.int .i64 0) := blk_cell HA.out 0
    have cA1 : w10.cell? ⟨BA, 1, none⟩ = some (.slice u1 0 c1) := blk_cell HA.out 1
    go_wp2_with (first | fail)
    refine (sameT_any 0 u1 none 0 0 c1 0 [] _ OA.out.row (rowAt_nil 0 _ none 0)).mono ?_; rintro e w11 ⟨rfl, hg⟩
    clear cA0 cA1
    have HGn := hide (grownBy_trans HG.out hg)
    have HTn := hide (box_grown HT.out hg (by simp))
    have HZn := hide (box_grown HZ.out hg (by simp))
    have HSn := hide (box_grown HS.out hg (by simp))
    have HAn := hide (box_grown HA.out hg (by simp))
    have HYn := hide (box_grown HY.out hg (by simp))
    have OAn := hide (OA.out.grown hg)
    have OYn := hide (OY.out.grown hg)
    clear HG HT HZ HS HA HY OA OY
    have HG := HGn
    have HT := HTn
    have HZ := HZn
    have HS := HSn
    have HA := HAn
    have HY := HYn
    have OA := OAn
    have OY := OYn
    clear HGn HTn HZn HSn HAn HYn OAn OYn
    clear hg
    have cY0 : w11.cell? ⟨BY, 0, none⟩ = some (.int .i64 0) := blk_cell HY.out 0
    have cY1 : w11.cell? ⟨BY, 1, none⟩ = some (.slice u2 0 c2) := blk_cell HY.out 1
    go_wp2_with (first | (go_at_call 14; refine (NUM.out _ _).mono ?_; rintro e wn ⟨rfl, rfl⟩) | fail)
    refine (sameT_any 0 u2 none 0 0 c2 0 [] _ OY.out.row (rowAt_nil 0 _ none 0)).mono ?_; rintro e w12 ⟨rfl, hg⟩
    clear cY0 cY1
    have HGn := hide (grownBy_trans HG.out hg)
    have HTn := hide (box_grown HT.out hg (by simp))
    have HZn := hide (box_grown HZ.out hg (by simp))
    have HSn := hide (box_grown HS.out hg (by simp))
    have HAn := hide (box_grown HA.out hg (by simp))
    have HYn := hide (box_grown HY.out hg (by simp))
    have OAn := hide (OA.out.grown hg)
    have OYn := hide (OY.out.grown hg)
    clear HG HT HZ HS HA HY OA OY
    have HG := HGn
    have HT := HTn
    have HZ := HZn
    have HS := HSn
    have HA := HAn
    have HY := HYn
    have OA := OAn
    have OY := OYn
    clear HGn HTn HZn HSn HAn HYn OAn OYn
    clear hg
    have cT0 : w12.cell? ⟨BT, 0, none⟩ = some (.int .i64 1) := blk_cell HT.out 0
    have cT1 : w12.cell? ⟨BT, 1, none⟩ = some (.int .i64 9) := blk_cell HT.out 1
    have cT2 : w12.cell? ⟨BT, 2, none⟩ = some (.int .i64 8) := blk_cell HT.out 2
    have cT3 : w12.cell? ⟨BT, 3, none⟩ = some (.int .i64 2) := blk_cell HT.out 3
    have cT4 : w12.cell? ⟨BT, 4, none⟩ = some (.int .i64 (8 + d)) := blk_cell HT.out 4
    have cT5 : w12.cell? ⟨BT, 5, none⟩ = some (.int .i64 4) := blk_cell HT.out 5
    have cS0 : w12.cell? ⟨BS, 0, none⟩ = some (.int .i64 1) := blk_cell HS.out 0
    have cS1 : w12.cell? ⟨BS, 1, none⟩ = some (.slice (some ⟨BZ, 0, none⟩) 1 1) := blk_cell HS.out 1
    go_wp2_with (first | fail)
    refine (late_at (t := ⟨1, 9, 8, 2, 8 + d, 4⟩) (L := 1) (zs := [5]) (now := 20) (b := false) _ (own_blk (n := 1) (xs := [5]) HZ.out rfl rfl (by decide)).row HANS.out.rel.2.2.2).mono ?_; rintro e w13 ⟨rfl, hg⟩
    clear cT0 cT1 cT2 cT3 cT4 cT5 cS0 cS1
    have HGn := hide (grownBy_trans HG.out hg)
    have HTn := hide (box_grown HT.out hg (by simp))
    have HZn := hide (box_grown HZ.out hg (by simp))
    have HSn := hide (box_grown HS.out hg (by simp))
    have HAn := hide (box_grown HA.out hg (by simp))
    have HYn := hide (box_grown HY.out hg (by simp))
    have OAn := hide (OA.out.grown hg)
    have OYn := hide (OY.out.grown hg)
    clear HG HT HZ HS HA HY OA OY
    have HG := HGn
    have HT := HTn
    have HZ := HZn
    have HS := HSn
    have HA := HAn
    have HY := HYn
    have OA := OAn
    have OY := OYn
    clear HGn HTn HZn HSn HAn HYn OAn OYn
    clear hg
    go_wp2_with (first | fail)
    go_ret
    exact ⟨rfl, HG.out⟩
  · skip
    have cT3 : w4.cell? ⟨BT, 3, none⟩ = some (.int .i64 2) := blk_cell HT.out 3
    have fT3 := blk_free HT.out 3
    go_upto_region 44 with (first | fail)
    clear cT3 fT3
    have hg := grownBy_set w4 BT 3 (.int .i64 (3 + d))
    have HGn := hide (grown_spoil HG.out LT.out hg)
    have HZn := hide (box_type HZ.out hg (type_box HT.out) (by decide))
    have HSn := hide (box_type HS.out hg (type_box HT.out) (by decide))
    have HTn := hide (blk_set (j := 3) (u := .int .i64 (3 + d)) (cs' := #[.int .i64 1, .int .i64 9, .int .i64 8, .int .i64 (3 + d), .int .i64 3, .int .i64 4]) HT.out rfl)
    clear HG HZ HS HT
    have HG := HGn
    have HZ := HZn
    have HS := HSn
    have HT := HTn
    clear HGn HZn HSn HTn
    clear hg
    generalize hWx : w4.setCell ⟨BT, 3, none⟩ (.int .i64 (3 + d)) = w5 at *
    clear hWx
    have HANS := hide (fm5 hd1)
    have cT0 : w5.cell? ⟨BT, 0, none⟩ = some (.int .i64 1) := blk_cell HT.out 0
    have cT1 : w5.cell? ⟨BT, 1, none⟩ = some (.int .i64 9) := blk_cell HT.out 1
    have cT2 : w5.cell? ⟨BT, 2, none⟩ = some (.int .i64 8) := blk_cell HT.out 2
    have cT3 : w5.cell? ⟨BT, 3, none⟩ = some (.int .i64 (3 + d)) := blk_cell HT.out 3
    have cT4 : w5.cell? ⟨BT, 4, none⟩ = some (.int .i64 3) := blk_cell HT.out 4
    have cT5 : w5.cell? ⟨BT, 5, none⟩ = some (.int .i64 4) := blk_cell HT.out 5
    have cS0 : w5.cell? ⟨BS, 0, none⟩ = some (.int .i64 1) := blk_cell HS.out 0
    have cS1 : w5.cell? ⟨BS, 1, none⟩ = some (.slice (some ⟨BZ, 0, none⟩) 1 1) := blk_cell HS.out 1
    go_wp2_with (first | fail)
    refine (pick_at (t := ⟨1, 9, 8, 3 + d, 3, 4⟩) (L := 1) (v := .slice (some ⟨BZ, 0, none⟩) 1 1) (zs := [5]) (d := 7) (L' := 0) (E := 1100) (zs' := []) (N := 0) _ (own_blk (n := 1) (xs := [5]) HZ.out rfl rfl (by decide)).row HANS.out.pick.1 HANS.out.pick.2 rfl).mono ?_; rintro e w6 ⟨u1, c1, rfl, ho, hg⟩
    clear cT0 cT1 cT2 cT3 cT4 cT5 cS0 cS1
    have HGn := hide (grownBy_trans HG.out hg)
    have HTn := hide (box_grown HT.out hg (by simp))
    have HZn := hide (box_grown HZ.out hg (by simp))
    have HSn := hide (box_grown HS.out hg (by simp))
    clear HG HT HZ HS
    have HG := HGn
    have HT := HTn
    have HZ := HZn
    have HS := HSn
    clear HGn HTn HZn HSn
    clear hg
    have OA := hide (ho.base (Nat.zero_le _))
    clear ho
    go_upto_region 45 with (first | fail)
    have hg := World.grownBy_alloc w6 (.cells #[.int .i64 0, .slice u1 0 c1] 26) none
    have HAq := hide (heap_alloc_new w6 (.cells #[.int .i64 0, .slice u1 0 c1] 26))
    have LA := hide HG.out.size
    have HGn := hide (grownBy_trans HG.out hg)
    have HTn := hide (box_grown HT.out hg (by simp))
    have HZn := hide (box_grown HZ.out hg (by simp))
    have HSn := hide (box_grown HS.out hg (by simp))
    have OAn := hide (OA.out.grown hg)
    clear HG HT HZ HS OA
    have HG := HGn
    have HT := HTn
    have HZ := HZn
    have HS := HSn
    have OA := OAn
    clear HGn HTn HZn HSn OAn
    clear hg
    have HA := HAq
    clear HAq
    generalize hWx : w6.alloc (.cells #[.int .i64 0, .slice u1 0 c1] 26) = w7 at *
    generalize hBx : w6.heap.size = BA at *
    clear hWx hBx
    have cT0 : w7.cell? ⟨BT, 0, none⟩ = some (.int .i64 1) := blk_cell HT.out 0
    have cT1 : w7.cell? ⟨BT, 1, none⟩ = some (.int .i64 9) := blk_cell HT.out 1
    have cT2 : w7.cell? ⟨BT, 2, none⟩ = some (.int .i64 8) := blk_cell HT.out 2
    have cT3 : w7.cell? ⟨BT, 3, none⟩ = some (.int .i64 (3 + d)) := blk_cell HT.out 3
    have cT4 : w7.cell? ⟨BT, 4, none⟩ = some (.int .i64 3) := blk_cell HT.out 4
    have cT5 : w7.cell? ⟨BT, 5, none⟩ = some (.int .i64 4) := blk_cell HT.out 5
    have cS0 : w7.cell? ⟨BS, 0, none⟩ = some (.int .i64 1) := blk_cell HS.out 0
    have cS1 : w7.cell? ⟨BS, 1, none⟩ = some (.slice (some ⟨BZ, 0, none⟩) 1 1) := blk_cell HS.out 1
    go_wp2_with (first | fail)
    refine (rel_at (t := ⟨1, 9, 8, 3 + d, 3, 4⟩) (L := 1) (v := .slice (some ⟨BZ, 0, none⟩) 1 1) (zs := [5]) (now := 20) (L' := 0) (D := 0) (b := false) (zs' := []) (N := 0) _ (own_blk (n := 1) (xs := [5]) HZ.out rfl rfl (by decide)).row HANS.out.rel.1 HANS.out.rel.2.1 HANS.out.rel.2.2.1 rfl).mono ?_; rintro e w8 ⟨u2, c2, rfl, ho, hg⟩
    clear cT0 cT1 cT2 cT3 cT4 cT5 cS0 cS1
    have HGn := hide (grownBy_trans HG.out hg)
    have HTn := hide (box_grown HT.out hg (by simp))
    have HZn := hide (box_grown HZ.out hg (by simp))
    have HSn := hide (box_grown HS.out hg (by simp))
    have HAn := hide (box_grown HA.out hg (by simp))
    have OAn := hide (OA.out.grown hg)
    clear HG HT HZ HS HA OA
    have HG := HGn
    have HT := HTn
    have HZ := HZn
    have HS := HSn
    have HA := HAn
    have OA := OAn
    clear HGn HTn HZn HSn HAn OAn
    clear hg
    have OY := hide (ho.base (Nat.zero_le _))
    clear ho
    go_upto_region 46 with (first | fail)
    have hg := World.grownBy_alloc w8 (.cells #[.int .i64 0, .slice u2 0 c2] 26) none
    have HYq := hide (heap_alloc_new w8 (.cells #[.int .i64 0, .slice u2 0 c2] 26))
    have LY := hide HG.out.size
    have HGn := hide (grownBy_trans HG.out hg)
    have HTn := hide (box_grown HT.out hg (by simp))
    have HZn := hide (box_grown HZ.out hg (by simp))
    have HSn := hide (box_grown HS.out hg (by simp))
    have HAn := hide (box_grown HA.out hg (by simp))
    have OAn := hide (OA.out.grown hg)
    have OYn := hide (OY.out.grown hg)
    clear HG HT HZ HS HA OA OY
    have HG := HGn
    have HT := HTn
    have HZ := HZn
    have HS := HSn
    have HA := HAn
    have OA := OAn
    have OY := OYn
    clear HGn HTn HZn HSn HAn OAn OYn
    clear hg
    have HY := HYq
    clear HYq
    generalize hWx : w8.alloc (.cells #[.int .i64 0, .slice u2 0 c2] 26) = w9 at *
    generalize hBx : w8.heap.size = BY at *
    clear hWx hBx
    have cT0 : w9.cell? ⟨BT, 0, none⟩ = some (.int .i64 1) := blk_cell HT.out 0
    have cT1 : w9.cell? ⟨BT, 1, none⟩ = some (.int .i64 9) := blk_cell HT.out 1
    have cT2 : w9.cell? ⟨BT, 2, none⟩ = some (.int .i64 8) := blk_cell HT.out 2
    have cT3 : w9.cell? ⟨BT, 3, none⟩ = some (.int .i64 (3 + d)) := blk_cell HT.out 3
    have cT4 : w9.cell? ⟨BT, 4, none⟩ = some (.int .i64 3) := blk_cell HT.out 4
    have cT5 : w9.cell? ⟨BT, 5, none⟩ = some (.int .i64 4) := blk_cell HT.out 5
    go_wp2_with (first | fail)
    refine (may_at (t := ⟨1, 9, 8, 3 + d, 3, 4⟩) (b := false) _ HANS.out.may).mono ?_; rintro e w10 ⟨rfl, hg⟩
    clear cT0 cT1 cT2 cT3 cT4 cT5
    have HGn := hide (grownBy_trans HG.out hg)
    have HTn := hide (box_grown HT.out hg (by simp))
    have HZn := hide (box_grown HZ.out hg (by simp))
    have HSn := hide (box_grown HS.out hg (by simp))
    have HAn := hide (box_grown HA.out hg (by simp))
    have HYn := hide (box_grown HY.out hg (by simp))
    have OAn := hide (OA.out.grown hg)
    have OYn := hide (OY.out.grown hg)
    clear HG HT HZ HS HA HY OA OY
    have HG := HGn
    have HT := HTn
    have HZ := HZn
    have HS := HSn
    have HA := HAn
    have HY := HYn
    have OA := OAn
    have OY := OYn
    clear HGn HTn HZn HSn HAn HYn OAn OYn
    clear hg
    have cA0 : w10.cell? ⟨BA, 0, none⟩ = some (.int .i64 0) := blk_cell HA.out 0
    have cA1 : w10.cell? ⟨BA, 1, none⟩ = some (.slice u1 0 c1) := blk_cell HA.out 1
    go_wp2_with (first | fail)
    refine (sameT_any 0 u1 none 0 0 c1 0 [] _ OA.out.row (rowAt_nil 0 _ none 0)).mono ?_; rintro e w11 ⟨rfl, hg⟩
    clear cA0 cA1
    have HGn := hide (grownBy_trans HG.out hg)
    have HTn := hide (box_grown HT.out hg (by simp))
    have HZn := hide (box_grown HZ.out hg (by simp))
    have HSn := hide (box_grown HS.out hg (by simp))
    have HAn := hide (box_grown HA.out hg (by simp))
    have HYn := hide (box_grown HY.out hg (by simp))
    have OAn := hide (OA.out.grown hg)
    have OYn := hide (OY.out.grown hg)
    clear HG HT HZ HS HA HY OA OY
    have HG := HGn
    have HT := HTn
    have HZ := HZn
    have HS := HSn
    have HA := HAn
    have HY := HYn
    have OA := OAn
    have OY := OYn
    clear HGn HTn HZn HSn HAn HYn OAn OYn
    clear hg
    have cY0 : w11.cell? ⟨BY, 0, none⟩ = some (.int .i64 0) := blk_cell HY.out 0
    have cY1 : w11.cell? ⟨BY, 1, none⟩ = some (.slice u2 0 c2) := blk_cell HY.out 1
    go_wp2_with (first | (go_at_call 14; refine (NUM.out _ _).mono ?_; rintro e wn ⟨rfl, rfl⟩) | fail)
    refine (sameT_any 0 u2 none 0 0 c2 0 [] _ OY.out.row (rowAt_nil 0 _ none 0)).mono ?_; rintro e w12 ⟨rfl, hg⟩
    clear cY0 cY1
    have HGn := hide (grownBy_trans HG.out hg)
    have HTn := hide (box_grown HT.out hg (by simp))
    have HZn := hide (box_grown HZ.out hg (by simp))
    have HSn := hide (box_grown HS.out hg (by simp))
    have HAn := hide (box_grown HA.out hg (by simp))
    have HYn := hide (box_grown HY.out hg (by simp))
    have OAn := hide (OA.out.grown hg)
    have OYn := hide (OY.out.grown hg)
    clear HG HT HZ HS HA HY OA OY
    have HG := HGn
    have HT := HTn
    have HZ := HZn
    have HS := HSn
    have HA := HAn
    have HY := HYn
    have OA := OAn
    have OY := OYn
    clear HGn HTn HZn HSn HAn HYn OAn OYn
    clear hg
    have cT0 : w12.cell? ⟨BT, 0, none⟩ = some (.int .i64 1) := blk_cell HT.out 0
    have cT1 : w12.cell? ⟨BT, 1, none⟩ = some (.int .i64 9) := blk_cell HT.out 1
    have cT2 : w12.cell? ⟨BT, 2, none⟩ = some (.int .i64 8) := blk_cell HT.out 2
    have cT3 : w12.cell? ⟨BT, 3, none⟩ = some (.int .i64 (3 + d)) := blk_cell HT.out 3
    have cT4 : w12.cell? ⟨BT, 4, none⟩ = some (.int .i64 3) := blk_cell HT.out 4
    have cT5 : w12.cell? ⟨BT, 5, none⟩ = some (.int .i64 4) := blk_cell HT.out 5
    have cS0 : w12.cell? ⟨BS, 0, none⟩ = some (.int .i64 1) := blk_cell HS.out 0
    have cS1 : w12.cell? ⟨BS, 1, none⟩ = some (.slice (some ⟨BZ, 0, none⟩) 1 1) := blk_cell HS.out 1
    go_wp2_with (first | fail)
    refine (late_at (t := ⟨1, 9, 8, 3 + d, 3, 4⟩) (L := 1) (zs := [5]) (now := 20) (b := false) _ (own_blk (n := 1) (xs := [5]) HZ.out rfl rfl (by decide)).row HANS.out.rel.2.2.2).mono ?_; rintro e w13 ⟨rfl, hg⟩
    clear cT0 cT1 cT2 cT3 cT4 cT5 cS0 cS1
    have HGn := hide (grownBy_trans HG.out hg)
    have HTn := hide (box_grown HT.out hg (by simp))
    have HZn := hide (box_grown HZ.out hg (by simp))
    have HSn := hide (box_grown HS.out hg (by simp))
    have HAn := hide (box_grown HA.out hg (by simp))
    have HYn := hide (box_grown HY.out hg (by simp))
    have OAn := hide (OA.out.grown hg)
    have OYn := hide (OY.out.grown hg)
    clear HG HT HZ HS HA HY OA OY
    have HG := HGn
    have HT := HTn
    have HZ := HZn
    have HS := HSn
    have HA := HAn
    have HY := HYn
    have OA := OAn
    have OY := OYn
    clear HGn HTn HZn HSn HAn HYn OAn OYn
    clear hg
    go_wp2_with (first | fail)
    go_ret
    exact ⟨rfl, HG.out⟩
  · skip
    have cT3 : w4.cell? ⟨BT, 3, none⟩ = some (.int .i64 2) := blk_cell HT.out 3
    have fT3 := blk_free HT.out 3
    go_upto_region 44 with (first | fail)
    clear cT3 fT3
    have hg := grownBy_set w4 BT 3 (.int .i64 (1 - d))
    have HGn := hide (grown_spoil HG.out LT.out hg)
    have HZn := hide (box_type HZ.out hg (type_box HT.out) (by decide))
    have HSn := hide (box_type HS.out hg (type_box HT.out) (by decide))
    have HTn := hide (blk_set (j := 3) (u := .int .i64 (1 - d)) (cs' := #[.int .i64 1, .int .i64 9, .int .i64 8, .int .i64 (1 - d), .int .i64 3, .int .i64 4]) HT.out rfl)
    clear HG HZ HS HT
    have HG := HGn
    have HZ := HZn
    have HS := HSn
    have HT := HTn
    clear HGn HZn HSn HTn
    clear hg
    generalize hWx : w4.setCell ⟨BT, 3, none⟩ (.int .i64 (1 - d)) = w5 at *
    clear hWx
    have HANS := hide (fm6 hd1)
    have cT0 : w5.cell? ⟨BT, 0, none⟩ = some (.int .i64 1) := blk_cell HT.out 0
    have cT1 : w5.cell? ⟨BT, 1, none⟩ = some (.int .i64 9) := blk_cell HT.out 1
    have cT2 : w5.cell? ⟨BT, 2, none⟩ = some (.int .i64 8) := blk_cell HT.out 2
    have cT3 : w5.cell? ⟨BT, 3, none⟩ = some (.int .i64 (1 - d)) := blk_cell HT.out 3
    have cT4 : w5.cell? ⟨BT, 4, none⟩ = some (.int .i64 3) := blk_cell HT.out 4
    have cT5 : w5.cell? ⟨BT, 5, none⟩ = some (.int .i64 4) := blk_cell HT.out 5
    have cS0 : w5.cell? ⟨BS, 0, none⟩ = some (.int .i64 1) := blk_cell HS.out 0
    have cS1 : w5.cell? ⟨BS, 1, none⟩ = some (.slice (some ⟨BZ, 0, none⟩) 1 1) := blk_cell HS.out 1
    go_wp2_with (first | fail)
    refine (pick_at (t := ⟨1, 9, 8, 1 - d, 3, 4⟩) (L := 1) (v := .slice (some ⟨BZ, 0, none⟩) 1 1) (zs := [5]) (d := 7) (L' := 0) (E := 1100) (zs' := []) (N := 0) _ (own_blk (n := 1) (xs := [5]) HZ.out rfl rfl (by decide)).row HANS.out.pick.1 HANS.out.pick.2 rfl).mono ?_; rintro e w6 ⟨u1, c1, rfl, ho, hg⟩
    clear cT0 cT1 cT2 cT3 cT4 cT5 cS0 cS1
    have HGn := hide (grownBy_trans HG.out hg)
    have HTn := hide (box_grown HT.out hg (by simp))
    have HZn := hide (box_grown HZ.out hg (by simp))
    have HSn := hide (box_grown HS.out hg (by simp))
    clear HG HT HZ HS
    have HG := HGn
    have HT := HTn
    have HZ := HZn
    have HS := HSn
    clear HGn HTn HZn HSn
    clear hg
    have OA := hide (ho.base (Nat.zero_le _))
    clear ho
    go_upto_region 45 with (first | fail)
    have hg := World.grownBy_alloc w6 (.cells #[.int .i64 0, .slice u1 0 c1] 26) none
    have HAq := hide (heap_alloc_new w6 (.cells #[.int .i64 0, .slice u1 0 c1] 26))
    have LA := hide HG.out.size
    have HGn := hide (grownBy_trans HG.out hg)
    have HTn := hide (box_grown HT.out hg (by simp))
    have HZn := hide (box_grown HZ.out hg (by simp))
    have HSn := hide (box_grown HS.out hg (by simp))
    have OAn := hide (OA.out.grown hg)
    clear HG HT HZ HS OA
    have HG := HGn
    have HT := HTn
    have HZ := HZn
    have HS := HSn
    have OA := OAn
    clear HGn HTn HZn HSn OAn
    clear hg
    have HA := HAq
    clear HAq
    generalize hWx : w6.alloc (.cells #[.int .i64 0, .slice u1 0 c1] 26) = w7 at *
    generalize hBx : w6.heap.size = BA at *
    clear hWx hBx
    have cT0 : w7.cell? ⟨BT, 0, none⟩ = some (.int .i64 1) := blk_cell HT.out 0
    have cT1 : w7.cell? ⟨BT, 1, none⟩ = some (.int .i64 9) := blk_cell HT.out 1
    have cT2 : w7.cell? ⟨BT, 2, none⟩ = some (.int .i64 8) := blk_cell HT.out 2
    have cT3 : w7.cell? ⟨BT, 3, none⟩ = some (.int .i64 (1 - d)) := blk_cell HT.out 3
    have cT4 : w7.cell? ⟨BT, 4, none⟩ = some (.int .i64 3) := blk_cell HT.out 4
    have cT5 : w7.cell? ⟨BT, 5, none⟩ = some (.int .i64 4) := blk_cell HT.out 5
    have cS0 : w7.cell? ⟨BS, 0, none⟩ = some (.int .i64 1) := blk_cell HS.out 0
    have cS1 : w7.cell? ⟨BS, 1, none⟩ = some (.slice (some ⟨BZ, 0, none⟩) 1 1) := blk_cell HS.out 1
    go_wp2_with (first | fail)
    refine (rel_at (t := ⟨1, 9, 8, 1 - d, 3, 4⟩) (L := 1) (v := .slice (some ⟨BZ, 0, none⟩) 1 1) (zs := [5]) (now := 20) (L' := 0) (D := 0) (b := false) (zs' := []) (N := 0) _ (own_blk (n := 1) (xs := [5]) HZ.out rfl rfl (by decide)).row HANS.out.rel.1 HANS.out.rel.2.1 HANS.out.rel.2.2.1 rfl).mono ?_; rintro e w8 ⟨u2, c2, rfl, ho, hg⟩
    clear cT0 cT1 cT2 cT3 cT4 cT5 cS0 cS1
    have HGn := hide (grownBy_trans HG.out hg)
    have HTn := hide (box_grown HT.out hg (by simp))
    have HZn := hide (box_grown HZ.out hg (by simp))
    have HSn := hide (box_grown HS.out hg (by simp))
    have HAn := hide (box_grown HA.out hg (by simp))
    have OAn := hide (OA.out.grown hg)
    clear HG HT HZ HS HA OA
    have HG := HGn
    have HT := HTn
    have HZ := HZn
    have HS := HSn
    have HA := HAn
    have OA := OAn
    clear HGn HTn HZn HSn HAn OAn
    clear hg
    have OY := hide (ho.base (Nat.zero_le _))
    clear ho
    go_upto_region 46 with (first | fail)
    have hg := World.grownBy_alloc w8 (.cells #[.int .i64 0, .slice u2 0 c2] 26) none
    have HYq := hide (heap_alloc_new w8 (.cells #[.int .i64 0, .slice u2 0 c2] 26))
    have LY := hide HG.out.size
    have HGn := hide (grownBy_trans HG.out hg)
    have HTn := hide (box_grown HT.out hg (by simp))
    have HZn := hide (box_grown HZ.out hg (by simp))
    have HSn := hide (box_grown HS.out hg (by simp))
    have HAn := hide (box_grown HA.out hg (by simp))
    have OAn := hide (OA.out.grown hg)
    have OYn := hide (OY.out.grown hg)
    clear HG HT HZ HS HA OA OY
    have HG := HGn
    have HT := HTn
    have HZ := HZn
    have HS := HSn
    have HA := HAn
    have OA := OAn
    have OY := OYn
    clear HGn HTn HZn HSn HAn OAn OYn
    clear hg
    have HY := HYq
    clear HYq
    generalize hWx : w8.alloc (.cells #[.int .i64 0, .slice u2 0 c2] 26) = w9 at *
    generalize hBx : w8.heap.size = BY at *
    clear hWx hBx
    have cT0 : w9.cell? ⟨BT, 0, none⟩ = some (.int .i64 1) := blk_cell HT.out 0
    have cT1 : w9.cell? ⟨BT, 1, none⟩ = some (.int .i64 9) := blk_cell HT.out 1
    have cT2 : w9.cell? ⟨BT, 2, none⟩ = some (.int .i64 8) := blk_cell HT.out 2
    have cT3 : w9.cell? ⟨BT, 3, none⟩ = some (.int .i64 (1 - d)) := blk_cell HT.out 3
    have cT4 : w9.cell? ⟨BT, 4, none⟩ = some (.int .i64 3) := blk_cell HT.out 4
    have cT5 : w9.cell? ⟨BT, 5, none⟩ = some (.int .i64 4) := blk_cell HT.out 5
    go_wp2_with (first | fail)
    refine (may_at (t := ⟨1, 9, 8, 1 - d, 3, 4⟩) (b := false) _ HANS.out.may).mono ?_; rintro e w10 ⟨rfl, hg⟩
    clear cT0 cT1 cT2 cT3 cT4 cT5
    have HGn := hide (grownBy_trans HG.out hg)
    have HTn := hide (box_grown HT.out hg (by simp))
    have HZn := hide (box_grown HZ.out hg (by simp))
    have HSn := hide (box_grown HS.out hg (by simp))
    have HAn := hide (box_grown HA.out hg (by simp))
    have HYn := hide (box_grown HY.out hg (by simp))
    have OAn := hide (OA.out.grown hg)
    have OYn := hide (OY.out.grown hg)
    clear HG HT HZ HS HA HY OA OY
    have HG := HGn
    have HT := HTn
    have HZ := HZn
    have HS := HSn
    have HA := HAn
    have HY := HYn
    have OA := OAn
    have OY := OYn
    clear HGn HTn HZn HSn HAn HYn OAn OYn
    clear hg
    have cA0 : w10.cell? ⟨BA, 0, none⟩ = some (.int .i64 0) := blk_cell HA.out 0
    have cA1 : w10.cell? ⟨BA, 1, none⟩ = some (.slice u1 0 c1) := blk_cell HA.out 1
    go_wp2_with (first | fail)
    refine (sameT_any 0 u1 none 0 0 c1 0 [] _ OA.out.row (rowAt_nil 0 _ none 0)).mono ?_; rintro e w11 ⟨rfl, hg⟩
    clear cA0 cA1
    have HGn := hide (grownBy_trans HG.out hg)
    have HTn := hide (box_grown HT.out hg (by simp))
    have HZn := hide (box_grown HZ.out hg (by simp))
    have HSn := hide (box_grown HS.out hg (by simp))
    have HAn := hide (box_grown HA.out hg (by simp))
    have HYn := hide (box_grown HY.out hg (by simp))
    have OAn := hide (OA.out.grown hg)
    have OYn := hide (OY.out.grown hg)
    clear HG HT HZ HS HA HY OA OY
    have HG := HGn
    have HT := HTn
    have HZ := HZn
    have HS := HSn
    have HA := HAn
    have HY := HYn
    have OA := OAn
    have OY := OYn
    clear HGn HTn HZn HSn HAn HYn OAn OYn
    clear hg
    have cY0 : w11.cell? ⟨BY, 0, none⟩ = some (.int .i64 0) := blk_cell HY.out 0
    have cY1 : w11.cell? ⟨BY, 1, none⟩ = some (.slice u2 0 c2) := blk_cell HY.out 1
    go_wp2_with (first | (go_at_call 14; refine (NUM.out _ _).mono ?_; rintro e wn ⟨rfl, rfl⟩) | fail)
    refine (sameT_any 0 u2 none 0 0 c2 0 [] _ OY.out.row (rowAt_nil 0 _ none 0)).mono ?_; rintro e w12 ⟨rfl, hg⟩
    clear cY0 cY1
    have HGn := hide (grownBy_trans HG.out hg)
    have HTn := hide (box_grown HT.out hg (by simp))
    have HZn := hide (box_grown HZ.out hg (by simp))
    have HSn := hide (box_grown HS.out hg (by simp))
    have HAn := hide (box_grown HA.out hg (by simp))
    have HYn := hide (box_grown HY.out hg (by simp))
    have OAn := hide (OA.out.grown hg)
    have OYn := hide (OY.out.grown hg)
    clear HG HT HZ HS HA HY OA OY
    have HG := HGn
    have HT := HTn
    have HZ := HZn
    have HS := HSn
    have HA := HAn
    have HY := HYn
    have OA := OAn
    have OY := OYn
    clear HGn HTn HZn HSn HAn HYn OAn OYn
    clear hg
    have cT0 : w12.cell? ⟨BT, 0, none⟩ = some (.int .i64 1) := blk_cell HT.out 0
    have cT1 : w12.cell? ⟨BT, 1, none⟩ = some (.int .i64 9) := blk_cell HT.out 1
    have cT2 : w12.cell? ⟨BT, 2, none⟩ = some (.int .i64 8) := blk_cell HT.out 2
    have cT3 : w12.cell? ⟨BT, 3, none⟩ = some (.int .i64 (1 - d)) := blk_cell HT.out 3
    have cT4 : w12.cell? ⟨BT, 4, none⟩ = some (.int .i64 3) := blk_cell HT.out 4
    have cT5 : w12.cell? ⟨BT, 5, none⟩ = some (.int .i64 4) := blk_cell HT.out 5
    have cS0 : w12.cell? ⟨BS, 0, none⟩ = some (.int .i64 1) := blk_cell HS.out 0
    have cS1 : w12.cell? ⟨BS, 1, none⟩ = some (.slice (some ⟨BZ, 0, none⟩) 1 1) := blk_cell HS.out 1
    go_wp2_with (first | fail)
    refine (late_at (t := ⟨1, 9, 8, 1 - d, 3, 4⟩) (L := 1) (zs := [5]) (now := 20) (b := false) _ (own_blk (n := 1) (xs := [5]) HZ.out rfl rfl (by decide)).row HANS.out.rel.2.2.2).mono ?_; rintro e w13 ⟨rfl, hg⟩
    clear cT0 cT1 cT2 cT3 cT4 cT5 cS0 cS1
    have HGn := hide (grownBy_trans HG.out hg)
    have HTn := hide (box_grown HT.out hg (by simp))
    have HZn := hide (box_grown HZ.out hg (by simp))
    have HSn := hide (box_grown HS.out hg (by simp))
    have HAn := hide (box_grown HA.out hg (by simp))
    have HYn := hide (box_grown HY.out hg (by simp))
    have OAn := hide (OA.out.grown hg)
    have OYn := hide (OY.out.grown hg)
    clear HG HT HZ HS HA HY OA OY
    have HG := HGn
    have HT := HTn
    have HZ := HZn
    have HS := HSn
    have HA := HAn
    have HY := HYn
    have OA := OAn
    have OY := OYn
    clear HGn HTn HZn HSn HAn HYn OAn OYn
    clear hg
    go_wp2_with (first | fail)
    go_ret
    exact ⟨rfl, HG.out⟩
  · skip
    have cT5 : w4.cell? ⟨BT, 5, none⟩ = some (.int .i64 4) := blk_cell HT.out 5
    have fT5 := blk_free HT.out 5
    go_upto_region 44 with (first | fail)
    clear cT5 fT5
    have hg := grownBy_set w4 BT 5 (.int .i64 (255 + d))
    have HGn := hide (grown_spoil HG.out LT.out hg)
    have HZn := hide (box_type HZ.out hg (type_box HT.out) (by decide))
    have HSn := hide (box_type HS.out hg (type_box HT.out) (by decide))
    have HTn := hide (blk_set (j := 5) (u := .int .i64 (255 + d)) (cs' := #[.int .i64 1, .int .i64 9, .int .i64 8, .int .i64 2, .int .i64 3, .int .i64 (255 + d)]) HT.out rfl)
    clear HG HZ HS HT
    have HG := HGn
    have HZ := HZn
    have HS := HSn
    have HT := HTn
    clear HGn HZn HSn HTn
    clear hg
    generalize hWx : w4.setCell ⟨BT, 5, none⟩ (.int .i64 (255 + d)) = w5 at *
    clear hWx
    have HANS := hide (fm7 hd1)
    have cT0 : w5.cell? ⟨BT, 0, none⟩ = some (.int .i64 1) := blk_cell HT.out 0
    have cT1 : w5.cell? ⟨BT, 1, none⟩ = some (.int .i64 9) := blk_cell HT.out 1
    have cT2 : w5.cell? ⟨BT, 2, none⟩ = some (.int .i64 8) := blk_cell HT.out 2
    have cT3 : w5.cell? ⟨BT, 3, none⟩ = some (.int .i64 2) := blk_cell HT.out 3
    have cT4 : w5.cell? ⟨BT, 4, none⟩ = some (.int .i64 3) := blk_cell HT.out 4
    have cT5 : w5.cell? ⟨BT, 5, none⟩ = some (.int .i64 (255 + d)) := blk_cell HT.out 5
    have cS0 : w5.cell? ⟨BS, 0, none⟩ = some (.int .i64 1) := blk_cell HS.out 0
    have cS1 : w5.cell? ⟨BS, 1, none⟩ = some (.slice (some ⟨BZ, 0, none⟩) 1 1) := blk_cell HS.out 1
    go_wp2_with (first | fail)
    refine (pick_at (t := ⟨1, 9, 8, 2, 3, 255 + d⟩) (L := 1) (v := .slice (some ⟨BZ, 0, none⟩) 1 1) (zs := [5]) (d := 7) (L' := 0) (E := 1100) (zs' := []) (N := 0) _ (own_blk (n := 1) (xs := [5]) HZ.out rfl rfl (by decide)).row HANS.out.pick.1 HANS.out.pick.2 rfl).mono ?_; rintro e w6 ⟨u1, c1, rfl, ho, hg⟩
    clear cT0 cT1 cT2 cT3 cT4 cT5 cS0 cS1
    have HGn := hide (grownBy_trans HG.out hg)
    have HTn := hide (box_grown HT.out hg (by simp))
    have HZn := hide (box_grown HZ.out hg (by simp))
    have HSn := hide (box_grown HS.out hg (by simp))
    clear HG HT HZ HS
    have HG := HGn
    have HT := HTn
    have HZ := HZn
    have HS := HSn
    clear HGn HTn HZn HSn
    clear hg
    have OA := hide (ho.base (Nat.zero_le _))
    clear ho
    go_upto_region 45 with (first | fail)
    have hg := World.grownBy_alloc w6 (.cells #[.int .i64 0, .slice u1 0 c1] 26) none
    have HAq := hide (heap_alloc_new w6 (.cells #[.int .i64 0, .slice u1 0 c1] 26))
    have LA := hide HG.out.size
    have HGn := hide (grownBy_trans HG.out hg)
    have HTn := hide (box_grown HT.out hg (by simp))
    have HZn := hide (box_grown HZ.out hg (by simp))
    have HSn := hide (box_grown HS.out hg (by simp))
    have OAn := hide (OA.out.grown hg)
    clear HG HT HZ HS OA
    have HG := HGn
    have HT := HTn
    have HZ := HZn
    have HS := HSn
    have OA := OAn
    clear HGn HTn HZn HSn OAn
    clear hg
    have HA := HAq
    clear HAq
    generalize hWx : w6.alloc (.cells #[.int .i64 0, .slice u1 0 c1] 26) = w7 at *
    generalize hBx : w6.heap.size = BA at *
    clear hWx hBx
    have cT0 : w7.cell? ⟨BT, 0, none⟩ = some (.int .i64 1) := blk_cell HT.out 0
    have cT1 : w7.cell? ⟨BT, 1, none⟩ = some (.int .i64 9) := blk_cell HT.out 1
    have cT2 : w7.cell? ⟨BT, 2, none⟩ = some (.int .i64 8) := blk_cell HT.out 2
    have cT3 : w7.cell? ⟨BT, 3, none⟩ = some (.int .i64 2) := blk_cell HT.out 3
    have cT4 : w7.cell? ⟨BT, 4, none⟩ = some (.int .i64 3) := blk_cell HT.out 4
    have cT5 : w7.cell? ⟨BT, 5, none⟩ = some (.int .i64 (255 + d)) := blk_cell HT.out 5
    have cS0 : w7.cell? ⟨BS, 0, none⟩ = some (.int .i64 1) := blk_cell HS.out 0
    have cS1 : w7.cell? ⟨BS, 1, none⟩ = some (.slice (some ⟨BZ, 0, none⟩) 1 1) := blk_cell HS.out 1
    go_wp2_with (first | fail)
    refine (rel_at (t := ⟨1, 9, 8, 2, 3, 255 + d⟩) (L := 1) (v := .slice (some ⟨BZ, 0, none⟩) 1 1) (zs := [5]) (now := 20) (L' := 0) (D := 0) (b := false) (zs' := []) (N := 0) _ (own_blk (n := 1) (xs := [5]) HZ.out rfl rfl (by decide)).row HANS.out.rel.1 HANS.out.rel.2.1 HANS.out.rel.2.2.1 rfl).mono ?_; rintro e w8 ⟨u2, c2, rfl, ho, hg⟩
    clear cT0 cT1 cT2 cT3 cT4 cT5 cS0 cS1
    have HGn := hide (grownBy_trans HG.out hg)
    have HTn := hide (box_grown HT.out hg (by simp))
    have HZn := hide (box_grown HZ.out hg (by simp))
    have HSn := hide (box_grown HS.out hg (by simp))
    have HAn := hide (box_grown HA.out hg (by simp))
    have OAn := hide (OA.out.grown hg)
    clear HG HT HZ HS HA OA
    have HG := HGn
    have HT := HTn
    have HZ := HZn
    have HS := HSn
    have HA := HAn
    have OA := OAn
    clear HGn HTn HZn HSn HAn OAn
    clear hg
    have OY := hide (ho.base (Nat.zero_le _))
    clear ho
    go_upto_region 46 with (first | fail)
    have hg := World.grownBy_alloc w8 (.cells #[.int .i64 0, .slice u2 0 c2] 26) none
    have HYq := hide (heap_alloc_new w8 (.cells #[.int .i64 0, .slice u2 0 c2] 26))
    have LY := hide HG.out.size
    have HGn := hide (grownBy_trans HG.out hg)
    have HTn := hide (box_grown HT.out hg (by simp))
    have HZn := hide (box_grown HZ.out hg (by simp))
    have HSn := hide (box_grown HS.out hg (by simp))
    have HAn := hide (box_grown HA.out hg (by simp))
    have OAn := hide (OA.out.grown hg)
    have OYn := hide (OY.out.grown hg)
    clear HG HT HZ HS HA OA OY
    have HG := HGn
    have HT := HTn
    have HZ := HZn
    have HS := HSn
    have HA := HAn
    have OA := OAn
    have OY := OYn
    clear HGn HTn HZn HSn HAn OAn OYn
    clear hg
    have HY := HYq
    clear HYq
    generalize hWx : w8.alloc (.cells #[.int .i64 0, .slice u2 0 c2] 26) = w9 at *
    generalize hBx : w8.heap.size = BY at *
    clear hWx hBx
    have cT0 : w9.cell? ⟨BT, 0, none⟩ = some (.int .i64 1) := blk_cell HT.out 0
    have cT1 : w9.cell? ⟨BT, 1, none⟩ = some (.int .i64 9) := blk_cell HT.out 1
    have cT2 : w9.cell? ⟨BT, 2, none⟩ = some (.int .i64 8) := blk_cell HT.out 2
    have cT3 : w9.cell? ⟨BT, 3, none⟩ = some (.int .i64 2) := blk_cell HT.out 3
    have cT4 : w9.cell? ⟨BT, 4, none⟩ = some (.int .i64 3) := blk_cell HT.out 4
    have cT5 : w9.cell? ⟨BT, 5, none⟩ = some (.int .i64 (255 + d)) := blk_cell HT.out 5
    go_wp2_with (first | fail)
    refine (may_at (t := ⟨1, 9, 8, 2, 3, 255 + d⟩) (b := false) _ HANS.out.may).mono ?_; rintro e w10 ⟨rfl, hg⟩
    clear cT0 cT1 cT2 cT3 cT4 cT5
    have HGn := hide (grownBy_trans HG.out hg)
    have HTn := hide (box_grown HT.out hg (by simp))
    have HZn := hide (box_grown HZ.out hg (by simp))
    have HSn := hide (box_grown HS.out hg (by simp))
    have HAn := hide (box_grown HA.out hg (by simp))
    have HYn := hide (box_grown HY.out hg (by simp))
    have OAn := hide (OA.out.grown hg)
    have OYn := hide (OY.out.grown hg)
    clear HG HT HZ HS HA HY OA OY
    have HG := HGn
    have HT := HTn
    have HZ := HZn
    have HS := HSn
    have HA := HAn
    have HY := HYn
    have OA := OAn
    have OY := OYn
    clear HGn HTn HZn HSn HAn HYn OAn OYn
    clear hg
    have cA0 : w10.cell? ⟨BA, 0, none⟩ = some (.int .i64 0) := blk_cell HA.out 0
    have cA1 : w10.cell? ⟨BA, 1, none⟩ = some (.slice u1 0 c1) := blk_cell HA.out 1
    go_wp2_with (first | fail)
    refine (sameT_any 0 u1 none 0 0 c1 0 [] _ OA.out.row (rowAt_nil 0 _ none 0)).mono ?_; rintro e w11 ⟨rfl, hg⟩
    clear cA0 cA1
    have HGn := hide (grownBy_trans HG.out hg)
    have HTn := hide (box_grown HT.out hg (by simp))
    have HZn := hide (box_grown HZ.out hg (by simp))
    have HSn := hide (box_grown HS.out hg (by simp))
    have HAn := hide (box_grown HA.out hg (by simp))
    have HYn := hide (box_grown HY.out hg (by simp))
    have OAn := hide (OA.out.grown hg)
    have OYn := hide (OY.out.grown hg)
    clear HG HT HZ HS HA HY OA OY
    have HG := HGn
    have HT := HTn
    have HZ := HZn
    have HS := HSn
    have HA := HAn
    have HY := HYn
    have OA := OAn
    have OY := OYn
    clear HGn HTn HZn HSn HAn HYn OAn OYn
    clear hg
    have cY0 : w11.cell? ⟨BY, 0, none⟩ = some (.int .i64 0) := blk_cell HY.out 0
    have cY1 : w11.cell? ⟨BY, 1, none⟩ = some (.slice u2 0 c2) := blk_cell HY.out 1
    go_wp2_with (first | (go_at_call 14; refine (NUM.out _ _).mono ?_; rintro e wn ⟨rfl, rfl⟩) | fail)
    refine (sameT_any 0 u2 none 0 0 c2 0 [] _ OY.out.row (rowAt_nil 0 _ none 0)).mono ?_; rintro e w12 ⟨rfl, hg⟩
    clear cY0 cY1
    have HGn := hide (grownBy_trans HG.out hg)
    have HTn := hide (box_grown HT.out hg (by simp))
    have HZn := hide (box_grown HZ.out hg (by simp))
    have HSn := hide (box_grown HS.out hg (by simp))
    have HAn := hide (box_grown HA.out hg (by simp))
    have HYn := hide (box_grown HY.out hg (by simp))
    have OAn := hide (OA.out.grown hg)
    have OYn := hide (OY.out.grown hg)
    clear HG HT HZ HS HA HY OA OY
    have HG := HGn
    have HT := HTn
    have HZ := HZn
    have HS := HSn
    have HA := HAn
    have HY := HYn
    have OA := OAn
    have OY := OYn
    clear HGn HTn HZn HSn HAn HYn OAn OYn
    clear hg
    have cT0 : w12.cell? ⟨BT, 0, none⟩ = some (.int .i64 1) := blk_cell HT.out 0
    have cT1 : w12.cell? ⟨BT, 1, none⟩ = some (.int .i64 9) := blk_cell HT.out 1
    have cT2 : w12.cell? ⟨BT, 2, none⟩ = some (.int .i64 8) := blk_cell HT.out 2
    have cT3 : w12.cell? ⟨BT, 3, none⟩ = some (.int .i64 2) := blk_cell HT.out 3
    have cT4 : w12.cell? ⟨BT, 4, none⟩ = some (.int .i64 3) := blk_cell HT.out 4
    have cT5 : w12.cell? ⟨BT, 5, none⟩ = some (.int .i64 (255 + d)) := blk_cell HT.out 5
    have cS0 : w12.cell? ⟨BS, 0, none⟩ = some (.int .i64 1) := blk_cell HS.out 0
    have cS1 : w12.cell? ⟨BS, 1, none⟩ = some (.slice (some ⟨BZ, 0, none⟩) 1 1) := blk_cell HS.out 1
    go_wp2_with (first | fail)
    refine (late_at (t := ⟨1, 9, 8, 2, 3, 255 + d⟩) (L := 1) (zs := [5]) (now := 20) (b := false) _ (own_blk (n := 1) (xs := [5]) HZ.out rfl rfl (by decide)).row HANS.out.rel.2.2.2).mono ?_; rintro e w13 ⟨rfl, hg⟩
    clear cT0 cT1 cT2 cT3 cT4 cT5 cS0 cS1
    have HGn := hide (grownBy_trans HG.out hg)
    have HTn := hide (box_grown HT.out hg (by simp))
    have HZn := hide (box_grown HZ.out hg (by simp))
    have HSn := hide (box_grown HS.out hg (by simp))
    have HAn := hide (box_grown HA.out hg (by simp))
    have HYn := hide (box_grown HY.out hg (by simp))
    have OAn := hide (OA.out.grown hg)
    have OYn := hide (OY.out.grown hg)
    clear HG HT HZ HS HA HY OA OY
    have HG := HGn
    have HT := HTn
    have HZ := HZn
    have HS := HSn
    have HA := HAn
    have HY := HYn
    have OA := OAn
    have OY := OYn
    clear HGn HTn HZn HSn HAn HYn OAn OYn
    clear hg
    go_wp2_with (first | fail)
    go_ret
    exact ⟨rfl, HG.out⟩
  · skip
    have cT5 : w4.cell? ⟨BT, 5, none⟩ = some (.int .i64 4) := blk_cell HT.out 5
    have fT5 := blk_free HT.out 5
    go_upto_region 44 with (first | fail)
    clear cT5 fT5
    have hg := grownBy_set w4 BT 5 (.int .i64 (-d))
    have HGn := hide (grown_spoil HG.out LT.out hg)
    have HZn := hide (box_type HZ.out hg (type_box HT.out) (by decide))
    have HSn := hide (box_type HS.out hg (type_box HT.out) (by decide))
    have HTn := hide (blk_set (j := 5) (u := .int .i64 (-d)) (cs' := #[.int .i64 1, .int .i64 9, .int .i64 8, .int .i64 2, .int .i64 3, .int .i64 (-d)]) HT.out rfl)
    clear HG HZ HS HT
    have HG := HGn
    have HZ := HZn
    have HS := HSn
    have HT := HTn
    clear HGn HZn HSn HTn
    clear hg
    generalize hWx : w4.setCell ⟨BT, 5, none⟩ (.int .i64 (-d)) = w5 at *
    clear hWx
    have HANS := hide (fm8 hd1)
    have cT0 : w5.cell? ⟨BT, 0, none⟩ = some (.int .i64 1) := blk_cell HT.out 0
    have cT1 : w5.cell? ⟨BT, 1, none⟩ = some (.int .i64 9) := blk_cell HT.out 1
    have cT2 : w5.cell? ⟨BT, 2, none⟩ = some (.int .i64 8) := blk_cell HT.out 2
    have cT3 : w5.cell? ⟨BT, 3, none⟩ = some (.int .i64 2) := blk_cell HT.out 3
    have cT4 : w5.cell? ⟨BT, 4, none⟩ = some (.int .i64 3) := blk_cell HT.out 4
    have cT5 : w5.cell? ⟨BT, 5, none⟩ = some (.int .i64 (-d)) := blk_cell HT.out 5
    have cS0 : w5.cell? ⟨BS, 0, none⟩ = some (.int .i64 1) := blk_cell HS.out 0
    have cS1 : w5.cell? ⟨BS, 1, none⟩ = some (.slice (some ⟨BZ, 0, none⟩) 1 1) := blk_cell HS.out 1
    go_wp2_with (first | fail)
    refine (pick_at (t := ⟨1, 9, 8, 2, 3, -d⟩) (L := 1) (v := .slice (some ⟨BZ, 0, none⟩) 1 1) (zs := [5]) (d := 7) (L' := 0) (E := 1100) (zs' := []) (N := 0) _ (own_blk (n := 1) (xs := [5]) HZ.out rfl rfl (by decide)).row HANS.out.pick.1 HANS.out.pick.2 rfl).mono ?_; rintro e w6 ⟨u1, c1, rfl, ho, hg⟩
    clear cT0 cT1 cT2 cT3 cT4 cT5 cS0 cS1
    have HGn := hide (grownBy_trans HG.out hg)
    have HTn := hide (box_grown HT.out hg (by simp))
    have HZn := hide (box_grown HZ.out hg (by simp))
    have HSn := hide (box_grown HS.out hg (by simp))
    clear HG HT HZ HS
    have HG := HGn
    have HT := HTn
    have HZ := HZn
    have HS := HSn
    clear HGn HTn HZn HSn
    clear hg
    have OA := hide (ho.base (Nat.zero_le _))
    clear ho
    go_upto_region 45 with (first | fail)
    have hg := World.grownBy_alloc w6 (.cells #[.int .i64 0, .slice u1 0 c1] 26) none
    have HAq := hide (heap_alloc_new w6 (.cells #[.int .i64 0, .slice u1 0 c1] 26))
    have LA := hide HG.out.size
    have HGn := hide (grownBy_trans HG.out hg)
    have HTn := hide (box_grown HT.out hg (by simp))
    have HZn := hide (box_grown HZ.out hg (by simp))
    have HSn := hide (box_grown HS.out hg (by simp))
    have OAn := hide (OA.out.grown hg)
    clear HG HT HZ HS OA
    have HG := HGn
    have HT := HTn
    have HZ := HZn
    have HS := HSn
    have OA := OAn
    clear HGn HTn HZn HSn OAn
    clear hg
    have HA := HAq
    clear HAq
    generalize hWx : w6.alloc (.cells #[.int .i64 0, .slice u1 0 c1] 26) = w7 at *
    generalize hBx : w6.heap.size = BA at *
    clear hWx hBx
    have cT0 : w7.cell? ⟨BT, 0, none⟩ = some (.int .i64 1) := blk_cell HT.out 0
    have cT1 : w7.cell? ⟨BT, 1, none⟩ = some (.int .i64 9) := blk_cell HT.out 1
    have cT2 : w7.cell? ⟨BT, 2, none⟩ = some (.int .i64 8) := blk_cell HT.out 2
    have cT3 : w7.cell? ⟨BT, 3, none⟩ = some (.int .i64 2) := blk_cell HT.out 3
    have cT4 : w7.cell? ⟨BT, 4, none⟩ = some (.int .i64 3) := blk_cell HT.out 4
    have cT5 : w7.cell? ⟨BT, 5, none⟩ = some (.int .i64 (-d)) := blk_cell HT.out 5
    have cS0 : w7.cell? ⟨BS, 0, none⟩ = some (.int .i64 1) := blk_cell HS.out 0
    have cS1 : w7.cell? ⟨BS, 1, none⟩ = some (.slice (some ⟨BZ, 0, none⟩) 1 1) := blk_cell HS.out 1
    go_wp2_with (first | fail)
    refine (rel_at (t := ⟨1, 9, 8, 2, 3, -d⟩) (L := 1) (v := .slice (some ⟨BZ, 0, none⟩) 1 1) (zs := [5]) (now := 20) (L' := 0) (D := 0) (b := false) (zs' := []) (N := 0) _ (own_blk (n := 1) (xs := [5]) HZ.out rfl rfl (by decide)).row HANS.out.rel.1 HANS.out.rel.2.1 HANS.out.rel.2.2.1 rfl).mono ?_; rintro e w8 ⟨u2, c2, rfl, ho, hg⟩
    clear cT0 cT1 cT2 cT3 cT4 cT5 cS0 cS1
    have HGn := hide (grownBy_trans HG.out hg)
    have HTn := hide (box_grown HT.out hg (by simp))
    have HZn := hide (box_grown HZ.out hg (by simp))
    have HSn := hide (box_grown HS.out hg (by simp))
    have HAn := hide (box_grown HA.out hg (by simp))
    have OAn := hide (OA.out.grown hg)
    clear HG HT HZ HS HA OA
    have HG := HGn
    have HT := HTn
    have HZ := HZn
    have HS := HSn
    have HA := HAn
    have OA := OAn
    clear HGn HTn HZn HSn HAn OAn
    clear hg
    have OY := hide (ho.base (Nat.zero_le _))
    clear ho
    go_upto_region 46 with (first | fail)
    have hg := World.grownBy_alloc w8 (.cells #[.int .i64 0, .slice u2 0 c2] 26) none
    have HYq := hide (heap_alloc_new w8 (.cells #[.int .i64 0, .slice u2 0 c2] 26))
    have LY := hide HG.out.size
    have HGn := hide (grownBy_trans HG.out hg)
    have HTn := hide (box_grown HT.out hg (by simp))
    have HZn := hide (box_grown HZ.out hg (by simp))
    have HSn := hide (box_grown HS.out hg (by simp))
    have HAn := hide (box_grown HA.out hg (by simp))
    have OAn := hide (OA.out.grown hg)
    have OYn := hide (OY.out.grown hg)
    clear HG HT HZ HS HA OA OY
    have HG := HGn
    have HT := HTn
    have HZ := HZn
    have HS := HSn
    have HA := HAn
    have OA := OAn
    have OY := OYn
    clear HGn HTn HZn HSn HAn OAn OYn
    clear hg
    have HY := HYq
    clear HYq
    generalize hWx : w8.alloc (.cells #[.int .i64 0, .slice u2 0 c2] 26) = w9 at *
    generalize hBx : w8.heap.size = BY at *
    clear hWx hBx
    have cT0 : w9.cell? ⟨BT, 0, none⟩ = some (.int .i64 1) := blk_cell HT.out 0
    have cT1 : w9.cell? ⟨BT, 1, none⟩ = some (.int .i64 9) := blk_cell HT.out 1
    have cT2 : w9.cell? ⟨BT, 2, none⟩ = some (.int .i64 8) := blk_cell HT.out 2
    have cT3 : w9.cell? ⟨BT, 3, none⟩ = some (.int .i64 2) := blk_cell HT.out 3
    have cT4 : w9.cell? ⟨BT, 4, none⟩ = some (.int .i64 3) := blk_cell HT.out 4
    have cT5 : w9.cell? ⟨BT, 5, none⟩ = some (.int .i64 (-d)) := blk_cell HT.out 5
    go_wp2_with (first | fail)
    refine (may_at (t := ⟨1, 9, 8, 2, 3, -d⟩) (b := false) _ HANS.out.may).mono ?_; rintro e w10 ⟨rfl, hg⟩
    clear cT0 cT1 cT2 cT3 cT4 cT5
    have HGn := hide (grownBy_trans HG.out hg)
    have HTn := hide (box_grown HT.out hg (by simp))
    have HZn := hide (box_grown HZ.out hg (by simp))
    have HSn := hide (box_grown HS.out hg (by simp))
    have HAn := hide (box_grown HA.out hg (by simp))
    have HYn := hide (box_grown HY.out hg (by simp))
    have OAn := hide (OA.out.grown hg)
    have OYn := hide (OY.out.grown hg)
    clear HG HT HZ HS HA HY OA OY
    have HG := HGn
    have HT := HTn
    have HZ := HZn
    have HS := HSn
    have HA := HAn
    have HY := HYn
    have OA := OAn
    have OY := OYn
    clear HGn HTn HZn HSn HAn HYn OAn OYn
    clear hg
    have cA0 : w10.cell? ⟨BA, 0, none⟩ = some (.int .i64 0) := blk_cell HA.out 0
    have cA1 : w10.cell? ⟨BA, 1, none⟩ = some (.slice u1 0 c1) := blk_cell HA.out 1
    go_wp2_with (first | fail)
    refine (sameT_any 0 u1 none 0 0 c1 0 [] _ OA.out.row (rowAt_nil 0 _ none 0)).mono ?_; rintro e w11 ⟨rfl, hg⟩
    clear cA0 cA1
    have HGn := hide (grownBy_trans HG.out hg)
    have HTn := hide (box_grown HT.out hg (by simp))
    have HZn := hide (box_grown HZ.out hg (by simp))
    have HSn := hide (box_grown HS.out hg (by simp))
    have HAn := hide (box_grown HA.out hg (by simp))
    have HYn := hide (box_grown HY.out hg (by simp))
    have OAn := hide (OA.out.grown hg)
    have OYn := hide (OY.out.grown hg)
    clear HG HT HZ HS HA HY OA OY
    have HG := HGn
    have HT := HTn
    have HZ := HZn
    have HS := HSn
    have HA := HAn
    have HY := HYn
    have OA := OAn
    have OY := OYn
    clear HGn HTn HZn HSn HAn HYn OAn OYn
    clear hg
    have cY0 : w11.cell? ⟨BY, 0, none⟩ = some (.int .i64 0) := blk_cell HY.out 0
    have cY1 : w11.cell? ⟨BY, 1, none⟩ = some (.slice u2 0 c2) := blk_cell HY.out 1
    go_wp2_with (first | (go_at_call 14; refine (NUM.out _ _).mono ?_; rintro e wn ⟨rfl, rfl⟩) | fail)
    refine (sameT_any 0 u2 none 0 0 c2 0 [] _ OY.out.row (rowAt_nil 0 _ none 0)).mono ?_; rintro e w12 ⟨rfl, hg⟩
    clear cY0 cY1
    have HGn := hide (grownBy_trans HG.out hg)
    have HTn := hide (box_grown HT.out hg (by simp))
    have HZn := hide (box_grown HZ.out hg (by simp))
    have HSn := hide (box_grown HS.out hg (by simp))
    have HAn := hide (box_grown HA.out hg (by simp))
    have HYn := hide (box_grown HY.out hg (by simp))
    have OAn := hide (OA.out.grown hg)
    have OYn := hide (OY.out.grown hg)
    clear HG HT HZ HS HA HY OA OY
    have HG := HGn
    have HT := HTn
    have HZ := HZn
    have HS := HSn
    have HA := HAn
    have HY := HYn
    have OA := OAn
    have OY := OYn
    clear HGn HTn HZn HSn HAn HYn OAn OYn
    clear hg
    have cT0 : w12.cell? ⟨BT, 0, none⟩ = some (.int .i64 1) := blk_cell HT.out 0
    have cT1 : w12.cell? ⟨BT, 1, none⟩ = some (.int .i64 9) := blk_cell HT.out 1
    have cT2 : w12.cell? ⟨BT, 2, none⟩ = some (.int .i64 8) := blk_cell HT.out 2
    have cT3 : w12.cell? ⟨BT, 3, none⟩ = some (.int .i64 2) := blk_cell HT.out 3
    have cT4 : w12.cell? ⟨BT, 4, none⟩ = some (.int .i64 3) := blk_cell HT.out 4
    have cT5 : w12.cell? ⟨BT, 5, none⟩ = some (.int .i64 (-d)) := blk_cell HT.out 5
    have cS0 : w12.cell? ⟨BS, 0, none⟩ = some (.int .i64 1) := blk_cell HS.out 0
    have cS1 : w12.cell? ⟨BS, 1, none⟩ = some (.slice (some ⟨BZ, 0, none⟩) 1 1) := blk_cell HS.out 1
    go_wp2_with (first | fail)
    refine (late_at (t := ⟨1, 9, 8, 2, 3, -d⟩) (L := 1) (zs := [5]) (now := 20) (b := false) _ (own_blk (n := 1) (xs := [5]) HZ.out rfl rfl (by decide)).row HANS.out.rel.2.2.2).mono ?_; rintro e w13 ⟨rfl, hg⟩
    clear cT0 cT1 cT2 cT3 cT4 cT5 cS0 cS1
    have HGn := hide (grownBy_trans HG.out hg)
    have HTn := hide (box_grown HT.out hg (by simp))
    have HZn := hide (box_grown HZ.out hg (by simp))
    have HSn := hide (box_grown HS.out hg (by simp))
    have HAn := hide (box_grown HA.out hg (by simp))
    have HYn := hide (box_grown HY.out hg (by simp))
    have OAn := hide (OA.out.grown hg)
    have OYn := hide (OY.out.grown hg)
    clear HG HT HZ HS HA HY OA OY
    have HG := HGn
    have HT := HTn
    have HZ := HZn
    have HS := HSn
    have HA := HAn
    have HY := HYn
    have OA := OAn
    have OY := OYn
    clear HGn HTn HZn HSn HAn HYn OAn OYn
    clear hg
    go_wp2_with (first | fail)
    go_ret
    exact ⟨rfl, HG.out⟩
  · skip
    have cS0 : w4.cell? ⟨BS, 0, none⟩ = some (.int .i64 1) := blk_cell HS.out 0
    have fS0 := blk_free HS.out 0
    go_upto_region 44 with (first | fail)
    clear cS0 fS0
    have hg := grownBy_set w4 BS 0 (.int .i64 (-1 - d))
    have HGn := hide (grown_spoil HG.out LS.out hg)
    have HTn := hide (box_type HT.out hg (type_box HS.out) (by decide))
    have HZn := hide (box_type HZ.out hg (type_box HS.out) (by decide))
    have HSn := hide (blk_set (j := 0) (u := .int .i64 (-1 - d)) (cs' := #[.int .i64 (-1 - d), .slice (some ⟨BZ, 0, none⟩) 1 1]) HS.out rfl)
    clear HG HT HZ HS
    have HG := HGn
    have HT := HTn
    have HZ := HZn
    have HS := HSn
    clear HGn HTn HZn HSn
    clear hg
    generalize hWx : w4.setCell ⟨BS, 0, none⟩ (.int .i64 (-1 - d)) = w5 at *
    clear hWx
    have HANS := hide (fm9 hd1)
    have cT0 : w5.cell? ⟨BT, 0, none⟩ = some (.int .i64 1) := blk_cell HT.out 0
    have cT1 : w5.cell? ⟨BT, 1, none⟩ = some (.int .i64 9) := blk_cell HT.out 1
    have cT2 : w5.cell? ⟨BT, 2, none⟩ = some (.int .i64 8) := blk_cell HT.out 2
    have cT3 : w5.cell? ⟨BT, 3, none⟩ = some (.int .i64 2) := blk_cell HT.out 3
    have cT4 : w5.cell? ⟨BT, 4, none⟩ = some (.int .i64 3) := blk_cell HT.out 4
    have cT5 : w5.cell? ⟨BT, 5, none⟩ = some (.int .i64 4) := blk_cell HT.out 5
    have cS0 : w5.cell? ⟨BS, 0, none⟩ = some (.int .i64 (-1 - d)) := blk_cell HS.out 0
    have cS1 : w5.cell? ⟨BS, 1, none⟩ = some (.slice (some ⟨BZ, 0, none⟩) 1 1) := blk_cell HS.out 1
    go_wp2_with (first | fail)
    refine (pick_at (t := fT) (L := -1 - d) (v := .slice (some ⟨BZ, 0, none⟩) 1 1) (zs := [5]) (d := 7) (L' := 0) (E := 1100) (zs' := []) (N := 0) _ (own_blk (n := 1) (xs := [5]) HZ.out rfl rfl (by decide)).row HANS.out.pick.1 HANS.out.pick.2 rfl).mono ?_; rintro e w6 ⟨u1, c1, rfl, ho, hg⟩
    clear cT0 cT1 cT2 cT3 cT4 cT5 cS0 cS1
    have HGn := hide (grownBy_trans HG.out hg)
    have HTn := hide (box_grown HT.out hg (by simp))
    have HZn := hide (box_grown HZ.out hg (by simp))
    have HSn := hide (box_grown HS.out hg (by simp))
    clear HG HT HZ HS
    have HG := HGn
    have HT := HTn
    have HZ := HZn
    have HS := HSn
    clear HGn HTn HZn HSn
    clear hg
    have OA := hide (ho.base (Nat.zero_le _))
    clear ho
    go_upto_region 45 with (first | fail)
    have hg := World.grownBy_alloc w6 (.cells #[.int .i64 0, .slice u1 0 c1] 26) none
    have HAq := hide (heap_alloc_new w6 (.cells #[.int .i64 0, .slice u1 0 c1] 26))
    have LA := hide HG.out.size
    have HGn := hide (grownBy_trans HG.out hg)
    have HTn := hide (box_grown HT.out hg (by simp))
    have HZn := hide (box_grown HZ.out hg (by simp))
    have HSn := hide (box_grown HS.out hg (by simp))
    have OAn := hide (OA.out.grown hg)
    clear HG HT HZ HS OA
    have HG := HGn
    have HT := HTn
    have HZ := HZn
    have HS := HSn
    have OA := OAn
    clear HGn HTn HZn HSn OAn
    clear hg
    have HA := HAq
    clear HAq
    generalize hWx : w6.alloc (.cells #[.int .i64 0, .slice u1 0 c1] 26) = w7 at *
    generalize hBx : w6.heap.size = BA at *
    clear hWx hBx
    have cT0 : w7.cell? ⟨BT, 0, none⟩ = some (.int .i64 1) := blk_cell HT.out 0
    have cT1 : w7.cell? ⟨BT, 1, none⟩ = some (.int .i64 9) := blk_cell HT.out 1
    have cT2 : w7.cell? ⟨BT, 2, none⟩ = some (.int .i64 8) := blk_cell HT.out 2
    have cT3 : w7.cell? ⟨BT, 3, none⟩ = some (.int .i64 2) := blk_cell HT.out 3
    have cT4 : w7.cell? ⟨BT, 4, none⟩ = some (.int .i64 3) := blk_cell HT.out 4
    have cT5 : w7.cell? ⟨BT, 5, none⟩ = some (.int .i64 4) := blk_cell HT.out 5
    have cS0 : w7.cell? ⟨BS, 0, none⟩ = some (.int .i64 (-1 - d)) := blk_cell HS.out 0
    have cS1 : w7.cell? ⟨BS, 1, none⟩ = some (.slice (some ⟨BZ, 0, none⟩) 1 1) := blk_cell HS.out 1
    go_wp2_with (first | fail)
    refine (rel_at (t := fT) (L := -1 - d) (v := .slice (some ⟨BZ, 0, none⟩) 1 1) (zs := [5]) (now := 20) (L' := 0) (D := 0) (b := false) (zs' := []) (N := 0) _ (own_blk (n := 1) (xs := [5]) HZ.out rfl rfl (by decide)).row HANS.out.rel.1 HANS.out.rel.2.1 HANS.out.rel.2.2.1 rfl).mono ?_; rintro e w8 ⟨u2, c2, rfl, ho, hg⟩
    clear cT0 cT1 cT2 cT3 cT4 cT5 cS0 cS1
    have HGn := hide (grownBy_trans HG.out hg)
    have HTn := hide (box_grown HT.out hg (by simp))
    have HZn := hide (box_grown HZ.out hg (by simp))
    have HSn := hide (box_grown HS.out hg (by simp))
    have HAn := hide (box_grown HA.out hg (by simp))
    have OAn := hide (OA.out.grown hg)
    clear HG HT HZ HS HA OA
    have HG := HGn
    have HT := HTn
    have HZ := HZn
    have HS := HSn
    have HA := HAn
    have OA := OAn
    clear HGn HTn HZn HSn HAn OAn
    clear hg
    have OY := hide (ho.base (Nat.zero_le _))
    clear ho
    go_upto_region 46 with (first | fail)
    have hg := World.grownBy_alloc w8 (.cells #[.int .i64 0, .slice u2 0 c2] 26) none
    have HYq := hide (heap_alloc_new w8 (.cells #[.int .i64 0, .slice u2 0 c2] 26))
    have LY := hide HG.out.size
    have HGn := hide (grownBy_trans HG.out hg)
    have HTn := hide (box_grown HT.out hg (by simp))
    have HZn := hide (box_grown HZ.out hg (by simp))
    have HSn := hide (box_grown HS.out hg (by simp))
    have HAn := hide (box_grown HA.out hg (by simp))
    have OAn := hide (OA.out.grown hg)
    have OYn := hide (OY.out.grown hg)
    clear HG HT HZ HS HA OA OY
    have HG := HGn
    have HT := HTn
    have HZ := HZn
    have HS := HSn
    have HA := HAn
    have OA := OAn
    have OY := OYn
    clear HGn HTn HZn HSn HAn OAn OYn
    clear hg
    have HY := HYq
    clear HYq
    generalize hWx : w8.alloc (.cells #[.int .i64 0, .slice u2 0 c2] 26) = w9 at *
    generalize hBx : w8.heap.size = BY at *
    clear hWx hBx
    have cT0 : w9.cell? ⟨BT, 0, none⟩ = some (.int .i64 1) := blk_cell HT.out 0
    have cT1 : w9.cell? ⟨BT, 1, none⟩ = some (.int .i64 9) := blk_cell HT.out 1
    have cT2 : w9.cell? ⟨BT, 2, none⟩ = some (.int .i64 8) := blk_cell HT.out 2
    have cT3 : w9.cell? ⟨BT, 3, none⟩ = some (.int .i64 2) := blk_cell HT.out 3
    have cT4 : w9.cell? ⟨BT, 4, none⟩ = some (.int .i64 3) := blk_cell HT.out 4
    have cT5 : w9.cell? ⟨BT, 5, none⟩ = some (.int .i64 4) := blk_cell HT.out 5
    go_wp2_with (first | fail)
    refine (may_at (t := fT) (b := true) _ HANS.out.may).mono ?_; rintro e w10 ⟨rfl, hg⟩
    clear cT0 cT1 cT2 cT3 cT4 cT5
    have HGn := hide (grownBy_trans HG.out hg)
    have HTn := hide (box_grown HT.out hg (by simp))
    have HZn := hide (box_grown HZ.out hg (by simp))
    have HSn := hide (box_grown HS.out hg (by simp))
    have HAn := hide (box_grown HA.out hg (by simp))
    have HYn := hide (box_grown HY.out hg (by simp))
    have OAn := hide (OA.out.grown hg)
    have OYn := hide (OY.out.grown hg)
    clear HG HT HZ HS HA HY OA OY
    have HG := HGn
    have HT := HTn
    have HZ := HZn
    have HS := HSn
    have HA := HAn
    have HY := HYn
    have OA := OAn
    have OY := OYn
    clear HGn HTn HZn HSn HAn HYn OAn OYn
    clear hg
    have cA0 : w10.cell? ⟨BA, 0, none⟩ = some (.int .i64 0) := blk_cell HA.out 0
    have cA1 : w10.cell? ⟨BA, 1, none⟩ = some (.slice u1 0 c1) := blk_cell HA.out 1
    go_wp2_with (first | fail)
    refine (sameT_any 0 u1 none 0 0 c1 0 [] _ OA.out.row (rowAt_nil 0 _ none 0)).mono ?_; rintro e w11 ⟨rfl, hg⟩
    clear cA0 cA1
    have HGn := hide (grownBy_trans HG.out hg)
    have HTn := hide (box_grown HT.out hg (by simp))
    have HZn := hide (box_grown HZ.out hg (by simp))
    have HSn := hide (box_grown HS.out hg (by simp))
    have HAn := hide (box_grown HA.out hg (by simp))
    have HYn := hide (box_grown HY.out hg (by simp))
    have OAn := hide (OA.out.grown hg)
    have OYn := hide (OY.out.grown hg)
    clear HG HT HZ HS HA HY OA OY
    have HG := HGn
    have HT := HTn
    have HZ := HZn
    have HS := HSn
    have HA := HAn
    have HY := HYn
    have OA := OAn
    have OY := OYn
    clear HGn HTn HZn HSn HAn HYn OAn OYn
    clear hg
    have cY0 : w11.cell? ⟨BY, 0, none⟩ = some (.int .i64 0) := blk_cell HY.out 0
    have cY1 : w11.cell? ⟨BY, 1, none⟩ = some (.slice u2 0 c2) := blk_cell HY.out 1
    go_wp2_with (first | (go_at_call 14; refine (NUM.out _ _).mono ?_; rintro e wn ⟨rfl, rfl⟩) | fail)
    refine (sameT_any 0 u2 none 0 0 c2 0 [] _ OY.out.row (rowAt_nil 0 _ none 0)).mono ?_; rintro e w12 ⟨rfl, hg⟩
    clear cY0 cY1
    have HGn := hide (grownBy_trans HG.out hg)
    have HTn := hide (box_grown HT.out hg (by simp))
    have HZn := hide (box_grown HZ.out hg (by simp))
    have HSn := hide (box_grown HS.out hg (by simp))
    have HAn := hide (box_grown HA.out hg (by simp))
    have HYn := hide (box_grown HY.out hg (by simp))
    have OAn := hide (OA.out.grown hg)
    have OYn := hide (OY.out.grown hg)
    clear HG HT HZ HS HA HY OA OY
    have HG := HGn
    have HT := HTn
    have HZ := HZn
    have HS := HSn
    have HA := HAn
    have HY := HYn
    have OA := OAn
    have OY := OYn
    clear HGn HTn HZn HSn HAn HYn OAn OYn
    clear hg
    have cT0 : w12.cell? ⟨BT, 0, none⟩ = some (.int .i64 1) := blk_cell HT.out 0
    have cT1 : w12.cell? ⟨BT, 1, none⟩ = some (.int .i64 9) := blk_cell HT.out 1
    have cT2 : w12.cell? ⟨BT, 2, none⟩ = some (.int .i64 8) := blk_cell HT.out 2
    have cT3 : w12.cell? ⟨BT, 3, none⟩ = some (.int .i64 2) := blk_cell HT.out 3
    have cT4 : w12.cell? ⟨BT, 4, none⟩ = some (.int .i64 3) := blk_cell HT.out 4
    have cT5 : w12.cell? ⟨BT, 5, none⟩ = some (.int .i64 4) := blk_cell HT.out 5
    have cS0 : w12.cell? ⟨BS, 0, none⟩ = some (.int .i64 (-1 - d)) := blk_cell HS.out 0
    have cS1 : w12.cell? ⟨BS, 1, none⟩ = some (.slice (some ⟨BZ, 0, none⟩) 1 1) := blk_cell HS.out 1
    go_wp2_with (first | fail)
    refine (late_at (t := fT) (L := -1 - d) (zs := [5]) (now := 20) (b := false) _ (own_blk (n := 1) (xs := [5]) HZ.out rfl rfl (by decide)).row HANS.out.rel.2.2.2).mono ?_; rintro e w13 ⟨rfl, hg⟩
    clear cT0 cT1 cT2 cT3 cT4 cT5 cS0 cS1
    have HGn := hide (grownBy_trans HG.out hg)
    have HTn := hide (box_grown HT.out hg (by simp))
    have HZn := hide (box_grown HZ.out hg (by simp))
    have HSn := hide (box_grown HS.out hg (by simp))
    have HAn := hide (box_grown HA.out hg (by simp))
    have HYn := hide (box_grown HY.out hg (by simp))
    have OAn := hide (OA.out.grown hg)
    have OYn := hide (OY.out.grown hg)
    clear HG HT HZ HS HA HY OA OY
    have HG := HGn
    have HT := HTn
    have HZ := HZn
    have HS := HSn
    have HA := HAn
    have HY := HYn
    have OA := OAn
    have OY := OYn
    clear HGn HTn HZn HSn HAn HYn OAn OYn
    clear hg
    go_wp2_with (first | fail)
    go_ret
    exact ⟨rfl, HG.out⟩
  · skip
    have cS1 : w4.cell? ⟨BS, 1, none⟩ = some (.slice (some ⟨BZ, 0, none⟩) 1 1) := blk_cell HS.out 1
    have cZ0 : w4.cell? ⟨BZ, 0, none⟩ = some (.int .i64 5) := blk_cell HZ.out 0
    have fZ0 := blk_free HZ.out 0
    go_upto_region 44 with (first | fail)
    clear cS1 cZ0 fZ0
    have hg := grownBy_set w4 BZ 0 (.int .i64 (1 - d))
    have HGn := hide (grown_spoil HG.out LZ.out hg)
    have HTn := hide (box_type HT.out hg (type_box HZ.out) (by decide))
    have HSn := hide (box_type HS.out hg (type_box HZ.out) (by decide))
    have HZn := hide (blk_set (j := 0) (u := .int .i64 (1 - d)) (cs' := #[.int .i64 (1 - d)]) HZ.out rfl)
    clear HG HT HS HZ
    have HG := HGn
    have HT := HTn
    have HS := HSn
    have HZ := HZn
    clear HGn HTn HSn HZn
    clear hg
    generalize hWx : w4.setCell ⟨BZ, 0, none⟩ (.int .i64 (1 - d)) = w5 at *
    clear hWx
    have HANS := hide (fm10 hd1)
    have cT0 : w5.cell? ⟨BT, 0, none⟩ = some (.int .i64 1) := blk_cell HT.out 0
    have cT1 : w5.cell? ⟨BT, 1, none⟩ = some (.int .i64 9) := blk_cell HT.out 1
    have cT2 : w5.cell? ⟨BT, 2, none⟩ = some (.int .i64 8) := blk_cell HT.out 2
    have cT3 : w5.cell? ⟨BT, 3, none⟩ = some (.int .i64 2) := blk_cell HT.out 3
    have cT4 : w5.cell? ⟨BT, 4, none⟩ = some (.int .i64 3) := blk_cell HT.out 4
    have cT5 : w5.cell? ⟨BT, 5, none⟩ = some (.int .i64 4) := blk_cell HT.out 5
    have cS0 : w5.cell? ⟨BS, 0, none⟩ = some (.int .i64 1) := blk_cell HS.out 0
    have cS1 : w5.cell? ⟨BS, 1, none⟩ = some (.slice (some ⟨BZ, 0, none⟩) 1 1) := blk_cell HS.out 1
    go_wp2_with (first | fail)
    refine (pick_at (t := fT) (L := 1) (v := .slice (some ⟨BZ, 0, none⟩) 1 1) (zs := [1 - d]) (d := 7) (L' := 0) (E := 1100) (zs' := []) (N := 0) _ (own_blk (n := 1) (xs := [1 - d]) HZ.out rfl rfl (by simp)).row HANS.out.pick.1 HANS.out.pick.2 rfl).mono ?_; rintro e w6 ⟨u1, c1, rfl, ho, hg⟩
    clear cT0 cT1 cT2 cT3 cT4 cT5 cS0 cS1
    have HGn := hide (grownBy_trans HG.out hg)
    have HTn := hide (box_grown HT.out hg (by simp))
    have HZn := hide (box_grown HZ.out hg (by simp))
    have HSn := hide (box_grown HS.out hg (by simp))
    clear HG HT HZ HS
    have HG := HGn
    have HT := HTn
    have HZ := HZn
    have HS := HSn
    clear HGn HTn HZn HSn
    clear hg
    have OA := hide (ho.base (Nat.zero_le _))
    clear ho
    go_upto_region 45 with (first | fail)
    have hg := World.grownBy_alloc w6 (.cells #[.int .i64 0, .slice u1 0 c1] 26) none
    have HAq := hide (heap_alloc_new w6 (.cells #[.int .i64 0, .slice u1 0 c1] 26))
    have LA := hide HG.out.size
    have HGn := hide (grownBy_trans HG.out hg)
    have HTn := hide (box_grown HT.out hg (by simp))
    have HZn := hide (box_grown HZ.out hg (by simp))
    have HSn := hide (box_grown HS.out hg (by simp))
    have OAn := hide (OA.out.grown hg)
    clear HG HT HZ HS OA
    have HG := HGn
    have HT := HTn
    have HZ := HZn
    have HS := HSn
    have OA := OAn
    clear HGn HTn HZn HSn OAn
    clear hg
    have HA := HAq
    clear HAq
    generalize hWx : w6.alloc (.cells #[.int .i64 0, .slice u1 0 c1] 26) = w7 at *
    generalize hBx : w6.heap.size = BA at *
    clear hWx hBx
    have cT0 : w7.cell? ⟨BT, 0, none⟩ = some (.int .i64 1) := blk_cell HT.out 0
    have cT1 : w7.cell? ⟨BT, 1, none⟩ = some (.int .i64 9) := blk_cell HT.out 1
    have cT2 : w7.cell? ⟨BT, 2, none⟩ = some (.int .i64 8) := blk_cell HT.out 2
    have cT3 : w7.cell? ⟨BT, 3, none⟩ = some (.int .i64 2) := blk_cell HT.out 3
    have cT4 : w7.cell? ⟨BT, 4, none⟩ = some (.int .i64 3) := blk_cell HT.out 4
    have cT5 : w7.cell? ⟨BT, 5, none⟩ = some (.int .i64 4) := blk_cell HT.out 5
    have cS0 : w7.cell? ⟨BS, 0, none⟩ = some (.int .i64 1) := blk_cell HS.out 0
    have cS1 : w7.cell? ⟨BS, 1, none⟩ = some (.slice (some ⟨BZ, 0, none⟩) 1 1) := blk_cell HS.out 1
    go_wp2_with (first | fail)
    refine (rel_at (t := fT) (L := 1) (v := .slice (some ⟨BZ, 0, none⟩) 1 1) (zs := [1 - d]) (now := 20) (L' := 0) (D := 0) (b := false) (zs' := []) (N := 0) _ (own_blk (n := 1) (xs := [1 - d]) HZ.out rfl rfl (by simp)).row HANS.out.rel.1 HANS.out.rel.2.1 HANS.out.rel.2.2.1 rfl).mono ?_; rintro e w8 ⟨u2, c2, rfl, ho, hg⟩
    clear cT0 cT1 cT2 cT3 cT4 cT5 cS0 cS1
    have HGn := hide (grownBy_trans HG.out hg)
    have HTn := hide (box_grown HT.out hg (by simp))
    have HZn := hide (box_grown HZ.out hg (by simp))
    have HSn := hide (box_grown HS.out hg (by simp))
    have HAn := hide (box_grown HA.out hg (by simp))
    have OAn := hide (OA.out.grown hg)
    clear HG HT HZ HS HA OA
    have HG := HGn
    have HT := HTn
    have HZ := HZn
    have HS := HSn
    have HA := HAn
    have OA := OAn
    clear HGn HTn HZn HSn HAn OAn
    clear hg
    have OY := hide (ho.base (Nat.zero_le _))
    clear ho
    go_upto_region 46 with (first | fail)
    have hg := World.grownBy_alloc w8 (.cells #[.int .i64 0, .slice u2 0 c2] 26) none
    have HYq := hide (heap_alloc_new w8 (.cells #[.int .i64 0, .slice u2 0 c2] 26))
    have LY := hide HG.out.size
    have HGn := hide (grownBy_trans HG.out hg)
    have HTn := hide (box_grown HT.out hg (by simp))
    have HZn := hide (box_grown HZ.out hg (by simp))
    have HSn := hide (box_grown HS.out hg (by simp))
    have HAn := hide (box_grown HA.out hg (by simp))
    have OAn := hide (OA.out.grown hg)
    have OYn := hide (OY.out.grown hg)
    clear HG HT HZ HS HA OA OY
    have HG := HGn
    have HT := HTn
    have HZ := HZn
    have HS := HSn
    have HA := HAn
    have OA := OAn
    have OY := OYn
    clear HGn HTn HZn HSn HAn OAn OYn
    clear hg
    have HY := HYq
    clear HYq
    generalize hWx : w8.alloc (.cells #[.int .i64 0, .slice u2 0 c2] 26) = w9 at *
    generalize hBx : w8.heap.size = BY at *
    clear hWx hBx
    have cT0 : w9.cell? ⟨BT, 0, none⟩ = some (.int .i64 1) := blk_cell HT.out 0
    have cT1 : w9.cell? ⟨BT, 1, none⟩ = some (.int .i64 9) := blk_cell HT.out 1
    have cT2 : w9.cell? ⟨BT, 2, none⟩ = some (.int .i64 8) := blk_cell HT.out 2
    have cT3 : w9.cell? ⟨BT, 3, none⟩ = some (.int .i64 2) := blk_cell HT.out 3
    have cT4 : w9.cell? ⟨BT, 4, none⟩ = some (.int .i64 3) := blk_cell HT.out 4
    have cT5 : w9.cell? ⟨BT, 5, none⟩ = some (.int .i64 4) := blk_cell HT.out 5
    go_wp2_with (first | fail)
    refine (may_at (t := fT) (b := true) _ HANS.out.may).mono ?_; rintro e w10 ⟨rfl, hg⟩
    clear cT0 cT1 cT2 cT3 cT4 cT5
    have HGn := hide (grownBy_trans HG.out hg)
    have HTn := hide (box_grown HT.out hg (by simp))
    have HZn := hide (box_grown HZ.out hg (by simp))
    have HSn := hide (box_grown HS.out hg (by simp))
    have HAn := hide (box_grown HA.out hg (by simp))
    have HYn := hide (box_grown HY.out hg (by simp))
    have OAn := hide (OA.out.grown hg)
    have OYn := hide (OY.out.grown hg)
    clear HG HT HZ HS HA HY OA OY
    have HG := HGn
    have HT := HTn
    have HZ := HZn
    have HS := HSn
    have HA := HAn
    have HY := HYn
    have OA := OAn
    have OY := OYn
    clear HGn HTn HZn HSn HAn HYn OAn OYn
    clear hg
    have cA0 : w10.cell? ⟨BA, 0, none⟩ = some (.int .i64 0) := blk_cell HA.out 0
    have cA1 : w10.cell? ⟨BA, 1, none⟩ = some (.slice u1 0 c1) := blk_cell HA.out 1
    go_wp2_with (first | fail)
    refine (sameT_any 0 u1 none 0 0 c1 0 [] _ OA.out.row (rowAt_nil 0 _ none 0)).mono ?_; rintro e w11 ⟨rfl, hg⟩
    clear cA0 cA1
    have HGn := hide (grownBy_trans HG.out hg)
    have HTn := hide (box_grown HT.out hg (by simp))
    have HZn := hide (box_grown HZ.out hg (by simp))
    have HSn := hide (box_grown HS.out hg (by simp))
    have HAn := hide (box_grown HA.out hg (by simp))
    have HYn := hide (box_grown HY.out hg (by simp))
    have OAn := hide (OA.out.grown hg)
    have OYn := hide (OY.out.grown hg)
    clear HG HT HZ HS HA HY OA OY
    have HG := HGn
    have HT := HTn
    have HZ := HZn
    have HS := HSn
    have HA := HAn
    have HY := HYn
    have OA := OAn
    have OY := OYn
    clear HGn HTn HZn HSn HAn HYn OAn OYn
    clear hg
    have cY0 : w11.cell? ⟨BY, 0, none⟩ = some (.int .i64 0) := blk_cell HY.out 0
    have cY1 : w11.cell? ⟨BY, 1, none⟩ = some (.slice u2 0 c2) := blk_cell HY.out 1
    go_wp2_with (first | (go_at_call 14; refine (NUM.out _ _).mono ?_; rintro e wn ⟨rfl, rfl⟩) | fail)
    refine (sameT_any 0 u2 none 0 0 c2 0 [] _ OY.out.row (rowAt_nil 0 _ none 0)).mono ?_; rintro e w12 ⟨rfl, hg⟩
    clear cY0 cY1
    have HGn := hide (grownBy_trans HG.out hg)
    have HTn := hide (box_grown HT.out hg (by simp))
    have HZn := hide (box_grown HZ.out hg (by simp))
    have HSn := hide (box_grown HS.out hg (by simp))
    have HAn := hide (box_grown HA.out hg (by simp))
    have HYn := hide (box_grown HY.out hg (by simp))
    have OAn := hide (OA.out.grown hg)
    have OYn := hide (OY.out.grown hg)
    clear HG HT HZ HS HA HY OA OY
    have HG := HGn
    have HT := HTn
    have HZ := HZn
    have HS := HSn
    have HA := HAn
    have HY := HYn
    have OA := OAn
    have OY := OYn
    clear HGn HTn HZn HSn HAn HYn OAn OYn
    clear hg
    have cT0 : w12.cell? ⟨BT, 0, none⟩ = some (.int .i64 1) := blk_cell HT.out 0
    have cT1 : w12.cell? ⟨BT, 1, none⟩ = some (.int .i64 9) := blk_cell HT.out 1
    have cT2 : w12.cell? ⟨BT, 2, none⟩ = some (.int .i64 8) := blk_cell HT.out 2
    have cT3 : w12.cell? ⟨BT, 3, none⟩ = some (.int .i64 2) := blk_cell HT.out 3
    have cT4 : w12.cell? ⟨BT, 4, none⟩ = some (.int .i64 3) := blk_cell HT.out 4
    have cT5 : w12.cell? ⟨BT, 5, none⟩ = some (.int .i64 4) := blk_cell HT.out 5
    have cS0 : w12.cell? ⟨BS, 0, none⟩ = some (.int .i64 1) := blk_cell HS.out 0
    have cS1 : w12.cell? ⟨BS, 1, none⟩ = some (.slice (some ⟨BZ, 0, none⟩) 1 1) := blk_cell HS.out 1
    go_wp2_with (first | fail)
    refine (late_at (t := fT) (L := 1) (zs := [1 - d]) (now := 20) (b := false) _ (own_blk (n := 1) (xs := [1 - d]) HZ.out rfl rfl (by simp)).row HANS.out.rel.2.2.2).mono ?_; rintro e w13 ⟨rfl, hg⟩
    clear cT0 cT1 cT2 cT3 cT4 cT5 cS0 cS1
    have HGn := hide (grownBy_trans HG.out hg)
    have HTn := hide (box_grown HT.out hg (by simp))
    have HZn := hide (box_grown HZ.out hg (by simp))
    have HSn := hide (box_grown HS.out hg (by simp))
    have HAn := hide (box_grown HA.out hg (by simp))
    have HYn := hide (box_grown HY.out hg (by simp))
    have OAn := hide (OA.out.grown hg)
    have OYn := hide (OY.out.grown hg)
    clear HG HT HZ HS HA HY OA OY
    have HG := HGn
    have HT := HTn
    have HZ := HZn
    have HS := HSn
    have HA := HAn
    have HY := HYn
    have OA := OAn
    have OY := OYn
    clear HGn HTn HZn HSn HAn HYn OAn OYn
    clear hg
    go_wp2_with (first | fail)
    go_ret
    exact ⟨rfl, HG.out⟩
  · skip
    have cS1 : (w4.alloc (.cells #[.int .i64 1, .int .i64 2, .int .i64 3, .int .i64 4, .int .i64 5] 3)).cell? ⟨BS, 1, none⟩ = some (.slice (some ⟨BZ, 0, none⟩) 1 1) := blk_cell (hp_up HS.out _) 1
    have fS1 : (w4.alloc (.cells #[.int .i64 1, .int .i64 2, .int .i64 3, .int .i64 4, .int .i64 5] 3)).frozen? ⟨BS, 1, none⟩ = false := blk_free (hp_up HS.out _) 1
    go_upto_region 44 with (first | fail)
    clear cS1 fS1
    have hg := World.grownBy_alloc w4 (.cells #[.int .i64 1, .int .i64 2, .int .i64 3, .int .i64 4, .int .i64 5] 3) none
    have HQq := hide (heap_alloc_new w4 (.cells #[.int .i64 1, .int .i64 2, .int .i64 3, .int .i64 4, .int .i64 5] 3))
    have LQ := hide HG.out.size
    have HGn := hide (grownBy_trans HG.out hg)
    have HTn := hide (box_grown HT.out hg (by simp))
    have HZn := hide (box_grown HZ.out hg (by simp))
    have HSn := hide (box_grown HS.out hg (by simp))
    clear HG HT HZ HS
    have HG := HGn
    have HT := HTn
    have HZ := HZn
    have HS := HSn
    clear HGn HTn HZn HSn
    clear hg
    have HQ := HQq
    clear HQq
    generalize hWx : w4.alloc (.cells #[.int .i64 1, .int .i64 2, .int .i64 3, .int .i64 4, .int .i64 5] 3) = w5 at *
    generalize hBx : w4.heap.size = BQ at *
    clear hWx hBx
    have hg := grownBy_set w5 BS 1 (.slice (some ⟨BQ, 0, none⟩) 5 5)
    have HGn := hide (grown_spoil HG.out LS.out hg)
    have HTn := hide (box_type HT.out hg (type_box HS.out) (by decide))
    have HZn := hide (box_type HZ.out hg (type_box HS.out) (by decide))
    have HQn := hide (box_type HQ.out hg (type_box HS.out) (by decide))
    have HSn := hide (blk_set (j := 1) (u := .slice (some ⟨BQ, 0, none⟩) 5 5) (cs' := #[.int .i64 1, .slice (some ⟨BQ, 0, none⟩) 5 5]) HS.out rfl)
    clear HG HT HZ HQ HS
    have HG := HGn
    have HT := HTn
    have HZ := HZn
    have HQ := HQn
    have HS := HSn
    clear HGn HTn HZn HQn HSn
    clear hg
    generalize hWx : w5.setCell ⟨BS, 1, none⟩ (.slice (some ⟨BQ, 0, none⟩) 5 5) = w6 at *
    clear hWx
    have HANS := hide (fm11)
    have cT0 : w6.cell? ⟨BT, 0, none⟩ = some (.int .i64 1) := blk_cell HT.out 0
    have cT1 : w6.cell? ⟨BT, 1, none⟩ = some (.int .i64 9) := blk_cell HT.out 1
    have cT2 : w6.cell? ⟨BT, 2, none⟩ = some (.int .i64 8) := blk_cell HT.out 2
    have cT3 : w6.cell? ⟨BT, 3, none⟩ = some (.int .i64 2) := blk_cell HT.out 3
    have cT4 : w6.cell? ⟨BT, 4, none⟩ = some (.int .i64 3) := blk_cell HT.out 4
    have cT5 : w6.cell? ⟨BT, 5, none⟩ = some (.int .i64 4) := blk_cell HT.out 5
    have cS0 : w6.cell? ⟨BS, 0, none⟩ = some (.int .i64 1) := blk_cell HS.out 0
    have cS1 : w6.cell? ⟨BS, 1, none⟩ = some (.slice (some ⟨BQ, 0, none⟩) 5 5) := blk_cell HS.out 1
    go_wp2_with (first | fail)
    refine (pick_at (t := fT) (L := 1) (v := .slice (some ⟨BQ, 0, none⟩) 5 5) (zs := [1, 2, 3, 4, 5]) (d := 7) (L' := 0) (E := 1100) (zs' := []) (N := 0) _ (own_blk (n := 5) (xs := [1, 2, 3, 4, 5]) HQ.out rfl rfl (by decide)).row HANS.out.pick.1 HANS.out.pick.2 rfl).mono ?_; rintro e w7 ⟨u1, c1, rfl, ho, hg⟩
    clear cT0 cT1 cT2 cT3 cT4 cT5 cS0 cS1
    have HGn := hide (grownBy_trans HG.out hg)
    have HTn := hide (box_grown HT.out hg (by simp))
    have HZn := hide (box_grown HZ.out hg (by simp))
    have HSn := hide (box_grown HS.out hg (by simp))
    have HQn := hide (box_grown HQ.out hg (by simp))
    clear HG HT HZ HS HQ
    have HG := HGn
    have HT := HTn
    have HZ := HZn
    have HS := HSn
    have HQ := HQn
    clear HGn HTn HZn HSn HQn
    clear hg
    have OA := hide (ho.base (Nat.zero_le _))
    clear ho
    go_upto_region 45 with (first | fail)
    have hg := World.grownBy_alloc w7 (.cells #[.int .i64 0, .slice u1 0 c1] 26) none
    have HAq := hide (heap_alloc_new w7 (.cells #[.int .i64 0, .slice u1 0 c1] 26))
    have LA := hide HG.out.size
    have HGn := hide (grownBy_trans HG.out hg)
    have HTn := hide (box_grown HT.out hg (by simp))
    have HZn := hide (box_grown HZ.out hg (by simp))
    have HSn := hide (box_grown HS.out hg (by simp))
    have HQn := hide (box_grown HQ.out hg (by simp))
    have OAn := hide (OA.out.grown hg)
    clear HG HT HZ HS HQ OA
    have HG := HGn
    have HT := HTn
    have HZ := HZn
    have HS := HSn
    have HQ := HQn
    have OA := OAn
    clear HGn HTn HZn HSn HQn OAn
    clear hg
    have HA := HAq
    clear HAq
    generalize hWx : w7.alloc (.cells #[.int .i64 0, .slice u1 0 c1] 26) = w8 at *
    generalize hBx : w7.heap.size = BA at *
    clear hWx hBx
    have cT0 : w8.cell? ⟨BT, 0, none⟩ = some (.int .i64 1) := blk_cell HT.out 0
    have cT1 : w8.cell? ⟨BT, 1, none⟩ = some (.int .i64 9) := blk_cell HT.out 1
    have cT2 : w8.cell? ⟨BT, 2, none⟩ = some (.int .i64 8) := blk_cell HT.out 2
    have cT3 : w8.cell? ⟨BT, 3, none⟩ = some (.int .i64 2) := blk_cell HT.out 3
    have cT4 : w8.cell? ⟨BT, 4, none⟩ = some (.int .i64 3) := blk_cell HT.out 4
    have cT5 : w8.cell? ⟨BT, 5, none⟩ = some (.int .i64 4) := blk_cell HT.out 5
    have cS0 : w8.cell? ⟨BS, 0, none⟩ = some (.int .i64 1) := blk_cell HS.out 0
    have cS1 : w8.cell? ⟨BS, 1, none⟩ = some (.slice (some ⟨BQ, 0, none⟩) 5 5) := blk_cell HS.out 1
    go_wp2_with (first | fail)
    refine (rel_at (t := fT) (L := 1) (v := .slice (some ⟨BQ, 0, none⟩) 5 5) (zs := [1, 2, 3, 4, 5]) (now := 20) (L' := 0) (D := 0) (b := false) (zs' := []) (N := 0) _ (own_blk (n := 5) (xs := [1, 2, 3, 4, 5]) HQ.out rfl rfl (by decide)).row HANS.out.rel.1 HANS.out.rel.2.1 HANS.out.rel.2.2.1 rfl).mono ?_; rintro e w9 ⟨u2, c2, rfl, ho, hg⟩
    clear cT0 cT1 cT2 cT3 cT4 cT5 cS0 cS1
    have HGn := hide (grownBy_trans HG.out hg)
    have HTn := hide (box_grown HT.out hg (by simp))
    have HZn := hide (box_grown HZ.out hg (by simp))
    have HSn := hide (box_grown HS.out hg (by simp))
    have HQn := hide (box_grown HQ.out hg (by simp))
    have HAn := hide (box_grown HA.out hg (by simp))
    have OAn := hide (OA.out.grown hg)
    clear HG HT HZ HS HQ HA OA
    have HG := HGn
    have HT := HTn
    have HZ := HZn
    have HS := HSn
    have HQ := HQn
    have HA := HAn
    have OA := OAn
    clear HGn HTn HZn HSn HQn HAn OAn
    clear hg
    have OY := hide (ho.base (Nat.zero_le _))
    clear ho
    go_upto_region 46 with (first | fail)
    have hg := World.grownBy_alloc w9 (.cells #[.int .i64 0, .slice u2 0 c2] 26) none
    have HYq := hide (heap_alloc_new w9 (.cells #[.int .i64 0, .slice u2 0 c2] 26))
    have LY := hide HG.out.size
    have HGn := hide (grownBy_trans HG.out hg)
    have HTn := hide (box_grown HT.out hg (by simp))
    have HZn := hide (box_grown HZ.out hg (by simp))
    have HSn := hide (box_grown HS.out hg (by simp))
    have HQn := hide (box_grown HQ.out hg (by simp))
    have HAn := hide (box_grown HA.out hg (by simp))
    have OAn := hide (OA.out.grown hg)
    have OYn := hide (OY.out.grown hg)
    clear HG HT HZ HS HQ HA OA OY
    have HG := HGn
    have HT := HTn
    have HZ := HZn
    have HS := HSn
    have HQ := HQn
    have HA := HAn
    have OA := OAn
    have OY := OYn
    clear HGn HTn HZn HSn HQn HAn OAn OYn
    clear hg
    have HY := HYq
    clear HYq
    generalize hWx : w9.alloc (.cells #[.int .i64 0, .slice u2 0 c2] 26) = w10 at *
    generalize hBx : w9.heap.size = BY at *
    clear hWx hBx
    have cT0 : w10.cell? ⟨BT, 0, none⟩ = some (.int .i64 1) := blk_cell HT.out 0
    have cT1 : w10.cell? ⟨BT, 1, none⟩ = some (.int .i64 9) := blk_cell HT.out 1
    have cT2 : w10.cell? ⟨BT, 2, none⟩ = some (.int .i64 8) := blk_cell HT.out 2
    have cT3 : w10.cell? ⟨BT, 3, none⟩ = some (.int .i64 2) := blk_cell HT.out 3
    have cT4 : w10.cell? ⟨BT, 4, none⟩ = some (.int .i64 3) := blk_cell HT.out 4
    have cT5 : w10.cell? ⟨BT, 5, none⟩ = some (.int .i64 4) := blk_cell HT.out 5
    go_wp2_with (first | fail)
    refine (may_at (t := fT) (b := true) _ HANS.out.may).mono ?_; rintro e w11 ⟨rfl, hg⟩
    clear cT0 cT1 cT2 cT3 cT4 cT5
    have HGn := hide (grownBy_trans HG.out hg)
    have HTn := hide (box_grown HT.out hg (by simp))
    have HZn := hide (box_grown HZ.out hg (by simp))
    have HSn := hide (box_grown HS.out hg (by simp))
    have HQn := hide (box_grown HQ.out hg (by simp))
    have HAn := hide (box_grown HA.out hg (by simp))
    have HYn := hide (box_grown HY.out hg (by simp))
    have OAn := hide (OA.out.grown hg)
    have OYn := hide (OY.out.grown hg)
    clear HG HT HZ HS HQ HA HY OA OY
    have HG := HGn
    have HT := HTn
    have HZ := HZn
    have HS := HSn
    have HQ := HQn
    have HA := HAn
    have HY := HYn
    have OA := OAn
    have OY := OYn
    clear HGn HTn HZn HSn HQn HAn HYn OAn OYn
    clear hg
    have cA0 : w11.cell? ⟨BA, 0, none⟩ = some (.int .i64 0) := blk_cell HA.out 0
    have cA1 : w11.cell? ⟨BA, 1, none⟩ = some (.slice u1 0 c1) := blk_cell HA.out 1
    go_wp2_with (first | fail)
    refine (sameT_any 0 u1 none 0 0 c1 0 [] _ OA.out.row (rowAt_nil 0 _ none 0)).mono ?_; rintro e w12 ⟨rfl, hg⟩
    clear cA0 cA1
    have HGn := hide (grownBy_trans HG.out hg)
    have HTn := hide (box_grown HT.out hg (by simp))
    have HZn := hide (box_grown HZ.out hg (by simp))
    have HSn := hide (box_grown HS.out hg (by simp))
    have HQn := hide (box_grown HQ.out hg (by simp))
    have HAn := hide (box_grown HA.out hg (by simp))
    have HYn := hide (box_grown HY.out hg (by simp))
    have OAn := hide (OA.out.grown hg)
    have OYn := hide (OY.out.grown hg)
    clear HG HT HZ HS HQ HA HY OA OY
    have HG := HGn
    have HT := HTn
    have HZ := HZn
    have HS := HSn
    have HQ := HQn
    have HA := HAn
    have HY := HYn
    have OA := OAn
    have OY := OYn
    clear HGn HTn HZn HSn HQn HAn HYn OAn OYn
    clear hg
    have cY0 : w12.cell? ⟨BY, 0, none⟩ = some (.int .i64 0) := blk_cell HY.out 0
    have cY1 : w12.cell? ⟨BY, 1, none⟩ = some (.slice u2 0 c2) := blk_cell HY.out 1
    go_wp2_with (first | (go_at_call 14; refine (NUM.out _ _).mono ?_; rintro e wn ⟨rfl, rfl⟩) | fail)
    refine (sameT_any 0 u2 none 0 0 c2 0 [] _ OY.out.row (rowAt_nil 0 _ none 0)).mono ?_; rintro e w13 ⟨rfl, hg⟩
    clear cY0 cY1
    have HGn := hide (grownBy_trans HG.out hg)
    have HTn := hide (box_grown HT.out hg (by simp))
    have HZn := hide (box_grown HZ.out hg (by simp))
    have HSn := hide (box_grown HS.out hg (by simp))
    have HQn := hide (box_grown HQ.out hg (by simp))
    have HAn := hide (box_grown HA.out hg (by simp))
    have HYn := hide (box_grown HY.out hg (by simp))
    have OAn := hide (OA.out.grown hg)
    have OYn := hide (OY.out.grown hg)
    clear HG HT HZ HS HQ HA HY OA OY
    have HG := HGn
    have HT := HTn
    have HZ := HZn
    have HS := HSn
    have HQ := HQn
    have HA := HAn
    have HY := HYn
    have OA := OAn
    have OY := OYn
    clear HGn HTn HZn HSn HQn HAn HYn OAn OYn
    clear hg
    have cT0 : w13.cell? ⟨BT, 0, none⟩ = some (.int .i64 1) := blk_cell HT.out 0
    have cT1 : w13.cell? ⟨BT, 1, none⟩ = some (.int .i64 9) := blk_cell HT.out 1
    have cT2 : w13.cell? ⟨BT, 2, none⟩ = some (.int .i64 8) := blk_cell HT.out 2
    have cT3 : w13.cell? ⟨BT, 3, none⟩ = some (.int .i64 2) := blk_cell HT.out 3
    have cT4 : w13.cell? ⟨BT, 4, none⟩ = some (.int .i64 3) := blk_cell HT.out 4
    have cT5 : w13.cell? ⟨BT, 5, none⟩ = some (.int .i64 4) := blk_cell HT.out 5
    have cS0 : w13.cell? ⟨BS, 0, none⟩ = some (.int .i64 1) := blk_cell HS.out 0
    have cS1 : w13.cell? ⟨BS, 1, none⟩ = some (.slice (some ⟨BQ, 0, none⟩) 5 5) := blk_cell HS.out 1
    go_wp2_with (first | fail)
    refine (late_at (t := fT) (L := 1) (zs := [1, 2, 3, 4, 5]) (now := 20) (b := false) _ (own_blk (n := 5) (xs := [1, 2, 3, 4, 5]) HQ.out rfl rfl (by decide)).row HANS.out.rel.2.2.2).mono ?_; rintro e w14 ⟨rfl, hg⟩
    clear cT0 cT1 cT2 cT3 cT4 cT5 cS0 cS1
    have HGn := hide (grownBy_trans HG.out hg)
    have HTn := hide (box_grown HT.out hg (by simp))
    have HZn := hide (box_grown HZ.out hg (by simp))
    have HSn := hide (box_grown HS.out hg (by simp))
    have HQn := hide (box_grown HQ.out hg (by simp))
    have HAn := hide (box_grown HA.out hg (by simp))
    have HYn := hide (box_grown HY.out hg (by simp))
    have OAn := hide (OA.out.grown hg)
    have OYn := hide (OY.out.grown hg)
    clear HG HT HZ HS HQ HA HY OA OY
    have HG := HGn
    have HT := HTn
    have HZ := HZn
    have HS := HSn
    have HQ := HQn
    have HA := HAn
    have HY := HYn
    have OA := OAn
    have OY := OYn
    clear HGn HTn HZn HSn HQn HAn HYn OAn OYn
    clear hg
    go_wp2_with (first | fail)
    go_ret
    exact ⟨rfl, HG.out⟩
  · skip
    go_upto_region 44 with (first | fail)
    have HANS := hide (fm12 hd1)
    have cT0 : w4.cell? ⟨BT, 0, none⟩ = some (.int .i64 1) := blk_cell HT.out 0
    have cT1 : w4.cell? ⟨BT, 1, none⟩ = some (.int .i64 9) := blk_cell HT.out 1
    have cT2 : w4.cell? ⟨BT, 2, none⟩ = some (.int .i64 8) := blk_cell HT.out 2
    have cT3 : w4.cell? ⟨BT, 3, none⟩ = some (.int .i64 2) := blk_cell HT.out 3
    have cT4 : w4.cell? ⟨BT, 4, none⟩ = some (.int .i64 3) := blk_cell HT.out 4
    have cT5 : w4.cell? ⟨BT, 5, none⟩ = some (.int .i64 4) := blk_cell HT.out 5
    have cS0 : w4.cell? ⟨BS, 0, none⟩ = some (.int .i64 1) := blk_cell HS.out 0
    have cS1 : w4.cell? ⟨BS, 1, none⟩ = some (.slice (some ⟨BZ, 0, none⟩) 1 1) := blk_cell HS.out 1
    go_wp2_with (first | fail)
    refine (pick_at (t := fT) (L := 1) (v := .slice (some ⟨BZ, 0, none⟩) 1 1) (zs := [5]) (d := 65535 + d) (L' := 0) (E := 1100) (zs' := []) (N := 0) _ (own_blk (n := 1) (xs := [5]) HZ.out rfl rfl (by decide)).row HANS.out.pick.1 HANS.out.pick.2 rfl).mono ?_; rintro e w5 ⟨u1, c1, rfl, ho, hg⟩
    clear cT0 cT1 cT2 cT3 cT4 cT5 cS0 cS1
    have HGn := hide (grownBy_trans HG.out hg)
    have HTn := hide (box_grown HT.out hg (by simp))
    have HZn := hide (box_grown HZ.out hg (by simp))
    have HSn := hide (box_grown HS.out hg (by simp))
    clear HG HT HZ HS
    have HG := HGn
    have HT := HTn
    have HZ := HZn
    have HS := HSn
    clear HGn HTn HZn HSn
    clear hg
    have OA := hide (ho.base (Nat.zero_le _))
    clear ho
    go_upto_region 45 with (first | fail)
    have hg := World.grownBy_alloc w5 (.cells #[.int .i64 0, .slice u1 0 c1] 26) none
    have HAq := hide (heap_alloc_new w5 (.cells #[.int .i64 0, .slice u1 0 c1] 26))
    have LA := hide HG.out.size
    have HGn := hide (grownBy_trans HG.out hg)
    have HTn := hide (box_grown HT.out hg (by simp))
    have HZn := hide (box_grown HZ.out hg (by simp))
    have HSn := hide (box_grown HS.out hg (by simp))
    have OAn := hide (OA.out.grown hg)
    clear HG HT HZ HS OA
    have HG := HGn
    have HT := HTn
    have HZ := HZn
    have HS := HSn
    have OA := OAn
    clear HGn HTn HZn HSn OAn
    clear hg
    have HA := HAq
    clear HAq
    generalize hWx : w5.alloc (.cells #[.int .i64 0, .slice u1 0 c1] 26) = w6 at *
    generalize hBx : w5.heap.size = BA at *
    clear hWx hBx
    have cT0 : w6.cell? ⟨BT, 0, none⟩ = some (.int .i64 1) := blk_cell HT.out 0
    have cT1 : w6.cell? ⟨BT, 1, none⟩ = some (.int .i64 9) := blk_cell HT.out 1
    have cT2 : w6.cell? ⟨BT, 2, none⟩ = some (.int .i64 8) := blk_cell HT.out 2
    have cT3 : w6.cell? ⟨BT, 3, none⟩ = some (.int .i64 2) := blk_cell HT.out 3
    have cT4 : w6.cell? ⟨BT, 4, none⟩ = some (.int .i64 3) := blk_cell HT.out 4
    have cT5 : w6.cell? ⟨BT, 5, none⟩ = some (.int .i64 4) := blk_cell HT.out 5
    have cS0 : w6.cell? ⟨BS, 0, none⟩ = some (.int .i64 1) := blk_cell HS.out 0
    have cS1 : w6.cell? ⟨BS, 1, none⟩ = some (.slice (some ⟨BZ, 0, none⟩) 1 1) := blk_cell HS.out 1
    go_wp2_with (first | fail)
    refine (rel_at (t := fT) (L := 1) (v := .slice (some ⟨BZ, 0, none⟩) 1 1) (zs := [5]) (now := -d) (L' := 0) (D := 0) (b := false) (zs' := []) (N := 0) _ (own_blk (n := 1) (xs := [5]) HZ.out rfl rfl (by decide)).row HANS.out.rel.1 HANS.out.rel.2.1 HANS.out.rel.2.2.1 rfl).mono ?_; rintro e w7 ⟨u2, c2, rfl, ho, hg⟩
    clear cT0 cT1 cT2 cT3 cT4 cT5 cS0 cS1
    have HGn := hide (grownBy_trans HG.out hg)
    have HTn := hide (box_grown HT.out hg (by simp))
    have HZn := hide (box_grown HZ.out hg (by simp))
    have HSn := hide (box_grown HS.out hg (by simp))
    have HAn := hide (box_grown HA.out hg (by simp))
    have OAn := hide (OA.out.grown hg)
    clear HG HT HZ HS HA OA
    have HG := HGn
    have HT := HTn
    have HZ := HZn
    have HS := HSn
    have HA := HAn
    have OA := OAn
    clear HGn HTn HZn HSn HAn OAn
    clear hg
    have OY := hide (ho.base (Nat.zero_le _))
    clear ho
    go_upto_region 46 with (first | fail)
    have hg := World.grownBy_alloc w7 (.cells #[.int .i64 0, .slice u2 0 c2] 26) none
    have HYq := hide (heap_alloc_new w7 (.cells #[.int .i64 0, .slice u2 0 c2] 26))
    have LY := hide HG.out.size
    have HGn := hide (grownBy_trans HG.out hg)
    have HTn := hide (box_grown HT.out hg (by simp))
    have HZn := hide (box_grown HZ.out hg (by simp))
    have HSn := hide (box_grown HS.out hg (by simp))
    have HAn := hide (box_grown HA.out hg (by simp))
    have OAn := hide (OA.out.grown hg)
    have OYn := hide (OY.out.grown hg)
    clear HG HT HZ HS HA OA OY
    have HG := HGn
    have HT := HTn
    have HZ := HZn
    have HS := HSn
    have HA := HAn
    have OA := OAn
    have OY := OYn
    clear HGn HTn HZn HSn HAn OAn OYn
    clear hg
    have HY := HYq
    clear HYq
    generalize hWx : w7.alloc (.cells #[.int .i64 0, .slice u2 0 c2] 26) = w8 at *
    generalize hBx : w7.heap.size = BY at *
    clear hWx hBx
    have cT0 : w8.cell? ⟨BT, 0, none⟩ = some (.int .i64 1) := blk_cell HT.out 0
    have cT1 : w8.cell? ⟨BT, 1, none⟩ = some (.int .i64 9) := blk_cell HT.out 1
    have cT2 : w8.cell? ⟨BT, 2, none⟩ = some (.int .i64 8) := blk_cell HT.out 2
    have cT3 : w8.cell? ⟨BT, 3, none⟩ = some (.int .i64 2) := blk_cell HT.out 3
    have cT4 : w8.cell? ⟨BT, 4, none⟩ = some (.int .i64 3) := blk_cell HT.out 4
    have cT5 : w8.cell? ⟨BT, 5, none⟩ = some (.int .i64 4) := blk_cell HT.out 5
    go_wp2_with (first | fail)
    refine (may_at (t := fT) (b := true) _ HANS.out.may).mono ?_; rintro e w9 ⟨rfl, hg⟩
    clear cT0 cT1 cT2 cT3 cT4 cT5
    have HGn := hide (grownBy_trans HG.out hg)
    have HTn := hide (box_grown HT.out hg (by simp))
    have HZn := hide (box_grown HZ.out hg (by simp))
    have HSn := hide (box_grown HS.out hg (by simp))
    have HAn := hide (box_grown HA.out hg (by simp))
    have HYn := hide (box_grown HY.out hg (by simp))
    have OAn := hide (OA.out.grown hg)
    have OYn := hide (OY.out.grown hg)
    clear HG HT HZ HS HA HY OA OY
    have HG := HGn
    have HT := HTn
    have HZ := HZn
    have HS := HSn
    have HA := HAn
    have HY := HYn
    have OA := OAn
    have OY := OYn
    clear HGn HTn HZn HSn HAn HYn OAn OYn
    clear hg
    have cA0 : w9.cell? ⟨BA, 0, none⟩ = some (.int .i64 0) := blk_cell HA.out 0
    have cA1 : w9.cell? ⟨BA, 1, none⟩ = some (.slice u1 0 c1) := blk_cell HA.out 1
    go_wp2_with (first | fail)
    refine (sameT_any 0 u1 none 0 0 c1 0 [] _ OA.out.row (rowAt_nil 0 _ none 0)).mono ?_; rintro e w10 ⟨rfl, hg⟩
    clear cA0 cA1
    have HGn := hide (grownBy_trans HG.out hg)
    have HTn := hide (box_grown HT.out hg (by simp))
    have HZn := hide (box_grown HZ.out hg (by simp))
    have HSn := hide (box_grown HS.out hg (by simp))
    have HAn := hide (box_grown HA.out hg (by simp))
    have HYn := hide (box_grown HY.out hg (by simp))
    have OAn := hide (OA.out.grown hg)
    have OYn := hide (OY.out.grown hg)
    clear HG HT HZ HS HA HY OA OY
    have HG := HGn
    have HT := HTn
    have HZ := HZn
    have HS := HSn
    have HA := HAn
    have HY := HYn
    have OA := OAn
    have OY := OYn
    clear HGn HTn HZn HSn HAn HYn OAn OYn
    clear hg
    have cY0 : w10.cell? ⟨BY, 0, none⟩ = some (.int .i64 0) := blk_cell HY.out 0
    have cY1 : w10.cell? ⟨BY, 1, none⟩ = some (.slice u2 0 c2) := blk_cell HY.out 1
    go_wp2_with (first | (go_at_call 14; refine (NUM.out _ _).mono ?_; rintro e wn ⟨rfl, rfl⟩) | fail)
    refine (sameT_any 0 u2 none 0 0 c2 0 [] _ OY.out.row (rowAt_nil 0 _ none 0)).mono ?_; rintro e w11 ⟨rfl, hg⟩
    clear cY0 cY1
    have HGn := hide (grownBy_trans HG.out hg)
    have HTn := hide (box_grown HT.out hg (by simp))
    have HZn := hide (box_grown HZ.out hg (by simp))
    have HSn := hide (box_grown HS.out hg (by simp))
    have HAn := hide (box_grown HA.out hg (by simp))
    have HYn := hide (box_grown HY.out hg (by simp))
    have OAn := hide (OA.out.grown hg)
    have OYn := hide (OY.out.grown hg)
    clear HG HT HZ HS HA HY OA OY
    have HG := HGn
    have HT := HTn
    have HZ := HZn
    have HS := HSn
    have HA := HAn
    have HY := HYn
    have OA := OAn
    have OY := OYn
    clear HGn HTn HZn HSn HAn HYn OAn OYn
    clear hg
    have cT0 : w11.cell? ⟨BT, 0, none⟩ = some (.int .i64 1) := blk_cell HT.out 0
    have cT1 : w11.cell? ⟨BT, 1, none⟩ = some (.int .i64 9) := blk_cell HT.out 1
    have cT2 : w11.cell? ⟨BT, 2, none⟩ = some (.int .i64 8) := blk_cell HT.out 2
    have cT3 : w11.cell? ⟨BT, 3, none⟩ = some (.int .i64 2) := blk_cell HT.out 3
    have cT4 : w11.cell? ⟨BT, 4, none⟩ = some (.int .i64 3) := blk_cell HT.out 4
    have cT5 : w11.cell? ⟨BT, 5, none⟩ = some (.int .i64 4) := blk_cell HT.out 5
    have cS0 : w11.cell? ⟨BS, 0, none⟩ = some (.int .i64 1) := blk_cell HS.out 0
    have cS1 : w11.cell? ⟨BS, 1, none⟩ = some (.slice (some ⟨BZ, 0, none⟩) 1 1) := blk_cell HS.out 1
    go_wp2_with (first | fail)
    refine (late_at (t := fT) (L := 1) (zs := [5]) (now := -d) (b := false) _ (own_blk (n := 1) (xs := [5]) HZ.out rfl rfl (by decide)).row HANS.out.rel.2.2.2).mono ?_; rintro e w12 ⟨rfl, hg⟩
    clear cT0 cT1 cT2 cT3 cT4 cT5 cS0 cS1
    have HGn := hide (grownBy_trans HG.out hg)
    have HTn := hide (box_grown HT.out hg (by simp))
    have HZn := hide (box_grown HZ.out hg (by simp))
    have HSn := hide (box_grown HS.out hg (by simp))
    have HAn := hide (box_grown HA.out hg (by simp))
    have HYn := hide (box_grown HY.out hg (by simp))
    have OAn := hide (OA.out.grown hg)
    have OYn := hide (OY.out.grown hg)
    clear HG HT HZ HS HA HY OA OY
    have HG := HGn
    have HT := HTn
    have HZ := HZn
    have HS := HSn
    have HA := HAn
    have HY := HYn
    have OA := OAn
    have OY := OYn
    clear HGn HTn HZn HSn HAn HYn OAn OYn
    clear hg
    go_wp2_with (first | fail)
    go_ret
    exact ⟨rfl, HG.out⟩
  · skip
    go_upto_region 44 with (first | fail)
    have HANS := hide (fm13 hd1)
    have cT0 : w4.cell? ⟨BT, 0, none⟩ = some (.int .i64 1) := blk_cell HT.out 0
    have cT1 : w4.cell? ⟨BT, 1, none⟩ = some (.int .i64 9) := blk_cell HT.out 1
    have cT2 : w4.cell? ⟨BT, 2, none⟩ = some (.int .i64 8) := blk_cell HT.out 2
    have cT3 : w4.cell? ⟨BT, 3, none⟩ = some (.int .i64 2) := blk_cell HT.out 3
    have cT4 : w4.cell? ⟨BT, 4, none⟩ = some (.int .i64 3) := blk_cell HT.out 4
    have cT5 : w4.cell? ⟨BT, 5, none⟩ = some (.int .i64 4) := blk_cell HT.out 5
    have cS0 : w4.cell? ⟨BS, 0, none⟩ = some (.int .i64 1) := blk_cell HS.out 0
    have cS1 : w4.cell? ⟨BS, 1, none⟩ = some (.slice (some ⟨BZ, 0, none⟩) 1 1) := blk_cell HS.out 1
    go_wp2_with (first | fail)
    refine (pick_at (t := fT) (L := 1) (v := .slice (some ⟨BZ, 0, none⟩) 1 1) (zs := [5]) (d := 1 - d) (L' := 0) (E := 1100) (zs' := []) (N := 0) _ (own_blk (n := 1) (xs := [5]) HZ.out rfl rfl (by decide)).row HANS.out.pick.1 HANS.out.pick.2 rfl).mono ?_; rintro e w5 ⟨u1, c1, rfl, ho, hg⟩
    clear cT0 cT1 cT2 cT3 cT4 cT5 cS0 cS1
    have HGn := hide (grownBy_trans HG.out hg)
    have HTn := hide (box_grown HT.out hg (by simp))
    have HZn := hide (box_grown HZ.out hg (by simp))
    have HSn := hide (box_grown HS.out hg (by simp))
    clear HG HT HZ HS
    have HG := HGn
    have HT := HTn
    have HZ := HZn
    have HS := HSn
    clear HGn HTn HZn HSn
    clear hg
    have OA := hide (ho.base (Nat.zero_le _))
    clear ho
    go_upto_region 45 with (first | fail)
    have hg := World.grownBy_alloc w5 (.cells #[.int .i64 0, .slice u1 0 c1] 26) none
    have HAq := hide (heap_alloc_new w5 (.cells #[.int .i64 0, .slice u1 0 c1] 26))
    have LA := hide HG.out.size
    have HGn := hide (grownBy_trans HG.out hg)
    have HTn := hide (box_grown HT.out hg (by simp))
    have HZn := hide (box_grown HZ.out hg (by simp))
    have HSn := hide (box_grown HS.out hg (by simp))
    have OAn := hide (OA.out.grown hg)
    clear HG HT HZ HS OA
    have HG := HGn
    have HT := HTn
    have HZ := HZn
    have HS := HSn
    have OA := OAn
    clear HGn HTn HZn HSn OAn
    clear hg
    have HA := HAq
    clear HAq
    generalize hWx : w5.alloc (.cells #[.int .i64 0, .slice u1 0 c1] 26) = w6 at *
    generalize hBx : w5.heap.size = BA at *
    clear hWx hBx
    have cT0 : w6.cell? ⟨BT, 0, none⟩ = some (.int .i64 1) := blk_cell HT.out 0
    have cT1 : w6.cell? ⟨BT, 1, none⟩ = some (.int .i64 9) := blk_cell HT.out 1
    have cT2 : w6.cell? ⟨BT, 2, none⟩ = some (.int .i64 8) := blk_cell HT.out 2
    have cT3 : w6.cell? ⟨BT, 3, none⟩ = some (.int .i64 2) := blk_cell HT.out 3
    have cT4 : w6.cell? ⟨BT, 4, none⟩ = some (.int .i64 3) := blk_cell HT.out 4
    have cT5 : w6.cell? ⟨BT, 5, none⟩ = some (.int .i64 4) := blk_cell HT.out 5
    have cS0 : w6.cell? ⟨BS, 0, none⟩ = some (.int .i64 1) := blk_cell HS.out 0
    have cS1 : w6.cell? ⟨BS, 1, none⟩ = some (.slice (some ⟨BZ, 0, none⟩) 1 1) := blk_cell HS.out 1
    go_wp2_with (first | fail)
    refine (rel_at (t := fT) (L := 1) (v := .slice (some ⟨BZ, 0, none⟩) 1 1) (zs := [5]) (now := 1099511627776 + d) (L' := 0) (D := 0) (b := false) (zs' := []) (N := 0) _ (own_blk (n := 1) (xs := [5]) HZ.out rfl rfl (by decide)).row HANS.out.rel.1 HANS.out.rel.2.1 HANS.out.rel.2.2.1 rfl).mono ?_; rintro e w7 ⟨u2, c2, rfl, ho, hg⟩
    clear cT0 cT1 cT2 cT3 cT4 cT5 cS0 cS1
    have HGn := hide (grownBy_trans HG.out hg)
    have HTn := hide (box_grown HT.out hg (by simp))
    have HZn := hide (box_grown HZ.out hg (by simp))
    have HSn := hide (box_grown HS.out hg (by simp))
    have HAn := hide (box_grown HA.out hg (by simp))
    have OAn := hide (OA.out.grown hg)
    clear HG HT HZ HS HA OA
    have HG := HGn
    have HT := HTn
    have HZ := HZn
    have HS := HSn
    have HA := HAn
    have OA := OAn
    clear HGn HTn HZn HSn HAn OAn
    clear hg
    have OY := hide (ho.base (Nat.zero_le _))
    clear ho
    go_upto_region 46 with (first | fail)
    have hg := World.grownBy_alloc w7 (.cells #[.int .i64 0, .slice u2 0 c2] 26) none
    have HYq := hide (heap_alloc_new w7 (.cells #[.int .i64 0, .slice u2 0 c2] 26))
    have LY := hide HG.out.size
    have HGn := hide (grownBy_trans HG.out hg)
    have HTn := hide (box_grown HT.out hg (by simp))
    have HZn := hide (box_grown HZ.out hg (by simp))
    have HSn := hide (box_grown HS.out hg (by simp))
    have HAn := hide (box_grown HA.out hg (by simp))
    have OAn := hide (OA.out.grown hg)
    have OYn := hide (OY.out.grown hg)
    clear HG HT HZ HS HA OA OY
    have HG := HGn
    have HT := HTn
    have HZ := HZn
    have HS := HSn
    have HA := HAn
    have OA := OAn
    have OY := OYn
    clear HGn HTn HZn HSn HAn OAn OYn
    clear hg
    have HY := HYq
    clear HYq
    generalize hWx : w7.alloc (.cells #[.int .i64 0, .slice u2 0 c2] 26) = w8 at *
    generalize hBx : w7.heap.size = BY at *
    clear hWx hBx
    have cT0 : w8.cell? ⟨BT, 0, none⟩ = some (.int .i64 1) := blk_cell HT.out 0
    have cT1 : w8.cell? ⟨BT, 1, none⟩ = some (.int .i64 9) := blk_cell HT.out 1
    have cT2 : w8.cell? ⟨BT, 2, none⟩ = some (.int .i64 8) := blk_cell HT.out 2
    have cT3 : w8.cell? ⟨BT, 3, none⟩ = some (.int .i64 2) := blk_cell HT.out 3
    have cT4 : w8.cell? ⟨BT, 4, none⟩ = some (.int .i64 3) := blk_cell HT.out 4
    have cT5 : w8.cell? ⟨BT, 5, none⟩ = some (.int .i64 4) := blk_cell HT.out 5
    go_wp2_with (first | fail)
    refine (may_at (t := fT) (b := true) _ HANS.out.may).mono ?_; rintro e w9 ⟨rfl, hg⟩
    clear cT0 cT1 cT2 cT3 cT4 cT5
    have HGn := hide (grownBy_trans HG.out hg)
    have HTn := hide (box_grown HT.out hg (by simp))
    have HZn := hide (box_grown HZ.out hg (by simp))
    have HSn := hide (box_grown HS.out hg (by simp))
    have HAn := hide (box_grown HA.out hg (by simp))
    have HYn := hide (box_grown HY.out hg (by simp))
    have OAn := hide (OA.out.grown hg)
    have OYn := hide (OY.out.grown hg)
    clear HG HT HZ HS HA HY OA OY
    have HG := HGn
    have HT := HTn
    have HZ := HZn
    have HS := HSn
    have HA := HAn
    have HY := HYn
    have OA := OAn
    have OY := OYn
    clear HGn HTn HZn HSn HAn HYn OAn OYn
    clear hg
    have cA0 : w9.cell? ⟨BA, 0, none⟩ = some (.int .i64 0) := blk_cell HA.out 0
    have cA1 : w9.cell? ⟨BA, 1, none⟩ = some (.slice u1 0 c1) := blk_cell HA.out 1
    go_wp2_with (first | fail)
    refine (sameT_any 0 u1 none 0 0 c1 0 [] _ OA.out.row (rowAt_nil 0 _ none 0)).mono ?_; rintro e w10 ⟨rfl, hg⟩
    clear cA0 cA1
    have HGn := hide (grownBy_trans HG.out hg)
    have HTn := hide (box_grown HT.out hg (by simp))
    have HZn := hide (box_grown HZ.out hg (by simp))
    have HSn := hide (box_grown HS.out hg (by simp))
    have HAn := hide (box_grown HA.out hg (by simp))
    have HYn := hide (box_grown HY.out hg (by simp))
    have OAn := hide (OA.out.grown hg)
    have OYn := hide (OY.out.grown hg)
    clear HG HT HZ HS HA HY OA OY
    have HG := HGn
    have HT := HTn
    have HZ := HZn
    have HS := HSn
    have HA := HAn
    have HY := HYn
    have OA := OAn
    have OY := OYn
    clear HGn HTn HZn HSn HAn HYn OAn OYn
    clear hg
    have cY0 : w10.cell? ⟨BY, 0, none⟩ = some (.int .i64 0) := blk_cell HY.out 0
    have cY1 : w10.cell? ⟨BY, 1, none⟩ = some (.slice u2 0 c2) := blk_cell HY.out 1
    go_wp2_with (first | (go_at_call 14; refine (NUM.out _ _).mono ?_; rintro e wn ⟨rfl, rfl⟩) | fail)
    refine (sameT_any 0 u2 none 0 0 c2 0 [] _ OY.out.row (rowAt_nil 0 _ none 0)).mono ?_; rintro e w11 ⟨rfl, hg⟩
    clear cY0 cY1
    have HGn := hide (grownBy_trans HG.out hg)
    have HTn := hide (box_grown HT.out hg (by simp))
    have HZn := hide (box_grown HZ.out hg (by simp))
    have HSn := hide (box_grown HS.out hg (by simp))
    have HAn := hide (box_grown HA.out hg (by simp))
    have HYn := hide (box_grown HY.out hg (by simp))
    have OAn := hide (OA.out.grown hg)
    have OYn := hide (OY.out.grown hg)
    clear HG HT HZ HS HA HY OA OY
    have HG := HGn
    have HT := HTn
    have HZ := HZn
    have HS := HSn
    have HA := HAn
    have HY := HYn
    have OA := OAn
    have OY := OYn
    clear HGn HTn HZn HSn HAn HYn OAn OYn
    clear hg
    have cT0 : w11.cell? ⟨BT, 0, none⟩ = some (.int .i64 1) := blk_cell HT.out 0
    have cT1 : w11.cell? ⟨BT, 1, none⟩ = some (.int .i64 9) := blk_cell HT.out 1
    have cT2 : w11.cell? ⟨BT, 2, none⟩ = some (.int .i64 8) := blk_cell HT.out 2
    have cT3 : w11.cell? ⟨BT, 3, none⟩ = some (.int .i64 2) := blk_cell HT.out 3
    have cT4 : w11.cell? ⟨BT, 4, none⟩ = some (.int .i64 3) := blk_cell HT.out 4
    have cT5 : w11.cell? ⟨BT, 5, none⟩ = some (.int .i64 4) := blk_cell HT.out 5
    have cS0 : w11.cell? ⟨BS, 0, none⟩ = some (.int .i64 1) := blk_cell HS.out 0
    have cS1 : w11.cell? ⟨BS, 1, none⟩ = some (.slice (some ⟨BZ, 0, none⟩) 1 1) := blk_cell HS.out 1
    go_wp2_with (first | fail)
    refine (late_at (t := fT) (L := 1) (zs := [5]) (now := 1099511627776 + d) (b := false) _ (own_blk (n := 1) (xs := [5]) HZ.out rfl rfl (by decide)).row HANS.out.rel.2.2.2).mono ?_; rintro e w12 ⟨rfl, hg⟩
    clear cT0 cT1 cT2 cT3 cT4 cT5 cS0 cS1
    have HGn := hide (grownBy_trans HG.out hg)
    have HTn := hide (box_grown HT.out hg (by simp))
    have HZn := hide (box_grown HZ.out hg (by simp))
    have HSn := hide (box_grown HS.out hg (by simp))
    have HAn := hide (box_grown HA.out hg (by simp))
    have HYn := hide (box_grown HY.out hg (by simp))
    have OAn := hide (OA.out.grown hg)
    have OYn := hide (OY.out.grown hg)
    clear HG HT HZ HS HA HY OA OY
    have HG := HGn
    have HT := HTn
    have HZ := HZn
    have HS := HSn
    have HA := HAn
    have HY := HYn
    have OA := OAn
    have OY := OYn
    clear HGn HTn HZn HSn HAn HYn OAn OYn
    clear hg
    go_wp2_with (first | fail)
    go_ret
    exact ⟨rfl, HG.out⟩
theorem taskForms_any (x0 x1 : Int) (w : World) : Calls Try.prog 5 #[.int .i64 x0, .int .i64 x1] w fun e w' => e = .returned (.bool true) ∧ w.grownBy w' none := taskForms_from x0 x1 w w (grownBy_refl _ _)
#print axioms taskForms_any
end Go.Proofs.Ytephnppanbckkaa
