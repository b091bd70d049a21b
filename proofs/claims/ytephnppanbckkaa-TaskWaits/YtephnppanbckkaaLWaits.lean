/- The walk of the statement TaskWaits: a pick that comes too soon; proved over the translation. -/
import Derived.Test.YtephnppanbckkaaAw
import Derived.Test.YtephnppanbckkaaLmath
namespace Go.Proofs.Ytephnppanbckkaa
open Go.RowKit
attribute [local go_sem] alloc_drewN setCell_drewN

set_option maxRecDepth 100000 in
set_option maxHeartbeats 8000000 in
theorem taskWaits_from (x0 x1 x2 : Int) (w w0 : World) (hg0 : w.grownBy w0 none) : Calls Try.prog 6 #[.int .i64 x0, .int .i64 x1, .int .i64 x2] w0 fun e w' => e = .returned (.bool true) ∧ w.grownBy w' none := by
  obtain ⟨a, ha, hma⟩ := and10 x0
  obtain ⟨K, hK, hmK⟩ := and20 x1
  obtain ⟨G, hG, hmG⟩ := and11 x2
  have HG := hide hg0
  clear hg0
  go_enter Try.func6, Try.ntmps6
  go_wp2_with (first | fail)
  refine (awake_any _).mono ?_; rintro e w1 ⟨rfl, hg⟩
  have HGn := hide (grownBy_trans HG.out hg)
  clear HG
  have HG := HGn
  clear HGn
  clear hg
  go_upto_region 4 with (first | fail)
  generalize hP : 1 + (a : Int) = P at *
  have hP1 : 1 ≤ P := by omega
  have hP2 : P ≤ 1024 := by omega
  clear hP hma ha
  have HANS := hide (wt_ans (P := P) (K := (K : Int)) (G := (G : Int)) hP1 hP2 (by omega) (by omega) (by omega) (by omega))
  go_upto_region 5 with (first | fail)
  have hg := World.grownBy_alloc w1 (.cells #[.int .i64 1, .int .i64 P, .int .i64 P, .int .i64 1, .int .i64 1, .int .i64 0] 23) none
  have HTq := hide (heap_alloc_new w1 (.cells #[.int .i64 1, .int .i64 P, .int .i64 P, .int .i64 1, .int .i64 1, .int .i64 0] 23))
  have LT := hide HG.out.size
  have HGn := hide (grownBy_trans HG.out hg)
  clear HG
  have HG := HGn
  clear HGn
  clear hg
  have HT := HTq
  clear HTq
  generalize hWx : w1.alloc (.cells #[.int .i64 1, .int .i64 P, .int .i64 P, .int .i64 1, .int .i64 1, .int .i64 0] 23) = w2 at *
  generalize hBx : w1.heap.size = BT at *
  clear hWx hBx
  go_upto_region 6 with (first | fail)
  have hg := grownBy_trans (World.grownBy_alloc w2 (.cells #[.int .i64 6, .int .i64 7] 3) none) (World.grownBy_alloc _ (.cells #[.int .i64 (K : Int), .slice (some ⟨w2.heap.size, 0, none⟩) 2 2] 26) none)
  have HZq := hide (hp_up (heap_alloc_new w2 (.cells #[.int .i64 6, .int .i64 7] 3)) (.cells #[.int .i64 (K : Int), .slice (some ⟨w2.heap.size, 0, none⟩) 2 2] 26))
  have HSq := hide (alloc_next w2 (.cells #[.int .i64 6, .int .i64 7] 3) (.cells #[.int .i64 (K : Int), .slice (some ⟨w2.heap.size, 0, none⟩) 2 2] 26))
  have LZ := hide HG.out.size
  have LS := hide (Nat.le_trans HG.out.size (Nat.le_succ _))
  have HGn := hide (grownBy_trans HG.out hg)
  have HTn := hide (box_grown HT.out hg (by simp))
  clear HG HT
  have HG := HGn
  have HT := HTn
  clear HGn HTn
  clear hg
  have HZ := HZq
  have HS := HSq
  clear HZq HSq
  generalize hWx : (w2.alloc (.cells #[.int .i64 6, .int .i64 7] 3)).alloc (.cells #[.int .i64 (K : Int), .slice (some ⟨w2.heap.size, 0, none⟩) 2 2] 26) = w3 at *
  clear hWx
  have NZS : Hid (w2.heap.size < w2.heap.size + 1) := hide (Nat.lt_succ_self _)
  generalize hBx : w2.heap.size + 1 = BS at *
  clear hBx
  generalize hBx : w2.heap.size = BZ at *
  clear hBx
  go_upto_region 7 with (first | fail)
  by_cases hlt : (G : Int) < P
  · skip
    have cT0 : w3.cell? ⟨BT, 0, none⟩ = some (.int .i64 1) := blk_cell HT.out 0
    have cT1 : w3.cell? ⟨BT, 1, none⟩ = some (.int .i64 P) := blk_cell HT.out 1
    have cT2 : w3.cell? ⟨BT, 2, none⟩ = some (.int .i64 P) := blk_cell HT.out 2
    have cT3 : w3.cell? ⟨BT, 3, none⟩ = some (.int .i64 1) := blk_cell HT.out 3
    have cT4 : w3.cell? ⟨BT, 4, none⟩ = some (.int .i64 1) := blk_cell HT.out 4
    have cT5 : w3.cell? ⟨BT, 5, none⟩ = some (.int .i64 0) := blk_cell HT.out 5
    have cS0 : w3.cell? ⟨BS, 0, none⟩ = some (.int .i64 (K : Int)) := blk_cell HS.out 0
    have cS1 : w3.cell? ⟨BS, 1, none⟩ = some (.slice (some ⟨BZ, 0, none⟩) 2 2) := blk_cell HS.out 1
    go_wp2_with (first | fail)
    refine (late_at (t := ⟨1, P, P, 1, 1, 0⟩) (L := (K : Int)) (zs := [6, 7]) (now := (K : Int) + G) (b := true) _ (own_blk (n := 2) (xs := [6, 7]) HZ.out rfl rfl (by decide)).row (by rw [HANS.out.late]; exact decide_eq_true hlt)).mono ?_; rintro e w4 ⟨rfl, hg⟩
    clear cT0 cT1 cT2 cT3 cT4 cT5 cS0 cS1
    have HGn := hide (grownBy_trans HG.out hg)
    have HTn := hide (box_grown HT.out hg (by simp))
    have HZn := hide (box_grown HZ.out hg (by simp))
    have HSn := hide (box_grown HS.out hg (by simp))
    clear HG HT HZ HS
    have HG := HGn
    have HT := HTn
    have HZ := HZn
    have HS := HSn
    clear HGn HTn HZn HSn
    clear hg
    have cT0 : w4.cell? ⟨BT, 0, none⟩ = some (.int .i64 1) := blk_cell HT.out 0
    have cT1 : w4.cell? ⟨BT, 1, none⟩ = some (.int .i64 P) := blk_cell HT.out 1
    have cT2 : w4.cell? ⟨BT, 2, none⟩ = some (.int .i64 P) := blk_cell HT.out 2
    have cT3 : w4.cell? ⟨BT, 3, none⟩ = some (.int .i64 1) := blk_cell HT.out 3
    have cT4 : w4.cell? ⟨BT, 4, none⟩ = some (.int .i64 1) := blk_cell HT.out 4
    have cT5 : w4.cell? ⟨BT, 5, none⟩ = some (.int .i64 0) := blk_cell HT.out 5
    have cS0 : w4.cell? ⟨BS, 0, none⟩ = some (.int .i64 (K : Int)) := blk_cell HS.out 0
    have cS1 : w4.cell? ⟨BS, 1, none⟩ = some (.slice (some ⟨BZ, 0, none⟩) 2 2) := blk_cell HS.out 1
    go_wp2_with (first | fail)
    refine (rel_at (t := ⟨1, P, P, 1, 1, 0⟩) (L := (K : Int)) (v := .slice (some ⟨BZ, 0, none⟩) 2 2) (zs := [6, 7]) (now := (K : Int) + G) (L' := (K : Int)) (D := 0) (b := false) (zs' := [6, 7]) (N := 2) _ (own_blk (n := 2) (xs := [6, 7]) HZ.out rfl rfl (by decide)).row (HANS.out.one hlt).1 (HANS.out.one hlt).2.1 (HANS.out.one hlt).2.2 rfl).mono ?_; rintro e w5 ⟨u1, c1, rfl, ho, hg⟩
    clear cT0 cT1 cT2 cT3 cT4 cT5 cS0 cS1
    have HGn := hide (grownBy_trans HG.out hg)
    have HTn := hide (box_grown HT.out hg (by simp))
    have HZn := hide (box_grown HZ.out hg (by simp))
    have HSn := hide (box_grown HS.out hg (by simp))
    clear HG HT HZ HS
    have HG := HGn
    have HT := HTn
    have HZ := HZn
    have HS := HSn
    clear HGn HTn HZn HSn
    clear hg
    have OA := hide (ho.base (Nat.zero_le _))
    clear ho
    go_upto_region 9 with (first | fail)
    have hg := World.grownBy_alloc w5 (.cells #[.int .i64 (K : Int), .slice u1 2 c1] 26) none
    have HAq := hide (heap_alloc_new w5 (.cells #[.int .i64 (K : Int), .slice u1 2 c1] 26))
    have LA := hide HG.out.size
    have HGn := hide (grownBy_trans HG.out hg)
    have HTn := hide (box_grown HT.out hg (by simp))
    have HZn := hide (box_grown HZ.out hg (by simp))
    have HSn := hide (box_grown HS.out hg (by simp))
    have OAn := hide (OA.out.grown hg)
    clear HG HT HZ HS OA
    have HG := HGn
    have HT := HTn
    have HZ := HZn
    have HS := HSn
    have OA := OAn
    clear HGn HTn HZn HSn OAn
    clear hg
    have HA := HAq
    clear HAq
    generalize hWx : w5.alloc (.cells #[.int .i64 (K : Int), .slice u1 2 c1] 26) = w6 at *
    generalize hBx : w5.heap.size = BA at *
    clear hWx hBx
    have cT0 : w6.cell? ⟨BT, 0, none⟩ = some (.int .i64 1) := blk_cell HT.out 0
    have cT1 : w6.cell? ⟨BT, 1, none⟩ = some (.int .i64 P) := blk_cell HT.out 1
    have cT2 : w6.cell? ⟨BT, 2, none⟩ = some (.int .i64 P) := blk_cell HT.out 2
    have cT3 : w6.cell? ⟨BT, 3, none⟩ = some (.int .i64 1) := blk_cell HT.out 3
    have cT4 : w6.cell? ⟨BT, 4, none⟩ = some (.int .i64 1) := blk_cell HT.out 4
    have cT5 : w6.cell? ⟨BT, 5, none⟩ = some (.int .i64 0) := blk_cell HT.out 5
    go_wp2_with (first | fail)
    refine (rel_at (t := ⟨1, P, P, 1, 1, 0⟩) (L := (K : Int)) (v := .slice none 0 0) (zs := []) (now := (K : Int) + G) (L' := (K : Int)) (D := 0) (b := false) (zs' := []) (N := 0) _ (rowAt_nil 0 _ none 0) HANS.out.none.1 HANS.out.none.2.1 HANS.out.none.2.2 rfl).mono ?_; rintro e w7 ⟨u2, c2, rfl, ho, hg⟩
    clear cT0 cT1 cT2 cT3 cT4 cT5
    have HGn := hide (grownBy_trans HG.out hg)
    have HTn := hide (box_grown HT.out hg (by simp))
    have HZn := hide (box_grown HZ.out hg (by simp))
    have HSn := hide (box_grown HS.out hg (by simp))
    have HAn := hide (box_grown HA.out hg (by simp))
    have OAn := hide (OA.out.grown hg)
    clear HG HT HZ HS HA OA
    have HG := HGn
    have HT := HTn
    have HZ := HZn
    have HS := HSn
    have HA := HAn
    have OA := OAn
    clear HGn HTn HZn HSn HAn OAn
    clear hg
    clear ho
    go_upto_region 10 with (first | fail)
    have hg := World.grownBy_alloc w7 (.cells #[.int .i64 (K : Int), .slice u2 0 c2] 26) none
    have HXq := hide (heap_alloc_new w7 (.cells #[.int .i64 (K : Int), .slice u2 0 c2] 26))
    have LX := hide HG.out.size
    have HGn := hide (grownBy_trans HG.out hg)
    have HTn := hide (box_grown HT.out hg (by simp))
    have HZn := hide (box_grown HZ.out hg (by simp))
    have HSn := hide (box_grown HS.out hg (by simp))
    have HAn := hide (box_grown HA.out hg (by simp))
    have OAn := hide (OA.out.grown hg)
    clear HG HT HZ HS HA OA
    have HG := HGn
    have HT := HTn
    have HZ := HZn
    have HS := HSn
    have HA := HAn
    have OA := OAn
    clear HGn HTn HZn HSn HAn OAn
    clear hg
    have HX := HXq
    clear HXq
    generalize hWx : w7.alloc (.cells #[.int .i64 (K : Int), .slice u2 0 c2] 26) = w8 at *
    generalize hBx : w7.heap.size = BX at *
    clear hWx hBx
    have cT0 : w8.cell? ⟨BT, 0, none⟩ = some (.int .i64 1) := blk_cell HT.out 0
    have cT1 : w8.cell? ⟨BT, 1, none⟩ = some (.int .i64 P) := blk_cell HT.out 1
    have cT2 : w8.cell? ⟨BT, 2, none⟩ = some (.int .i64 P) := blk_cell HT.out 2
    have cT3 : w8.cell? ⟨BT, 3, none⟩ = some (.int .i64 1) := blk_cell HT.out 3
    have cT4 : w8.cell? ⟨BT, 4, none⟩ = some (.int .i64 1) := blk_cell HT.out 4
    have cT5 : w8.cell? ⟨BT, 5, none⟩ = some (.int .i64 0) := blk_cell HT.out 5
    go_wp2_with (first | fail)
    refine (rel_at (t := ⟨1, P, P, 1, 1, 0⟩) (L := -1) (v := .slice (some ⟨w8.heap.size, 0, none⟩) 1 1) (zs := [9]) (now := (K : Int)) (L' := (K : Int)) (D := 9) (b := true) (zs' := []) (N := 0) _ (rowAt_lit (S := shN) w8 [9] 3 (by decide)) HANS.out.first.1 HANS.out.first.2.1 HANS.out.first.2.2 rfl).mono ?_; rintro e w9 ⟨u3, c3, rfl, ho, hg⟩
    clear cT0 cT1 cT2 cT3 cT4 cT5
    replace hg := grownBy_trans (World.grownBy_alloc _ _ _) hg
    have HGn := hide (grownBy_trans HG.out hg)
    have HTn := hide (box_grown HT.out hg (by simp))
    have HZn := hide (box_grown HZ.out hg (by simp))
    have HSn := hide (box_grown HS.out hg (by simp))
    have HAn := hide (box_grown HA.out hg (by simp))
    have HXn := hide (box_grown HX.out hg (by simp))
    have OAn := hide (OA.out.grown hg)
    clear HG HT HZ HS HA HX OA
    have HG := HGn
    have HT := HTn
    have HZ := HZn
    have HS := HSn
    have HA := HAn
    have HX := HXn
    have OA := OAn
    clear HGn HTn HZn HSn HAn HXn OAn
    clear hg
    clear ho
    go_upto_region 11 with (first | fail)
    have hg := World.grownBy_alloc w9 (.cells #[.int .i64 (K : Int), .slice u3 0 c3] 26) none
    have HYq := hide (heap_alloc_new w9 (.cells #[.int .i64 (K : Int), .slice u3 0 c3] 26))
    have LY := hide HG.out.size
    have HGn := hide (grownBy_trans HG.out hg)
    have HTn := hide (box_grown HT.out hg (by simp))
    have HZn := hide (box_grown HZ.out hg (by simp))
    have HSn := hide (box_grown HS.out hg (by simp))
    have HAn := hide (box_grown HA.out hg (by simp))
    have HXn := hide (box_grown HX.out hg (by simp))
    have OAn := hide (OA.out.grown hg)
    clear HG HT HZ HS HA HX OA
    have HG := HGn
    have HT := HTn
    have HZ := HZn
    have HS := HSn
    have HA := HAn
    have HX := HXn
    have OA := OAn
    clear HGn HTn HZn HSn HAn HXn OAn
    clear hg
    have HY := HYq
    clear HYq
    generalize hWx : w9.alloc (.cells #[.int .i64 (K : Int), .slice u3 0 c3] 26) = w10 at *
    generalize hBx : w9.heap.size = BY at *
    clear hWx hBx
    have cA0 : w10.cell? ⟨BA, 0, none⟩ = some (.int .i64 (K : Int)) := blk_cell HA.out 0
    have cA1 : w10.cell? ⟨BA, 1, none⟩ = some (.slice u1 2 c1) := blk_cell HA.out 1
    have cS0 : w10.cell? ⟨BS, 0, none⟩ = some (.int .i64 (K : Int)) := blk_cell HS.out 0
    have cS1 : w10.cell? ⟨BS, 1, none⟩ = some (.slice (some ⟨BZ, 0, none⟩) 2 2) := blk_cell HS.out 1
    go_wp2_with (first | fail)
    refine (sameT_any (K : Int) u1 (some ⟨BZ, 0, none⟩) 2 2 c1 2 [6, 7] _ OA.out.row (own_blk (n := 2) (xs := [6, 7]) HZ.out rfl rfl (by decide)).row).mono ?_; rintro e w11 ⟨rfl, hg⟩
    clear cA0 cA1 cS0 cS1
    have HGn := hide (grownBy_trans HG.out hg)
    have HTn := hide (box_grown HT.out hg (by simp))
    have HZn := hide (box_grown HZ.out hg (by simp))
    have HSn := hide (box_grown HS.out hg (by simp))
    have HAn := hide (box_grown HA.out hg (by simp))
    have HXn := hide (box_grown HX.out hg (by simp))
    have HYn := hide (box_grown HY.out hg (by simp))
    have OAn := hide (OA.out.grown hg)
    clear HG HT HZ HS HA HX HY OA
    have HG := HGn
    have HT := HTn
    have HZ := HZn
    have HS := HSn
    have HA := HAn
    have HX := HXn
    have HY := HYn
    have OA := OAn
    clear HGn HTn HZn HSn HAn HXn HYn OAn
    clear hg
    go_wp2_with (first | fail)
    go_ret
    exact ⟨rfl, HG.out⟩
  · skip
    have cT0 : w3.cell? ⟨BT, 0, none⟩ = some (.int .i64 1) := blk_cell HT.out 0
    have cT1 : w3.cell? ⟨BT, 1, none⟩ = some (.int .i64 P) := blk_cell HT.out 1
    have cT2 : w3.cell? ⟨BT, 2, none⟩ = some (.int .i64 P) := blk_cell HT.out 2
    have cT3 : w3.cell? ⟨BT, 3, none⟩ = some (.int .i64 1) := blk_cell HT.out 3
    have cT4 : w3.cell? ⟨BT, 4, none⟩ = some (.int .i64 1) := blk_cell HT.out 4
    have cT5 : w3.cell? ⟨BT, 5, none⟩ = some (.int .i64 0) := blk_cell HT.out 5
    have cS0 : w3.cell? ⟨BS, 0, none⟩ = some (.int .i64 (K : Int)) := blk_cell HS.out 0
    have cS1 : w3.cell? ⟨BS, 1, none⟩ = some (.slice (some ⟨BZ, 0, none⟩) 2 2) := blk_cell HS.out 1
    go_wp2_with (first | fail)
    refine (late_at (t := ⟨1, P, P, 1, 1, 0⟩) (L := (K : Int)) (zs := [6, 7]) (now := (K : Int) + G) (b := false) _ (own_blk (n := 2) (xs := [6, 7]) HZ.out rfl rfl (by decide)).row (by rw [HANS.out.late]; exact decide_eq_false (by omega))).mono ?_; rintro e w4 ⟨rfl, hg⟩
    clear cT0 cT1 cT2 cT3 cT4 cT5 cS0 cS1
    have HGn := hide (grownBy_trans HG.out hg)
    have HTn := hide (box_grown HT.out hg (by simp))
    have HZn := hide (box_grown HZ.out hg (by simp))
    have HSn := hide (box_grown HS.out hg (by simp))
    clear HG HT HZ HS
    have HG := HGn
    have HT := HTn
    have HZ := HZn
    have HS := HSn
    clear HGn HTn HZn HSn
    clear hg
    have cT0 : w4.cell? ⟨BT, 0, none⟩ = some (.int .i64 1) := blk_cell HT.out 0
    have cT1 : w4.cell? ⟨BT, 1, none⟩ = some (.int .i64 P) := blk_cell HT.out 1
    have cT2 : w4.cell? ⟨BT, 2, none⟩ = some (.int .i64 P) := blk_cell HT.out 2
    have cT3 : w4.cell? ⟨BT, 3, none⟩ = some (.int .i64 1) := blk_cell HT.out 3
    have cT4 : w4.cell? ⟨BT, 4, none⟩ = some (.int .i64 1) := blk_cell HT.out 4
    have cT5 : w4.cell? ⟨BT, 5, none⟩ = some (.int .i64 0) := blk_cell HT.out 5
    have cS0 : w4.cell? ⟨BS, 0, none⟩ = some (.int .i64 (K : Int)) := blk_cell HS.out 0
    have cS1 : w4.cell? ⟨BS, 1, none⟩ = some (.slice (some ⟨BZ, 0, none⟩) 2 2) := blk_cell HS.out 1
    go_wp2_with (first | fail)
    refine (rel_at (t := ⟨1, P, P, 1, 1, 0⟩) (L := (K : Int)) (v := .slice (some ⟨BZ, 0, none⟩) 2 2) (zs := [6, 7]) (now := (K : Int) + G) (L' := (K : Int) + G) (D := 6) (b := true) (zs' := [7]) (N := 1) _ (own_blk (n := 2) (xs := [6, 7]) HZ.out rfl rfl (by decide)).row (HANS.out.two (by omega)).1 (HANS.out.two (by omega)).2.1 (HANS.out.two (by omega)).2.2 rfl).mono ?_; rintro e w5 ⟨u1, c1, rfl, ho, hg⟩
    clear cT0 cT1 cT2 cT3 cT4 cT5 cS0 cS1
    have HGn := hide (grownBy_trans HG.out hg)
    have HTn := hide (box_grown HT.out hg (by simp))
    have HZn := hide (box_grown HZ.out hg (by simp))
    have HSn := hide (box_grown HS.out hg (by simp))
    clear HG HT HZ HS
    have HG := HGn
    have HT := HTn
    have HZ := HZn
    have HS := HSn
    clear HGn HTn HZn HSn
    clear hg
    have OA := hide (ho.base (Nat.zero_le _))
    clear ho
    go_upto_region 9 with (first | fail)
    have hg := World.grownBy_alloc w5 (.cells #[.int .i64 ((K : Int) + G), .slice u1 1 c1] 26) none
    have HAq := hide (heap_alloc_new w5 (.cells #[.int .i64 ((K : Int) + G), .slice u1 1 c1] 26))
    have LA := hide HG.out.size
    have HGn := hide (grownBy_trans HG.out hg)
    have HTn := hide (box_grown HT.out hg (by simp))
    have HZn := hide (box_grown HZ.out hg (by simp))
    have HSn := hide (box_grown HS.out hg (by simp))
    have OAn := hide (OA.out.grown hg)
    clear HG HT HZ HS OA
    have HG := HGn
    have HT := HTn
    have HZ := HZn
    have HS := HSn
    have OA := OAn
    clear HGn HTn HZn HSn OAn
    clear hg
    have HA := HAq
    clear HAq
    generalize hWx : w5.alloc (.cells #[.int .i64 ((K : Int) + G), .slice u1 1 c1] 26) = w6 at *
    generalize hBx : w5.heap.size = BA at *
    clear hWx hBx
    have cT0 : w6.cell? ⟨BT, 0, none⟩ = some (.int .i64 1) := blk_cell HT.out 0
    have cT1 : w6.cell? ⟨BT, 1, none⟩ = some (.int .i64 P) := blk_cell HT.out 1
    have cT2 : w6.cell? ⟨BT, 2, none⟩ = some (.int .i64 P) := blk_cell HT.out 2
    have cT3 : w6.cell? ⟨BT, 3, none⟩ = some (.int .i64 1) := blk_cell HT.out 3
    have cT4 : w6.cell? ⟨BT, 4, none⟩ = some (.int .i64 1) := blk_cell HT.out 4
    have cT5 : w6.cell? ⟨BT, 5, none⟩ = some (.int .i64 0) := blk_cell HT.out 5
    go_wp2_with (first | fail)
    refine (rel_at (t := ⟨1, P, P, 1, 1, 0⟩) (L := (K : Int)) (v := .slice none 0 0) (zs := []) (now := (K : Int) + G) (L' := (K : Int)) (D := 0) (b := false) (zs' := []) (N := 0) _ (rowAt_nil 0 _ none 0) HANS.out.none.1 HANS.out.none.2.1 HANS.out.none.2.2 rfl).mono ?_; rintro e w7 ⟨u2, c2, rfl, ho, hg⟩
    clear cT0 cT1 cT2 cT3 cT4 cT5
    have HGn := hide (grownBy_trans HG.out hg)
    have HTn := hide (box_grown HT.out hg (by simp))
    have HZn := hide (box_grown HZ.out hg (by simp))
    have HSn := hide (box_grown HS.out hg (by simp))
    have HAn := hide (box_grown HA.out hg (by simp))
    have OAn := hide (OA.out.grown hg)
    clear HG HT HZ HS HA OA
    have HG := HGn
    have HT := HTn
    have HZ := HZn
    have HS := HSn
    have HA := HAn
    have OA := OAn
    clear HGn HTn HZn HSn HAn OAn
    clear hg
    clear ho
    go_upto_region 10 with (first | fail)
    have hg := World.grownBy_alloc w7 (.cells #[.int .i64 (K : Int), .slice u2 0 c2] 26) none
    have HXq := hide (heap_alloc_new w7 (.cells #[.int .i64 (K : Int), .slice u2 0 c2] 26))
    have LX := hide HG.out.size
    have HGn := hide (grownBy_trans HG.out hg)
    have HTn := hide (box_grown HT.out hg (by simp))
    have HZn := hide (box_grown HZ.out hg (by simp))
    have HSn := hide (box_grown HS.out hg (by simp))
    have HAn := hide (box_grown HA.out hg (by simp))
    have OAn := hide (OA.out.grown hg)
    clear HG HT HZ HS HA OA
    have HG := HGn
    have HT := HTn
    have HZ := HZn
    have HS := HSn
    have HA := HAn
    have OA := OAn
    clear HGn HTn HZn HSn HAn OAn
    clear hg
    have HX := HXq
    clear HXq
    generalize hWx : w7.alloc (.cells #[.int .i64 (K : Int), .slice u2 0 c2] 26) = w8 at *
    generalize hBx : w7.heap.size = BX at *
    clear hWx hBx
    have cT0 : w8.cell? ⟨BT, 0, none⟩ = some (.int .i64 1) := blk_cell HT.out 0
    have cT1 : w8.cell? ⟨BT, 1, none⟩ = some (.int .i64 P) := blk_cell HT.out 1
    have cT2 : w8.cell? ⟨BT, 2, none⟩ = some (.int .i64 P) := blk_cell HT.out 2
    have cT3 : w8.cell? ⟨BT, 3, none⟩ = some (.int .i64 1) := blk_cell HT.out 3
    have cT4 : w8.cell? ⟨BT, 4, none⟩ = some (.int .i64 1) := blk_cell HT.out 4
    have cT5 : w8.cell? ⟨BT, 5, none⟩ = some (.int .i64 0) := blk_cell HT.out 5
    go_wp2_with (first | fail)
    refine (rel_at (t := ⟨1, P, P, 1, 1, 0⟩) (L := -1) (v := .slice (some ⟨w8.heap.size, 0, none⟩) 1 1) (zs := [9]) (now := (K : Int)) (L' := (K : Int)) (D := 9) (b := true) (zs' := []) (N := 0) _ (rowAt_lit (S := shN) w8 [9] 3 (by decide)) HANS.out.first.1 HANS.out.first.2.1 HANS.out.first.2.2 rfl).mono ?_; rintro e w9 ⟨u3, c3, rfl, ho, hg⟩
    clear cT0 cT1 cT2 cT3 cT4 cT5
    replace hg := grownBy_trans (World.grownBy_alloc _ _ _) hg
    have HGn := hide (grownBy_trans HG.out hg)
    have HTn := hide (box_grown HT.out hg (by simp))
    have HZn := hide (box_grown HZ.out hg (by simp))
    have HSn := hide (box_grown HS.out hg (by simp))
    have HAn := hide (box_grown HA.out hg (by simp))
    have HXn := hide (box_grown HX.out hg (by simp))
    have OAn := hide (OA.out.grown hg)
    clear HG HT HZ HS HA HX OA
    have HG := HGn
    have HT := HTn
    have HZ := HZn
    have HS := HSn
    have HA := HAn
    have HX := HXn
    have OA := OAn
    clear HGn HTn HZn HSn HAn HXn OAn
    clear hg
    clear ho
    go_upto_region 11 with (first | fail)
    have hg := World.grownBy_alloc w9 (.cells #[.int .i64 (K : Int), .slice u3 0 c3] 26) none
    have HYq := hide (heap_alloc_new w9 (.cells #[.int .i64 (K : Int), .slice u3 0 c3] 26))
    have LY := hide HG.out.size
    have HGn := hide (grownBy_trans HG.out hg)
    have HTn := hide (box_grown HT.out hg (by simp))
    have HZn := hide (box_grown HZ.out hg (by simp))
    have HSn := hide (box_grown HS.out hg (by simp))
    have HAn := hide (box_grown HA.out hg (by simp))
    have HXn := hide (box_grown HX.out hg (by simp))
    have OAn := hide (OA.out.grown hg)
    clear HG HT HZ HS HA HX OA
    have HG := HGn
    have HT := HTn
    have HZ := HZn
    have HS := HSn
    have HA := HAn
    have HX := HXn
    have OA := OAn
    clear HGn HTn HZn HSn HAn HXn OAn
    clear hg
    have HY := HYq
    clear HYq
    generalize hWx : w9.alloc (.cells #[.int .i64 (K : Int), .slice u3 0 c3] 26) = w10 at *
    generalize hBx : w9.heap.size = BY at *
    clear hWx hBx
    have cA0 : w10.cell? ⟨BA, 0, none⟩ = some (.int .i64 ((K : Int) + G)) := blk_cell HA.out 0
    have cA1 : w10.cell? ⟨BA, 1, none⟩ = some (.slice u1 1 c1) := blk_cell HA.out 1
    go_wp2_with (first | fail)
    refine (sameT_any ((K : Int) + G) u1 (some ⟨w10.heap.size, 0, none⟩) 1 1 c1 1 [7] (w10.alloc (.cells #[.int .i64 7] 3)) (OA.out.row.grown (World.grownBy_alloc _ _ _)) (rowAt_lit (S := shN) w10 [7] 3 (by decide))).mono ?_; rintro e w11 ⟨rfl, hg⟩
    clear cA0 cA1
    replace hg := grownBy_trans (World.grownBy_alloc _ _ _) hg
    have HGn := hide (grownBy_trans HG.out hg)
    have HTn := hide (box_grown HT.out hg (by simp))
    have HZn := hide (box_grown HZ.out hg (by simp))
    have HSn := hide (box_grown HS.out hg (by simp))
    have HAn := hide (box_grown HA.out hg (by simp))
    have HXn := hide (box_grown HX.out hg (by simp))
    have HYn := hide (box_grown HY.out hg (by simp))
    have OAn := hide (OA.out.grown hg)
    clear HG HT HZ HS HA HX HY OA
    have HG := HGn
    have HT := HTn
    have HZ := HZn
    have HS := HSn
    have HA := HAn
    have HX := HXn
    have HY := HYn
    have OA := OAn
    clear HGn HTn HZn HSn HAn HXn HYn OAn
    clear hg
    go_wp2_with (first | fail)
    go_ret
    exact ⟨rfl, HG.out⟩
theorem taskWaits_any (x0 x1 x2 : Int) (w : World) : Calls Try.prog 6 #[.int .i64 x0, .int .i64 x1, .int .i64 x2] w fun e w' => e = .returned (.bool true) ∧ w.grownBy w' none := taskWaits_from x0 x1 x2 w w (grownBy_refl _ _)
#print axioms taskWaits_any
end Go.Proofs.Ytephnppanbckkaa
