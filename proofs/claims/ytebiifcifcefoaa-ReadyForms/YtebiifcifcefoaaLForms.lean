/- The walk of the statement ReadyForms: each part of a job that may not be, a row that is full; proved over the translation. -/
import Derived.Test.YtebiifcifcefoaaAw
import Derived.Test.YtebiifcifcefoaaFmath
import Derived.Test.YtebiifcifcefoaaBits
namespace Go.Proofs.Ytebiifcifcefoaa
open Go.RowKit
attribute [local go_sem] alloc_drewN setCell_drewN

set_option maxRecDepth 100000 in
set_option maxHeartbeats 40000000 in
theorem forms_from (x0 x1 : Int) (w w0 : World) (hg0 : w.grownBy w0 none) : Calls Try.prog 6 #[.int .i64 x0, .int .i64 x1] w0 fun e w' => e = .returned (.bool true) ∧ w.grownBy w' none := by
  obtain ⟨a, ha, hma⟩ := and6 x1
  obtain ⟨U, hU, hU1⟩ := conv_uf x0
  obtain ⟨r, hr'⟩ : ∃ r, U % 11 = r := ⟨_, rfl⟩
  have hr : r < 11 := by rw [← hr']; exact Nat.mod_lt _ (by omega)
  have hrem : ((U : Int)).tmod 11 = (r : Int) := by
    rw [Int.tmod_eq_emod_of_nonneg (by omega), ← hr']; simp
  have HR := hide hr
  have HREM := hide hrem
  have HCU := hide hU
  have HCU1 := hide hU1
  clear hr hr' hrem hU hU1
  have NUM := hide num_to
  have HG := hide hg0
  clear hg0
  go_enter Try.func6, Try.ntmps6
  go_wp2_with (first | fail)
  refine (awake_any _).mono ?_; rintro e w1 ⟨rfl, hg⟩
  have HGn := hide (grownBy_trans HG.out hg)
  clear HG
  have HG := HGn
  clear HGn
  clear hg
  go_upto_region 4 with (first | fail)
  generalize hd : 1 + (a : Int) = d at *
  have hd1 : 1 ≤ d := by omega
  have hd2 : d ≤ 64 := by omega
  clear hd hma ha
  go_wp2_with (first | fail)
  refine (mk_any 3 4 2 13 (by decide) (by decide) (by decide) _).mono ?_; rintro e w2 ⟨rfl, hg⟩
  have HGn := hide (grownBy_trans HG.out hg)
  clear HG
  have HG := HGn
  clear HGn
  clear hg
  go_upto_region 5 with (first | fail)
  have hg := World.grownBy_alloc w2 (.cells #[.int .i64 2, .int .i64 0, .int .i64 3, .int .i64 4, .int .i64 13, .int .i64 5, .int .i64 0] 24) none
  have HTq := hide (heap_alloc_new w2 (.cells #[.int .i64 2, .int .i64 0, .int .i64 3, .int .i64 4, .int .i64 13, .int .i64 5, .int .i64 0] 24))
  have LT := hide HG.out.size
  have HGn := hide (grownBy_trans HG.out hg)
  clear HG
  have HG := HGn
  clear HGn
  clear hg
  have HT := HTq
  clear HTq
  generalize hWx : w2.alloc (.cells #[.int .i64 2, .int .i64 0, .int .i64 3, .int .i64 4, .int .i64 13, .int .i64 5, .int .i64 0] 24) = w3 at *
  generalize hBx : w2.heap.size = BT at *
  clear hWx hBx
  go_wp2
  go_loopw [7, 8] (fun v i W => ∃ (n : Nat) (a : Option Addr) (c : Nat), n ≤ 16 ∧ i = .int .i64 n ∧ v = .slice a n c ∧ Hid (Own 0 W (.slice a n c) (fRow n)) ∧ Hid (W.heap[BT]? = some (.cells #[.int .i64 2, .int .i64 0, .int .i64 3, .int .i64 4, .int .i64 13, .int .i64 5, .int .i64 0] 24 (0, 0))) ∧ Hid (w.grownBy W none)) (fun _ i _ => 16 - (intOf i).toNat)
  case atStart => exact ⟨0, none, 0, by omega, rfl, rfl, own_nil _ _, HT, HG⟩
  case round =>
    clear HT HG
    obtain ⟨n, a1, c1, hn, rfl, rfl, OR, HT, HG⟩ := hrel
    by_cases hlt : n < 16
    · skip
      have HQ := hide (fRow_put hlt)
      go_wp2_with (first | fail)
      refine (mk_any n 1 0 10 (by decide) (by decide) (by decide) _).mono ?_; rintro e w4 ⟨rfl, hg⟩
      have HGn := hide (grownBy_trans HG.out hg)
      have HTn := hide (box_grown HT.out hg (by simp))
      have ORn := hide (OR.out.grown hg)
      clear HG HT OR
      have HG := HGn
      have HT := HTn
      have OR := ORn
      clear HGn HTn ORn
      clear hg
      go_wp2_with (first | fail)
      refine (put_at (j := fJ n) (E := 0) (zs := fRow (n + 1)) (N := n + 1) _ OR.out.row HQ.out.1 HQ.out.2 (fRow_len _)).mono ?_; rintro e w5 ⟨u2, c2, rfl, ho, hg⟩
      have HGn := hide (grownBy_trans HG.out hg)
      have HTn := hide (box_grown HT.out hg (by simp))
      have ORn := hide (OR.out.grown hg)
      clear HG HT OR
      have HG := HGn
      have HT := HTn
      have OR := ORn
      clear HGn HTn ORn
      clear hg
      have OX := hide (ho.base (Nat.zero_le _))
      clear ho
      go_wp2_with (first | (go_at_call 16; refine (NUM.out _ _).mono ?_; rintro e wn ⟨rfl, rfl⟩) | fail)
      go_roundw
      case rel => exact ⟨n + 1, u2, c2, by omega, by go_num, by go_num, OX, HT, HG⟩
      case measure => simp [intOf]; omega
    · obtain rfl : n = 16 := by omega
      go_wp2_with (first | fail)
      refine (mk_any 99 1 0 10 (by decide) (by decide) (by decide) _).mono ?_; rintro e w4 ⟨rfl, hg⟩
      have HGn := hide (grownBy_trans HG.out hg)
      have HTn := hide (box_grown HT.out hg (by simp))
      have ORn := hide (OR.out.grown hg)
      clear HG HT OR
      have HG := HGn
      have HT := HTn
      have OR := ORn
      clear HGn HTn ORn
      clear hg
      go_wp2_with (first | fail)
      refine (put_at (j := fJ 99) (E := 1201) (zs := []) (N := 0) _ OR.out.row fRow_full.1 fRow_full.2 rfl).mono ?_; rintro e w5 ⟨u2, c2, rfl, ho, hg⟩
      have HGn := hide (grownBy_trans HG.out hg)
      have HTn := hide (box_grown HT.out hg (by simp))
      have ORn := hide (OR.out.grown hg)
      clear HG HT OR
      have HG := HGn
      have HT := HTn
      have OR := ORn
      clear HGn HTn ORn
      clear hg
      clear ho
      have hU := HCU.out
      have hU1 := HCU1.out
      have hrem := HREM.out
      clear HCU HCU1 HREM
      go_upto_region 16 with (first | fail)
      have hr := HR.out
      clear HR hlt hn
      rcases (show r = 0 ∨ r = 1 ∨ r = 2 ∨ r = 3 ∨ r = 4 ∨ r = 5 ∨ r = 6 ∨ r = 7 ∨ r = 8 ∨ r = 9 ∨ r = 10 by omega) with rfl | rfl | rfl | rfl | rfl | rfl | rfl | rfl | rfl | rfl | rfl
      all_goals clear hr
      · skip
        clear OR
        have cT0 : w5.cell? ⟨BT, 0, none⟩ = some (.int .i64 2) := blk_cell HT.out 0
        have fT0 := blk_free HT.out 0
        go_upto_region 37 with (first | fail)
        clear cT0 fT0
        have hg := grownBy_set w5 BT 0 (.int .i64 (-d))
        have HGn := hide (grown_spoil HG.out LT.out hg)
        have HTn := hide (blk_set (j := 0) (u := .int .i64 (-d)) (cs' := #[.int .i64 (-d), .int .i64 0, .int .i64 3, .int .i64 4, .int .i64 13, .int .i64 5, .int .i64 0]) HT.out rfl)
        clear HG HT
        have HG := HGn
        have HT := HTn
        clear HGn HTn
        clear hg
        generalize hWx : w5.setCell ⟨BT, 0, none⟩ (.int .i64 (-d)) = w6 at *
        clear hWx
        have HANS := hide (fm0 hd1)
        have cT0 : w6.cell? ⟨BT, 0, none⟩ = some (.int .i64 (-d)) := blk_cell HT.out 0
        have cT1 : w6.cell? ⟨BT, 1, none⟩ = some (.int .i64 0) := blk_cell HT.out 1
        have cT2 : w6.cell? ⟨BT, 2, none⟩ = some (.int .i64 3) := blk_cell HT.out 2
        have cT3 : w6.cell? ⟨BT, 3, none⟩ = some (.int .i64 4) := blk_cell HT.out 3
        have cT4 : w6.cell? ⟨BT, 4, none⟩ = some (.int .i64 13) := blk_cell HT.out 4
        have cT5 : w6.cell? ⟨BT, 5, none⟩ = some (.int .i64 5) := blk_cell HT.out 5
        have cT6 : w6.cell? ⟨BT, 6, none⟩ = some (.int .i64 0) := blk_cell HT.out 6
        go_wp2_with (first | fail)
        refine (put_at (js := []) (j := ⟨-d, 0, 3, 4, 13, 5, 0⟩) (E := 1200) (zs := []) (N := 0) _ (rowAt_nil 0 _ none 0) HANS.out.put.1 HANS.out.put.2 rfl).mono ?_; rintro e w7 ⟨u3, c3, rfl, ho, hg⟩
        clear cT0 cT1 cT2 cT3 cT4 cT5 cT6
        have HGn := hide (grownBy_trans HG.out hg)
        have HTn := hide (box_grown HT.out hg (by simp))
        clear HG HT
        have HG := HGn
        have HT := HTn
        clear HGn HTn
        clear hg
        clear ho
        have cT0 : w7.cell? ⟨BT, 0, none⟩ = some (.int .i64 (-d)) := blk_cell HT.out 0
        have cT1 : w7.cell? ⟨BT, 1, none⟩ = some (.int .i64 0) := blk_cell HT.out 1
        have cT2 : w7.cell? ⟨BT, 2, none⟩ = some (.int .i64 3) := blk_cell HT.out 2
        have cT3 : w7.cell? ⟨BT, 3, none⟩ = some (.int .i64 4) := blk_cell HT.out 3
        have cT4 : w7.cell? ⟨BT, 4, none⟩ = some (.int .i64 13) := blk_cell HT.out 4
        have cT5 : w7.cell? ⟨BT, 5, none⟩ = some (.int .i64 5) := blk_cell HT.out 5
        have cT6 : w7.cell? ⟨BT, 6, none⟩ = some (.int .i64 0) := blk_cell HT.out 6
        go_wp2_with (first | fail)
        refine (first_at (x := ⟨0, 0, 0, 0, 0, 0, 0⟩) (b := false) (w7.alloc (.cells #[.int .i64 (-d), .int .i64 0, .int .i64 3, .int .i64 4, .int .i64 13, .int .i64 5, .int .i64 0] 24)) (blk_row (xs := [⟨-d, 0, 3, 4, 13, 5, 0⟩]) (n := 1) (heap_alloc_new w7 (.cells #[.int .i64 (-d), .int .i64 0, .int .i64 3, .int .i64 4, .int .i64 13, .int .i64 5, .int .i64 0] 24)) rfl rfl (by simp)) HANS.out.first.1 HANS.out.first.2).mono ?_; rintro e w8 ⟨rfl, hg⟩
        clear cT0 cT1 cT2 cT3 cT4 cT5 cT6
        replace hg := grownBy_trans (World.grownBy_alloc _ (.cells #[.int .i64 (-d), .int .i64 0, .int .i64 3, .int .i64 4, .int .i64 13, .int .i64 5, .int .i64 0] 24) none) hg
        have HGn := hide (grownBy_trans HG.out hg)
        have HTn := hide (box_grown HT.out hg (by simp))
        clear HG HT
        have HG := HGn
        have HT := HTn
        clear HGn HTn
        clear hg
        go_upto_region 39 with (first | fail)
        have hg := World.grownBy_alloc w8 (.cells #[.int .i64 0, .int .i64 0, .int .i64 0, .int .i64 0, .int .i64 0, .int .i64 0, .int .i64 0] 24) none
        have HXq := hide (heap_alloc_new w8 (.cells #[.int .i64 0, .int .i64 0, .int .i64 0, .int .i64 0, .int .i64 0, .int .i64 0, .int .i64 0] 24))
        have LX := hide HG.out.size
        have HGn := hide (grownBy_trans HG.out hg)
        have HTn := hide (box_grown HT.out hg (by simp))
        clear HG HT
        have HG := HGn
        have HT := HTn
        clear HGn HTn
        clear hg
        have HX := HXq
        clear HXq
        generalize hWx : w8.alloc (.cells #[.int .i64 0, .int .i64 0, .int .i64 0, .int .i64 0, .int .i64 0, .int .i64 0, .int .i64 0] 24) = w9 at *
        generalize hBx : w8.heap.size = BX at *
        clear hWx hBx
        have cT0 : w9.cell? ⟨BT, 0, none⟩ = some (.int .i64 (-d)) := blk_cell HT.out 0
        have cT1 : w9.cell? ⟨BT, 1, none⟩ = some (.int .i64 0) := blk_cell HT.out 1
        have cT2 : w9.cell? ⟨BT, 2, none⟩ = some (.int .i64 3) := blk_cell HT.out 2
        have cT3 : w9.cell? ⟨BT, 3, none⟩ = some (.int .i64 4) := blk_cell HT.out 3
        have cT4 : w9.cell? ⟨BT, 4, none⟩ = some (.int .i64 13) := blk_cell HT.out 4
        have cT5 : w9.cell? ⟨BT, 5, none⟩ = some (.int .i64 5) := blk_cell HT.out 5
        have cT6 : w9.cell? ⟨BT, 6, none⟩ = some (.int .i64 0) := blk_cell HT.out 6
        have cX0 : w9.cell? ⟨BX, 0, none⟩ = some (.int .i64 0) := blk_cell HX.out 0
        have cX1 : w9.cell? ⟨BX, 1, none⟩ = some (.int .i64 0) := blk_cell HX.out 1
        have cX2 : w9.cell? ⟨BX, 2, none⟩ = some (.int .i64 0) := blk_cell HX.out 2
        have cX3 : w9.cell? ⟨BX, 3, none⟩ = some (.int .i64 0) := blk_cell HX.out 3
        have cX4 : w9.cell? ⟨BX, 4, none⟩ = some (.int .i64 0) := blk_cell HX.out 4
        have cX5 : w9.cell? ⟨BX, 5, none⟩ = some (.int .i64 0) := blk_cell HX.out 5
        have cX6 : w9.cell? ⟨BX, 6, none⟩ = some (.int .i64 0) := blk_cell HX.out 6
        go_wp2_with (first | (go_at_call 16; refine (NUM.out _ _).mono ?_; rintro e wn ⟨rfl, rfl⟩) | fail)
        refine (may_at (b := false) (w9.alloc (.cells #[.int .i64 (-d), .int .i64 0, .int .i64 3, .int .i64 4, .int .i64 13, .int .i64 5, .int .i64 0] 24)) (blk_row (xs := [⟨-d, 0, 3, 4, 13, 5, 0⟩]) (n := 1) (heap_alloc_new w9 (.cells #[.int .i64 (-d), .int .i64 0, .int .i64 3, .int .i64 4, .int .i64 13, .int .i64 5, .int .i64 0] 24)) rfl rfl (by simp)) HANS.out.may).mono ?_; rintro e w10 ⟨rfl, hg⟩
        clear cT0 cT1 cT2 cT3 cT4 cT5 cT6 cX0 cX1 cX2 cX3 cX4 cX5 cX6
        replace hg := grownBy_trans (World.grownBy_alloc _ (.cells #[.int .i64 (-d), .int .i64 0, .int .i64 3, .int .i64 4, .int .i64 13, .int .i64 5, .int .i64 0] 24) none) hg
        have HGn := hide (grownBy_trans HG.out hg)
        have HTn := hide (box_grown HT.out hg (by simp))
        have HXn := hide (box_grown HX.out hg (by simp))
        clear HG HT HX
        have HG := HGn
        have HT := HTn
        have HX := HXn
        clear HGn HTn HXn
        clear hg
        go_wp2_with (first | fail)
        go_ret
        exact ⟨rfl, HG.out⟩
      · skip
        clear OR
        have cT0 : w5.cell? ⟨BT, 0, none⟩ = some (.int .i64 2) := blk_cell HT.out 0
        have fT0 := blk_free HT.out 0
        go_upto_region 37 with (first | fail)
        clear cT0 fT0
        have hg := grownBy_set w5 BT 0 (.int .i64 (5 + d))
        have HGn := hide (grown_spoil HG.out LT.out hg)
        have HTn := hide (blk_set (j := 0) (u := .int .i64 (5 + d)) (cs' := #[.int .i64 (5 + d), .int .i64 0, .int .i64 3, .int .i64 4, .int .i64 13, .int .i64 5, .int .i64 0]) HT.out rfl)
        clear HG HT
        have HG := HGn
        have HT := HTn
        clear HGn HTn
        clear hg
        generalize hWx : w5.setCell ⟨BT, 0, none⟩ (.int .i64 (5 + d)) = w6 at *
        clear hWx
        have HANS := hide (fm1 hd1)
        have cT0 : w6.cell? ⟨BT, 0, none⟩ = some (.int .i64 (5 + d)) := blk_cell HT.out 0
        have cT1 : w6.cell? ⟨BT, 1, none⟩ = some (.int .i64 0) := blk_cell HT.out 1
        have cT2 : w6.cell? ⟨BT, 2, none⟩ = some (.int .i64 3) := blk_cell HT.out 2
        have cT3 : w6.cell? ⟨BT, 3, none⟩ = some (.int .i64 4) := blk_cell HT.out 3
        have cT4 : w6.cell? ⟨BT, 4, none⟩ = some (.int .i64 13) := blk_cell HT.out 4
        have cT5 : w6.cell? ⟨BT, 5, none⟩ = some (.int .i64 5) := blk_cell HT.out 5
        have cT6 : w6.cell? ⟨BT, 6, none⟩ = some (.int .i64 0) := blk_cell HT.out 6
        go_wp2_with (first | fail)
        refine (put_at (js := []) (j := ⟨5 + d, 0, 3, 4, 13, 5, 0⟩) (E := 1200) (zs := []) (N := 0) _ (rowAt_nil 0 _ none 0) HANS.out.put.1 HANS.out.put.2 rfl).mono ?_; rintro e w7 ⟨u3, c3, rfl, ho, hg⟩
        clear cT0 cT1 cT2 cT3 cT4 cT5 cT6
        have HGn := hide (grownBy_trans HG.out hg)
        have HTn := hide (box_grown HT.out hg (by simp))
        clear HG HT
        have HG := HGn
        have HT := HTn
        clear HGn HTn
        clear hg
        clear ho
        have cT0 : w7.cell? ⟨BT, 0, none⟩ = some (.int .i64 (5 + d)) := blk_cell HT.out 0
        have cT1 : w7.cell? ⟨BT, 1, none⟩ = some (.int .i64 0) := blk_cell HT.out 1
        have cT2 : w7.cell? ⟨BT, 2, none⟩ = some (.int .i64 3) := blk_cell HT.out 2
        have cT3 : w7.cell? ⟨BT, 3, none⟩ = some (.int .i64 4) := blk_cell HT.out 3
        have cT4 : w7.cell? ⟨BT, 4, none⟩ = some (.int .i64 13) := blk_cell HT.out 4
        have cT5 : w7.cell? ⟨BT, 5, none⟩ = some (.int .i64 5) := blk_cell HT.out 5
        have cT6 : w7.cell? ⟨BT, 6, none⟩ = some (.int .i64 0) := blk_cell HT.out 6
        go_wp2_with (first | fail)
        refine (first_at (x := ⟨0, 0, 0, 0, 0, 0, 0⟩) (b := false) (w7.alloc (.cells #[.int .i64 (5 + d), .int .i64 0, .int .i64 3, .int .i64 4, .int .i64 13, .int .i64 5, .int .i64 0] 24)) (blk_row (xs := [⟨5 + d, 0, 3, 4, 13, 5, 0⟩]) (n := 1) (heap_alloc_new w7 (.cells #[.int .i64 (5 + d), .int .i64 0, .int .i64 3, .int .i64 4, .int .i64 13, .int .i64 5, .int .i64 0] 24)) rfl rfl (by simp)) HANS.out.first.1 HANS.out.first.2).mono ?_; rintro e w8 ⟨rfl, hg⟩
        clear cT0 cT1 cT2 cT3 cT4 cT5 cT6
        replace hg := grownBy_trans (World.grownBy_alloc _ (.cells #[.int .i64 (5 + d), .int .i64 0, .int .i64 3, .int .i64 4, .int .i64 13, .int .i64 5, .int .i64 0] 24) none) hg
        have HGn := hide (grownBy_trans HG.out hg)
        have HTn := hide (box_grown HT.out hg (by simp))
        clear HG HT
        have HG := HGn
        have HT := HTn
        clear HGn HTn
        clear hg
        go_upto_region 39 with (first | fail)
        have hg := World.grownBy_alloc w8 (.cells #[.int .i64 0, .int .i64 0, .int .i64 0, .int .i64 0, .int .i64 0, .int .i64 0, .int .i64 0] 24) none
        have HXq := hide (heap_alloc_new w8 (.cells #[.int .i64 0, .int .i64 0, .int .i64 0, .int .i64 0, .int .i64 0, .int .i64 0, .int .i64 0] 24))
        have LX := hide HG.out.size
        have HGn := hide (grownBy_trans HG.out hg)
        have HTn := hide (box_grown HT.out hg (by simp))
        clear HG HT
        have HG := HGn
        have HT := HTn
        clear HGn HTn
        clear hg
        have HX := HXq
        clear HXq
        generalize hWx : w8.alloc (.cells #[.int .i64 0, .int .i64 0, .int .i64 0, .int .i64 0, .int .i64 0, .int .i64 0, .int .i64 0] 24) = w9 at *
        generalize hBx : w8.heap.size = BX at *
        clear hWx hBx
        have cT0 : w9.cell? ⟨BT, 0, none⟩ = some (.int .i64 (5 + d)) := blk_cell HT.out 0
        have cT1 : w9.cell? ⟨BT, 1, none⟩ = some (.int .i64 0) := blk_cell HT.out 1
        have cT2 : w9.cell? ⟨BT, 2, none⟩ = some (.int .i64 3) := blk_cell HT.out 2
        have cT3 : w9.cell? ⟨BT, 3, none⟩ = some (.int .i64 4) := blk_cell HT.out 3
        have cT4 : w9.cell? ⟨BT, 4, none⟩ = some (.int .i64 13) := blk_cell HT.out 4
        have cT5 : w9.cell? ⟨BT, 5, none⟩ = some (.int .i64 5) := blk_cell HT.out 5
        have cT6 : w9.cell? ⟨BT, 6, none⟩ = some (.int .i64 0) := blk_cell HT.out 6
        have cX0 : w9.cell? ⟨BX, 0, none⟩ = some (.int .i64 0) := blk_cell HX.out 0
        have cX1 : w9.cell? ⟨BX, 1, none⟩ = some (.int .i64 0) := blk_cell HX.out 1
        have cX2 : w9.cell? ⟨BX, 2, none⟩ = some (.int .i64 0) := blk_cell HX.out 2
        have cX3 : w9.cell? ⟨BX, 3, none⟩ = some (.int .i64 0) := blk_cell HX.out 3
        have cX4 : w9.cell? ⟨BX, 4, none⟩ = some (.int .i64 0) := blk_cell HX.out 4
        have cX5 : w9.cell? ⟨BX, 5, none⟩ = some (.int .i64 0) := blk_cell HX.out 5
        have cX6 : w9.cell? ⟨BX, 6, none⟩ = some (.int .i64 0) := blk_cell HX.out 6
        go_wp2_with (first | (go_at_call 16; refine (NUM.out _ _).mono ?_; rintro e wn ⟨rfl, rfl⟩) | fail)
        refine (may_at (b := false) (w9.alloc (.cells #[.int .i64 (5 + d), .int .i64 0, .int .i64 3, .int .i64 4, .int .i64 13, .int .i64 5, .int .i64 0] 24)) (blk_row (xs := [⟨5 + d, 0, 3, 4, 13, 5, 0⟩]) (n := 1) (heap_alloc_new w9 (.cells #[.int .i64 (5 + d), .int .i64 0, .int .i64 3, .int .i64 4, .int .i64 13, .int .i64 5, .int .i64 0] 24)) rfl rfl (by simp)) HANS.out.may).mono ?_; rintro e w10 ⟨rfl, hg⟩
        clear cT0 cT1 cT2 cT3 cT4 cT5 cT6 cX0 cX1 cX2 cX3 cX4 cX5 cX6
        replace hg := grownBy_trans (World.grownBy_alloc _ (.cells #[.int .i64 (5 + d), .int .i64 0, .int .i64 3, .int .i64 4, .int .i64 13, .int .i64 5, .int .i64 0] 24) none) hg
        have HGn := hide (grownBy_trans HG.out hg)
        have HTn := hide (box_grown HT.out hg (by simp))
        have HXn := hide (box_grown HX.out hg (by simp))
        clear HG HT HX
        have HG := HGn
        have HT := HTn
        have HX := HXn
        clear HGn HTn HXn
        clear hg
        go_wp2_with (first | fail)
        go_ret
        exact ⟨rfl, HG.out⟩
      · skip
        clear OR
        have cT1 : w5.cell? ⟨BT, 1, none⟩ = some (.int .i64 0) := blk_cell HT.out 1
        have fT1 := blk_free HT.out 1
        go_upto_region 37 with (first | fail)
        clear cT1 fT1
        have hg := grownBy_set w5 BT 1 (.int .i64 (-d))
        have HGn := hide (grown_spoil HG.out LT.out hg)
        have HTn := hide (blk_set (j := 1) (u := .int .i64 (-d)) (cs' := #[.int .i64 2, .int .i64 (-d), .int .i64 3, .int .i64 4, .int .i64 13, .int .i64 5, .int .i64 0]) HT.out rfl)
        clear HG HT
        have HG := HGn
        have HT := HTn
        clear HGn HTn
        clear hg
        generalize hWx : w5.setCell ⟨BT, 1, none⟩ (.int .i64 (-d)) = w6 at *
        clear hWx
        have HANS := hide (fm2 hd1)
        have cT0 : w6.cell? ⟨BT, 0, none⟩ = some (.int .i64 2) := blk_cell HT.out 0
        have cT1 : w6.cell? ⟨BT, 1, none⟩ = some (.int .i64 (-d)) := blk_cell HT.out 1
        have cT2 : w6.cell? ⟨BT, 2, none⟩ = some (.int .i64 3) := blk_cell HT.out 2
        have cT3 : w6.cell? ⟨BT, 3, none⟩ = some (.int .i64 4) := blk_cell HT.out 3
        have cT4 : w6.cell? ⟨BT, 4, none⟩ = some (.int .i64 13) := blk_cell HT.out 4
        have cT5 : w6.cell? ⟨BT, 5, none⟩ = some (.int .i64 5) := blk_cell HT.out 5
        have cT6 : w6.cell? ⟨BT, 6, none⟩ = some (.int .i64 0) := blk_cell HT.out 6
        go_wp2_with (first | fail)
        refine (put_at (js := []) (j := ⟨2, -d, 3, 4, 13, 5, 0⟩) (E := 1200) (zs := []) (N := 0) _ (rowAt_nil 0 _ none 0) HANS.out.put.1 HANS.out.put.2 rfl).mono ?_; rintro e w7 ⟨u3, c3, rfl, ho, hg⟩
        clear cT0 cT1 cT2 cT3 cT4 cT5 cT6
        have HGn := hide (grownBy_trans HG.out hg)
        have HTn := hide (box_grown HT.out hg (by simp))
        clear HG HT
        have HG := HGn
        have HT := HTn
        clear HGn HTn
        clear hg
        clear ho
        have cT0 : w7.cell? ⟨BT, 0, none⟩ = some (.int .i64 2) := blk_cell HT.out 0
        have cT1 : w7.cell? ⟨BT, 1, none⟩ = some (.int .i64 (-d)) := blk_cell HT.out 1
        have cT2 : w7.cell? ⟨BT, 2, none⟩ = some (.int .i64 3) := blk_cell HT.out 2
        have cT3 : w7.cell? ⟨BT, 3, none⟩ = some (.int .i64 4) := blk_cell HT.out 3
        have cT4 : w7.cell? ⟨BT, 4, none⟩ = some (.int .i64 13) := blk_cell HT.out 4
        have cT5 : w7.cell? ⟨BT, 5, none⟩ = some (.int .i64 5) := blk_cell HT.out 5
        have cT6 : w7.cell? ⟨BT, 6, none⟩ = some (.int .i64 0) := blk_cell HT.out 6
        go_wp2_with (first | fail)
        refine (first_at (x := ⟨0, 0, 0, 0, 0, 0, 0⟩) (b := false) (w7.alloc (.cells #[.int .i64 2, .int .i64 (-d), .int .i64 3, .int .i64 4, .int .i64 13, .int .i64 5, .int .i64 0] 24)) (blk_row (xs := [⟨2, -d, 3, 4, 13, 5, 0⟩]) (n := 1) (heap_alloc_new w7 (.cells #[.int .i64 2, .int .i64 (-d), .int .i64 3, .int .i64 4, .int .i64 13, .int .i64 5, .int .i64 0] 24)) rfl rfl (by simp)) HANS.out.first.1 HANS.out.first.2).mono ?_; rintro e w8 ⟨rfl, hg⟩
        clear cT0 cT1 cT2 cT3 cT4 cT5 cT6
        replace hg := grownBy_trans (World.grownBy_alloc _ (.cells #[.int .i64 2, .int .i64 (-d), .int .i64 3, .int .i64 4, .int .i64 13, .int .i64 5, .int .i64 0] 24) none) hg
        have HGn := hide (grownBy_trans HG.out hg)
        have HTn := hide (box_grown HT.out hg (by simp))
        clear HG HT
        have HG := HGn
        have HT := HTn
        clear HGn HTn
        clear hg
        go_upto_region 39 with (first | fail)
        have hg := World.grownBy_alloc w8 (.cells #[.int .i64 0, .int .i64 0, .int .i64 0, .int .i64 0, .int .i64 0, .int .i64 0, .int .i64 0] 24) none
        have HXq := hide (heap_alloc_new w8 (.cells #[.int .i64 0, .int .i64 0, .int .i64 0, .int .i64 0, .int .i64 0, .int .i64 0, .int .i64 0] 24))
        have LX := hide HG.out.size
        have HGn := hide (grownBy_trans HG.out hg)
        have HTn := hide (box_grown HT.out hg (by simp))
        clear HG HT
        have HG := HGn
        have HT := HTn
        clear HGn HTn
        clear hg
        have HX := HXq
        clear HXq
        generalize hWx : w8.alloc (.cells #[.int .i64 0, .int .i64 0, .int .i64 0, .int .i64 0, .int .i64 0, .int .i64 0, .int .i64 0] 24) = w9 at *
        generalize hBx : w8.heap.size = BX at *
        clear hWx hBx
        have cT0 : w9.cell? ⟨BT, 0, none⟩ = some (.int .i64 2) := blk_cell HT.out 0
        have cT1 : w9.cell? ⟨BT, 1, none⟩ = some (.int .i64 (-d)) := blk_cell HT.out 1
        have cT2 : w9.cell? ⟨BT, 2, none⟩ = some (.int .i64 3) := blk_cell HT.out 2
        have cT3 : w9.cell? ⟨BT, 3, none⟩ = some (.int .i64 4) := blk_cell HT.out 3
        have cT4 : w9.cell? ⟨BT, 4, none⟩ = some (.int .i64 13) := blk_cell HT.out 4
        have cT5 : w9.cell? ⟨BT, 5, none⟩ = some (.int .i64 5) := blk_cell HT.out 5
        have cT6 : w9.cell? ⟨BT, 6, none⟩ = some (.int .i64 0) := blk_cell HT.out 6
        have cX0 : w9.cell? ⟨BX, 0, none⟩ = some (.int .i64 0) := blk_cell HX.out 0
        have cX1 : w9.cell? ⟨BX, 1, none⟩ = some (.int .i64 0) := blk_cell HX.out 1
        have cX2 : w9.cell? ⟨BX, 2, none⟩ = some (.int .i64 0) := blk_cell HX.out 2
        have cX3 : w9.cell? ⟨BX, 3, none⟩ = some (.int .i64 0) := blk_cell HX.out 3
        have cX4 : w9.cell? ⟨BX, 4, none⟩ = some (.int .i64 0) := blk_cell HX.out 4
        have cX5 : w9.cell? ⟨BX, 5, none⟩ = some (.int .i64 0) := blk_cell HX.out 5
        have cX6 : w9.cell? ⟨BX, 6, none⟩ = some (.int .i64 0) := blk_cell HX.out 6
        go_wp2_with (first | (go_at_call 16; refine (NUM.out _ _).mono ?_; rintro e wn ⟨rfl, rfl⟩) | fail)
        refine (may_at (b := false) (w9.alloc (.cells #[.int .i64 2, .int .i64 (-d), .int .i64 3, .int .i64 4, .int .i64 13, .int .i64 5, .int .i64 0] 24)) (blk_row (xs := [⟨2, -d, 3, 4, 13, 5, 0⟩]) (n := 1) (heap_alloc_new w9 (.cells #[.int .i64 2, .int .i64 (-d), .int .i64 3, .int .i64 4, .int .i64 13, .int .i64 5, .int .i64 0] 24)) rfl rfl (by simp)) HANS.out.may).mono ?_; rintro e w10 ⟨rfl, hg⟩
        clear cT0 cT1 cT2 cT3 cT4 cT5 cT6 cX0 cX1 cX2 cX3 cX4 cX5 cX6
        replace hg := grownBy_trans (World.grownBy_alloc _ (.cells #[.int .i64 2, .int .i64 (-d), .int .i64 3, .int .i64 4, .int .i64 13, .int .i64 5, .int .i64 0] 24) none) hg
        have HGn := hide (grownBy_trans HG.out hg)
        have HTn := hide (box_grown HT.out hg (by simp))
        have HXn := hide (box_grown HX.out hg (by simp))
        clear HG HT HX
        have HG := HGn
        have HT := HTn
        have HX := HXn
        clear HGn HTn HXn
        clear hg
        go_wp2_with (first | fail)
        go_ret
        exact ⟨rfl, HG.out⟩
      · skip
        clear OR
        have cT2 : w5.cell? ⟨BT, 2, none⟩ = some (.int .i64 3) := blk_cell HT.out 2
        have fT2 := blk_free HT.out 2
        go_upto_region 37 with (first | fail)
        clear cT2 fT2
        have hg := grownBy_set w5 BT 2 (.int .i64 (255 + d))
        have HGn := hide (grown_spoil HG.out LT.out hg)
        have HTn := hide (blk_set (j := 2) (u := .int .i64 (255 + d)) (cs' := #[.int .i64 2, .int .i64 0, .int .i64 (255 + d), .int .i64 4, .int .i64 13, .int .i64 5, .int .i64 0]) HT.out rfl)
        clear HG HT
        have HG := HGn
        have HT := HTn
        clear HGn HTn
        clear hg
        generalize hWx : w5.setCell ⟨BT, 2, none⟩ (.int .i64 (255 + d)) = w6 at *
        clear hWx
        have HANS := hide (fm3 hd1)
        have cT0 : w6.cell? ⟨BT, 0, none⟩ = some (.int .i64 2) := blk_cell HT.out 0
        have cT1 : w6.cell? ⟨BT, 1, none⟩ = some (.int .i64 0) := blk_cell HT.out 1
        have cT2 : w6.cell? ⟨BT, 2, none⟩ = some (.int .i64 (255 + d)) := blk_cell HT.out 2
        have cT3 : w6.cell? ⟨BT, 3, none⟩ = some (.int .i64 4) := blk_cell HT.out 3
        have cT4 : w6.cell? ⟨BT, 4, none⟩ = some (.int .i64 13) := blk_cell HT.out 4
        have cT5 : w6.cell? ⟨BT, 5, none⟩ = some (.int .i64 5) := blk_cell HT.out 5
        have cT6 : w6.cell? ⟨BT, 6, none⟩ = some (.int .i64 0) := blk_cell HT.out 6
        go_wp2_with (first | fail)
        refine (put_at (js := []) (j := ⟨2, 0, 255 + d, 4, 13, 5, 0⟩) (E := 1200) (zs := []) (N := 0) _ (rowAt_nil 0 _ none 0) HANS.out.put.1 HANS.out.put.2 rfl).mono ?_; rintro e w7 ⟨u3, c3, rfl, ho, hg⟩
        clear cT0 cT1 cT2 cT3 cT4 cT5 cT6
        have HGn := hide (grownBy_trans HG.out hg)
        have HTn := hide (box_grown HT.out hg (by simp))
        clear HG HT
        have HG := HGn
        have HT := HTn
        clear HGn HTn
        clear hg
        clear ho
        have cT0 : w7.cell? ⟨BT, 0, none⟩ = some (.int .i64 2) := blk_cell HT.out 0
        have cT1 : w7.cell? ⟨BT, 1, none⟩ = some (.int .i64 0) := blk_cell HT.out 1
        have cT2 : w7.cell? ⟨BT, 2, none⟩ = some (.int .i64 (255 + d)) := blk_cell HT.out 2
        have cT3 : w7.cell? ⟨BT, 3, none⟩ = some (.int .i64 4) := blk_cell HT.out 3
        have cT4 : w7.cell? ⟨BT, 4, none⟩ = some (.int .i64 13) := blk_cell HT.out 4
        have cT5 : w7.cell? ⟨BT, 5, none⟩ = some (.int .i64 5) := blk_cell HT.out 5
        have cT6 : w7.cell? ⟨BT, 6, none⟩ = some (.int .i64 0) := blk_cell HT.out 6
        go_wp2_with (first | fail)
        refine (first_at (x := ⟨0, 0, 0, 0, 0, 0, 0⟩) (b := false) (w7.alloc (.cells #[.int .i64 2, .int .i64 0, .int .i64 (255 + d), .int .i64 4, .int .i64 13, .int .i64 5, .int .i64 0] 24)) (blk_row (xs := [⟨2, 0, 255 + d, 4, 13, 5, 0⟩]) (n := 1) (heap_alloc_new w7 (.cells #[.int .i64 2, .int .i64 0, .int .i64 (255 + d), .int .i64 4, .int .i64 13, .int .i64 5, .int .i64 0] 24)) rfl rfl (by simp)) HANS.out.first.1 HANS.out.first.2).mono ?_; rintro e w8 ⟨rfl, hg⟩
        clear cT0 cT1 cT2 cT3 cT4 cT5 cT6
        replace hg := grownBy_trans (World.grownBy_alloc _ (.cells #[.int .i64 2, .int .i64 0, .int .i64 (255 + d), .int .i64 4, .int .i64 13, .int .i64 5, .int .i64 0] 24) none) hg
        have HGn := hide (grownBy_trans HG.out hg)
        have HTn := hide (box_grown HT.out hg (by simp))
        clear HG HT
        have HG := HGn
        have HT := HTn
        clear HGn HTn
        clear hg
        go_upto_region 39 with (first | fail)
        have hg := World.grownBy_alloc w8 (.cells #[.int .i64 0, .int .i64 0, .int .i64 0, .int .i64 0, .int .i64 0, .int .i64 0, .int .i64 0] 24) none
        have HXq := hide (heap_alloc_new w8 (.cells #[.int .i64 0, .int .i64 0, .int .i64 0, .int .i64 0, .int .i64 0, .int .i64 0, .int .i64 0] 24))
        have LX := hide HG.out.size
        have HGn := hide (grownBy_trans HG.out hg)
        have HTn := hide (box_grown HT.out hg (by simp))
        clear HG HT
        have HG := HGn
        have HT := HTn
        clear HGn HTn
        clear hg
        have HX := HXq
        clear HXq
        generalize hWx : w8.alloc (.cells #[.int .i64 0, .int .i64 0, .int .i64 0, .int .i64 0, .int .i64 0, .int .i64 0, .int .i64 0] 24) = w9 at *
        generalize hBx : w8.heap.size = BX at *
        clear hWx hBx
        have cT0 : w9.cell? ⟨BT, 0, none⟩ = some (.int .i64 2) := blk_cell HT.out 0
        have cT1 : w9.cell? ⟨BT, 1, none⟩ = some (.int .i64 0) := blk_cell HT.out 1
        have cT2 : w9.cell? ⟨BT, 2, none⟩ = some (.int .i64 (255 + d)) := blk_cell HT.out 2
        have cT3 : w9.cell? ⟨BT, 3, none⟩ = some (.int .i64 4) := blk_cell HT.out 3
        have cT4 : w9.cell? ⟨BT, 4, none⟩ = some (.int .i64 13) := blk_cell HT.out 4
        have cT5 : w9.cell? ⟨BT, 5, none⟩ = some (.int .i64 5) := blk_cell HT.out 5
        have cT6 : w9.cell? ⟨BT, 6, none⟩ = some (.int .i64 0) := blk_cell HT.out 6
        have cX0 : w9.cell? ⟨BX, 0, none⟩ = some (.int .i64 0) := blk_cell HX.out 0
        have cX1 : w9.cell? ⟨BX, 1, none⟩ = some (.int .i64 0) := blk_cell HX.out 1
        have cX2 : w9.cell? ⟨BX, 2, none⟩ = some (.int .i64 0) := blk_cell HX.out 2
        have cX3 : w9.cell? ⟨BX, 3, none⟩ = some (.int .i64 0) := blk_cell HX.out 3
        have cX4 : w9.cell? ⟨BX, 4, none⟩ = some (.int .i64 0) := blk_cell HX.out 4
        have cX5 : w9.cell? ⟨BX, 5, none⟩ = some (.int .i64 0) := blk_cell HX.out 5
        have cX6 : w9.cell? ⟨BX, 6, none⟩ = some (.int .i64 0) := blk_cell HX.out 6
        go_wp2_with (first | (go_at_call 16; refine (NUM.out _ _).mono ?_; rintro e wn ⟨rfl, rfl⟩) | fail)
        refine (may_at (b := false) (w9.alloc (.cells #[.int .i64 2, .int .i64 0, .int .i64 (255 + d), .int .i64 4, .int .i64 13, .int .i64 5, .int .i64 0] 24)) (blk_row (xs := [⟨2, 0, 255 + d, 4, 13, 5, 0⟩]) (n := 1) (heap_alloc_new w9 (.cells #[.int .i64 2, .int .i64 0, .int .i64 (255 + d), .int .i64 4, .int .i64 13, .int .i64 5, .int .i64 0] 24)) rfl rfl (by simp)) HANS.out.may).mono ?_; rintro e w10 ⟨rfl, hg⟩
        clear cT0 cT1 cT2 cT3 cT4 cT5 cT6 cX0 cX1 cX2 cX3 cX4 cX5 cX6
        replace hg := grownBy_trans (World.grownBy_alloc _ (.cells #[.int .i64 2, .int .i64 0, .int .i64 (255 + d), .int .i64 4, .int .i64 13, .int .i64 5, .int .i64 0] 24) none) hg
        have HGn := hide (grownBy_trans HG.out hg)
        have HTn := hide (box_grown HT.out hg (by simp))
        have HXn := hide (box_grown HX.out hg (by simp))
        clear HG HT HX
        have HG := HGn
        have HT := HTn
        have HX := HXn
        clear HGn HTn HXn
        clear hg
        go_wp2_with (first | fail)
        go_ret
        exact ⟨rfl, HG.out⟩
      · skip
        clear OR
        have cT3 : w5.cell? ⟨BT, 3, none⟩ = some (.int .i64 4) := blk_cell HT.out 3
        have fT3 := blk_free HT.out 3
        go_upto_region 37 with (first | fail)
        clear cT3 fT3
        have hg := grownBy_set w5 BT 3 (.int .i64 (-d))
        have HGn := hide (grown_spoil HG.out LT.out hg)
        have HTn := hide (blk_set (j := 3) (u := .int .i64 (-d)) (cs' := #[.int .i64 2, .int .i64 0, .int .i64 3, .int .i64 (-d), .int .i64 13, .int .i64 5, .int .i64 0]) HT.out rfl)
        clear HG HT
        have HG := HGn
        have HT := HTn
        clear HGn HTn
        clear hg
        generalize hWx : w5.setCell ⟨BT, 3, none⟩ (.int .i64 (-d)) = w6 at *
        clear hWx
        have HANS := hide (fm4 hd1)
        have cT0 : w6.cell? ⟨BT, 0, none⟩ = some (.int .i64 2) := blk_cell HT.out 0
        have cT1 : w6.cell? ⟨BT, 1, none⟩ = some (.int .i64 0) := blk_cell HT.out 1
        have cT2 : w6.cell? ⟨BT, 2, none⟩ = some (.int .i64 3) := blk_cell HT.out 2
        have cT3 : w6.cell? ⟨BT, 3, none⟩ = some (.int .i64 (-d)) := blk_cell HT.out 3
        have cT4 : w6.cell? ⟨BT, 4, none⟩ = some (.int .i64 13) := blk_cell HT.out 4
        have cT5 : w6.cell? ⟨BT, 5, none⟩ = some (.int .i64 5) := blk_cell HT.out 5
        have cT6 : w6.cell? ⟨BT, 6, none⟩ = some (.int .i64 0) := blk_cell HT.out 6
        go_wp2_with (first | fail)
        refine (put_at (js := []) (j := ⟨2, 0, 3, -d, 13, 5, 0⟩) (E := 1200) (zs := []) (N := 0) _ (rowAt_nil 0 _ none 0) HANS.out.put.1 HANS.out.put.2 rfl).mono ?_; rintro e w7 ⟨u3, c3, rfl, ho, hg⟩
        clear cT0 cT1 cT2 cT3 cT4 cT5 cT6
        have HGn := hide (grownBy_trans HG.out hg)
        have HTn := hide (box_grown HT.out hg (by simp))
        clear HG HT
        have HG := HGn
        have HT := HTn
        clear HGn HTn
        clear hg
        clear ho
        have cT0 : w7.cell? ⟨BT, 0, none⟩ = some (.int .i64 2) := blk_cell HT.out 0
        have cT1 : w7.cell? ⟨BT, 1, none⟩ = some (.int .i64 0) := blk_cell HT.out 1
        have cT2 : w7.cell? ⟨BT, 2, none⟩ = some (.int .i64 3) := blk_cell HT.out 2
        have cT3 : w7.cell? ⟨BT, 3, none⟩ = some (.int .i64 (-d)) := blk_cell HT.out 3
        have cT4 : w7.cell? ⟨BT, 4, none⟩ = some (.int .i64 13) := blk_cell HT.out 4
        have cT5 : w7.cell? ⟨BT, 5, none⟩ = some (.int .i64 5) := blk_cell HT.out 5
        have cT6 : w7.cell? ⟨BT, 6, none⟩ = some (.int .i64 0) := blk_cell HT.out 6
        go_wp2_with (first | fail)
        refine (first_at (x := ⟨0, 0, 0, 0, 0, 0, 0⟩) (b := false) (w7.alloc (.cells #[.int .i64 2, .int .i64 0, .int .i64 3, .int .i64 (-d), .int .i64 13, .int .i64 5, .int .i64 0] 24)) (blk_row (xs := [⟨2, 0, 3, -d, 13, 5, 0⟩]) (n := 1) (heap_alloc_new w7 (.cells #[.int .i64 2, .int .i64 0, .int .i64 3, .int .i64 (-d), .int .i64 13, .int .i64 5, .int .i64 0] 24)) rfl rfl (by simp)) HANS.out.first.1 HANS.out.first.2).mono ?_; rintro e w8 ⟨rfl, hg⟩
        clear cT0 cT1 cT2 cT3 cT4 cT5 cT6
        replace hg := grownBy_trans (World.grownBy_alloc _ (.cells #[.int .i64 2, .int .i64 0, .int .i64 3, .int .i64 (-d), .int .i64 13, .int .i64 5, .int .i64 0] 24) none) hg
        have HGn := hide (grownBy_trans HG.out hg)
        have HTn := hide (box_grown HT.out hg (by simp))
        clear HG HT
        have HG := HGn
        have HT := HTn
        clear HGn HTn
        clear hg
        go_upto_region 39 with (first | fail)
        have hg := World.grownBy_alloc w8 (.cells #[.int .i64 0, .int .i64 0, .int .i64 0, .int .i64 0, .int .i64 0, .int .i64 0, .int .i64 0] 24) none
        have HXq := hide (heap_alloc_new w8 (.cells #[.int .i64 0, .int .i64 0, .int .i64 0, .int .i64 0, .int .i64 0, .int .i64 0, .int .i64 0] 24))
        have LX := hide HG.out.size
        have HGn := hide (grownBy_trans HG.out hg)
        have HTn := hide (box_grown HT.out hg (by simp))
        clear HG HT
        have HG := HGn
        have HT := HTn
        clear HGn HTn
        clear hg
        have HX := HXq
        clear HXq
        generalize hWx : w8.alloc (.cells #[.int .i64 0, .int .i64 0, .int .i64 0, .int .i64 0, .int .i64 0, .int .i64 0, .int .i64 0] 24) = w9 at *
        generalize hBx : w8.heap.size = BX at *
        clear hWx hBx
        have cT0 : w9.cell? ⟨BT, 0, none⟩ = some (.int .i64 2) := blk_cell HT.out 0
        have cT1 : w9.cell? ⟨BT, 1, none⟩ = some (.int .i64 0) := blk_cell HT.out 1
        have cT2 : w9.cell? ⟨BT, 2, none⟩ = some (.int .i64 3) := blk_cell HT.out 2
        have cT3 : w9.cell? ⟨BT, 3, none⟩ = some (.int .i64 (-d)) := blk_cell HT.out 3
        have cT4 : w9.cell? ⟨BT, 4, none⟩ = some (.int .i64 13) := blk_cell HT.out 4
        have cT5 : w9.cell? ⟨BT, 5, none⟩ = some (.int .i64 5) := blk_cell HT.out 5
        have cT6 : w9.cell? ⟨BT, 6, none⟩ = some (.int .i64 0) := blk_cell HT.out 6
        have cX0 : w9.cell? ⟨BX, 0, none⟩ = some (.int .i64 0) := blk_cell HX.out 0
        have cX1 : w9.cell? ⟨BX, 1, none⟩ = some (.int .i64 0) := blk_cell HX.out 1
        have cX2 : w9.cell? ⟨BX, 2, none⟩ = some (.int .i64 0) := blk_cell HX.out 2
        have cX3 : w9.cell? ⟨BX, 3, none⟩ = some (.int .i64 0) := blk_cell HX.out 3
        have cX4 : w9.cell? ⟨BX, 4, none⟩ = some (.int .i64 0) := blk_cell HX.out 4
        have cX5 : w9.cell? ⟨BX, 5, none⟩ = some (.int .i64 0) := blk_cell HX.out 5
        have cX6 : w9.cell? ⟨BX, 6, none⟩ = some (.int .i64 0) := blk_cell HX.out 6
        go_wp2_with (first | (go_at_call 16; refine (NUM.out _ _).mono ?_; rintro e wn ⟨rfl, rfl⟩) | fail)
        refine (may_at (b := false) (w9.alloc (.cells #[.int .i64 2, .int .i64 0, .int .i64 3, .int .i64 (-d), .int .i64 13, .int .i64 5, .int .i64 0] 24)) (blk_row (xs := [⟨2, 0, 3, -d, 13, 5, 0⟩]) (n := 1) (heap_alloc_new w9 (.cells #[.int .i64 2, .int .i64 0, .int .i64 3, .int .i64 (-d), .int .i64 13, .int .i64 5, .int .i64 0] 24)) rfl rfl (by simp)) HANS.out.may).mono ?_; rintro e w10 ⟨rfl, hg⟩
        clear cT0 cT1 cT2 cT3 cT4 cT5 cT6 cX0 cX1 cX2 cX3 cX4 cX5 cX6
        replace hg := grownBy_trans (World.grownBy_alloc _ (.cells #[.int .i64 2, .int .i64 0, .int .i64 3, .int .i64 (-d), .int .i64 13, .int .i64 5, .int .i64 0] 24) none) hg
        have HGn := hide (grownBy_trans HG.out hg)
        have HTn := hide (box_grown HT.out hg (by simp))
        have HXn := hide (box_grown HX.out hg (by simp))
        clear HG HT HX
        have HG := HGn
        have HT := HTn
        have HX := HXn
        clear HGn HTn HXn
        clear hg
        go_wp2_with (first | fail)
        go_ret
        exact ⟨rfl, HG.out⟩
      · skip
        clear OR
        have cT3 : w5.cell? ⟨BT, 3, none⟩ = some (.int .i64 4) := blk_cell HT.out 3
        have fT3 := blk_free HT.out 3
        go_upto_region 28 with (first | fail)
        clear cT3 fT3
        have hg := grownBy_set w5 BT 3 (.int .i64 (1099511627776 + d))
        have HGn := hide (grown_spoil HG.out LT.out hg)
        have HTn := hide (blk_set (j := 3) (u := .int .i64 (1099511627776 + d)) (cs' := #[.int .i64 2, .int .i64 0, .int .i64 3, .int .i64 (1099511627776 + d), .int .i64 13, .int .i64 5, .int .i64 0]) HT.out rfl)
        clear HG HT
        have HG := HGn
        have HT := HTn
        clear HGn HTn
        clear hg
        generalize hWx : w5.setCell ⟨BT, 3, none⟩ (.int .i64 (1099511627776 + d)) = w6 at *
        clear hWx
        have cT3 : w6.cell? ⟨BT, 3, none⟩ = some (.int .i64 (1099511627776 + d)) := blk_cell HT.out 3
        have cT4 : w6.cell? ⟨BT, 4, none⟩ = some (.int .i64 13) := blk_cell HT.out 4
        have fT4 := blk_free HT.out 4
        go_upto_region 37 with (first | fail)
        clear cT3 cT4 fT4
        have hg := grownBy_set w6 BT 4 (.int .i64 (1099511627776 + d + 1))
        have HGn := hide (grown_spoil HG.out LT.out hg)
        have HTn := hide (blk_set (j := 4) (u := .int .i64 (1099511627776 + d + 1)) (cs' := #[.int .i64 2, .int .i64 0, .int .i64 3, .int .i64 (1099511627776 + d), .int .i64 (1099511627776 + d + 1), .int .i64 5, .int .i64 0]) HT.out rfl)
        clear HG HT
        have HG := HGn
        have HT := HTn
        clear HGn HTn
        clear hg
        generalize hWx : w6.setCell ⟨BT, 4, none⟩ (.int .i64 (1099511627776 + d + 1)) = w7 at *
        clear hWx
        have HANS := hide (fm5 hd1)
        have cT0 : w7.cell? ⟨BT, 0, none⟩ = some (.int .i64 2) := blk_cell HT.out 0
        have cT1 : w7.cell? ⟨BT, 1, none⟩ = some (.int .i64 0) := blk_cell HT.out 1
        have cT2 : w7.cell? ⟨BT, 2, none⟩ = some (.int .i64 3) := blk_cell HT.out 2
        have cT3 : w7.cell? ⟨BT, 3, none⟩ = some (.int .i64 (1099511627776 + d)) := blk_cell HT.out 3
        have cT4 : w7.cell? ⟨BT, 4, none⟩ = some (.int .i64 (1099511627776 + d + 1)) := blk_cell HT.out 4
        have cT5 : w7.cell? ⟨BT, 5, none⟩ = some (.int .i64 5) := blk_cell HT.out 5
        have cT6 : w7.cell? ⟨BT, 6, none⟩ = some (.int .i64 0) := blk_cell HT.out 6
        go_wp2_with (first | fail)
        refine (put_at (js := []) (j := ⟨2, 0, 3, 1099511627776 + d, 1099511627776 + d + 1, 5, 0⟩) (E := 1200) (zs := []) (N := 0) _ (rowAt_nil 0 _ none 0) HANS.out.put.1 HANS.out.put.2 rfl).mono ?_; rintro e w8 ⟨u3, c3, rfl, ho, hg⟩
        clear cT0 cT1 cT2 cT3 cT4 cT5 cT6
        have HGn := hide (grownBy_trans HG.out hg)
        have HTn := hide (box_grown HT.out hg (by simp))
        clear HG HT
        have HG := HGn
        have HT := HTn
        clear HGn HTn
        clear hg
        clear ho
        have cT0 : w8.cell? ⟨BT, 0, none⟩ = some (.int .i64 2) := blk_cell HT.out 0
        have cT1 : w8.cell? ⟨BT, 1, none⟩ = some (.int .i64 0) := blk_cell HT.out 1
        have cT2 : w8.cell? ⟨BT, 2, none⟩ = some (.int .i64 3) := blk_cell HT.out 2
        have cT3 : w8.cell? ⟨BT, 3, none⟩ = some (.int .i64 (1099511627776 + d)) := blk_cell HT.out 3
        have cT4 : w8.cell? ⟨BT, 4, none⟩ = some (.int .i64 (1099511627776 + d + 1)) := blk_cell HT.out 4
        have cT5 : w8.cell? ⟨BT, 5, none⟩ = some (.int .i64 5) := blk_cell HT.out 5
        have cT6 : w8.cell? ⟨BT, 6, none⟩ = some (.int .i64 0) := blk_cell HT.out 6
        go_wp2_with (first | fail)
        refine (first_at (x := ⟨0, 0, 0, 0, 0, 0, 0⟩) (b := false) (w8.alloc (.cells #[.int .i64 2, .int .i64 0, .int .i64 3, .int .i64 (1099511627776 + d), .int .i64 (1099511627776 + d + 1), .int .i64 5, .int .i64 0] 24)) (blk_row (xs := [⟨2, 0, 3, 1099511627776 + d, 1099511627776 + d + 1, 5, 0⟩]) (n := 1) (heap_alloc_new w8 (.cells #[.int .i64 2, .int .i64 0, .int .i64 3, .int .i64 (1099511627776 + d), .int .i64 (1099511627776 + d + 1), .int .i64 5, .int .i64 0] 24)) rfl rfl (by simp)) HANS.out.first.1 HANS.out.first.2).mono ?_; rintro e w9 ⟨rfl, hg⟩
        clear cT0 cT1 cT2 cT3 cT4 cT5 cT6
        replace hg := grownBy_trans (World.grownBy_alloc _ (.cells #[.int .i64 2, .int .i64 0, .int .i64 3, .int .i64 (1099511627776 + d), .int .i64 (1099511627776 + d + 1), .int .i64 5, .int .i64 0] 24) none) hg
        have HGn := hide (grownBy_trans HG.out hg)
        have HTn := hide (box_grown HT.out hg (by simp))
        clear HG HT
        have HG := HGn
        have HT := HTn
        clear HGn HTn
        clear hg
        go_upto_region 39 with (first | fail)
        have hg := World.grownBy_alloc w9 (.cells #[.int .i64 0, .int .i64 0, .int .i64 0, .int .i64 0, .int .i64 0, .int .i64 0, .int .i64 0] 24) none
        have HXq := hide (heap_alloc_new w9 (.cells #[.int .i64 0, .int .i64 0, .int .i64 0, .int .i64 0, .int .i64 0, .int .i64 0, .int .i64 0] 24))
        have LX := hide HG.out.size
        have HGn := hide (grownBy_trans HG.out hg)
        have HTn := hide (box_grown HT.out hg (by simp))
        clear HG HT
        have HG := HGn
        have HT := HTn
        clear HGn HTn
        clear hg
        have HX := HXq
        clear HXq
        generalize hWx : w9.alloc (.cells #[.int .i64 0, .int .i64 0, .int .i64 0, .int .i64 0, .int .i64 0, .int .i64 0, .int .i64 0] 24) = w10 at *
        generalize hBx : w9.heap.size = BX at *
        clear hWx hBx
        have cT0 : w10.cell? ⟨BT, 0, none⟩ = some (.int .i64 2) := blk_cell HT.out 0
        have cT1 : w10.cell? ⟨BT, 1, none⟩ = some (.int .i64 0) := blk_cell HT.out 1
        have cT2 : w10.cell? ⟨BT, 2, none⟩ = some (.int .i64 3) := blk_cell HT.out 2
        have cT3 : w10.cell? ⟨BT, 3, none⟩ = some (.int .i64 (1099511627776 + d)) := blk_cell HT.out 3
        have cT4 : w10.cell? ⟨BT, 4, none⟩ = some (.int .i64 (1099511627776 + d + 1)) := blk_cell HT.out 4
        have cT5 : w10.cell? ⟨BT, 5, none⟩ = some (.int .i64 5) := blk_cell HT.out 5
        have cT6 : w10.cell? ⟨BT, 6, none⟩ = some (.int .i64 0) := blk_cell HT.out 6
        have cX0 : w10.cell? ⟨BX, 0, none⟩ = some (.int .i64 0) := blk_cell HX.out 0
        have cX1 : w10.cell? ⟨BX, 1, none⟩ = some (.int .i64 0) := blk_cell HX.out 1
        have cX2 : w10.cell? ⟨BX, 2, none⟩ = some (.int .i64 0) := blk_cell HX.out 2
        have cX3 : w10.cell? ⟨BX, 3, none⟩ = some (.int .i64 0) := blk_cell HX.out 3
        have cX4 : w10.cell? ⟨BX, 4, none⟩ = some (.int .i64 0) := blk_cell HX.out 4
        have cX5 : w10.cell? ⟨BX, 5, none⟩ = some (.int .i64 0) := blk_cell HX.out 5
        have cX6 : w10.cell? ⟨BX, 6, none⟩ = some (.int .i64 0) := blk_cell HX.out 6
        go_wp2_with (first | (go_at_call 16; refine (NUM.out _ _).mono ?_; rintro e wn ⟨rfl, rfl⟩) | fail)
        refine (may_at (b := false) (w10.alloc (.cells #[.int .i64 2, .int .i64 0, .int .i64 3, .int .i64 (1099511627776 + d), .int .i64 (1099511627776 + d + 1), .int .i64 5, .int .i64 0] 24)) (blk_row (xs := [⟨2, 0, 3, 1099511627776 + d, 1099511627776 + d + 1, 5, 0⟩]) (n := 1) (heap_alloc_new w10 (.cells #[.int .i64 2, .int .i64 0, .int .i64 3, .int .i64 (1099511627776 + d), .int .i64 (1099511627776 + d + 1), .int .i64 5, .int .i64 0] 24)) rfl rfl (by simp)) HANS.out.may).mono ?_; rintro e w11 ⟨rfl, hg⟩
        clear cT0 cT1 cT2 cT3 cT4 cT5 cT6 cX0 cX1 cX2 cX3 cX4 cX5 cX6
        replace hg := grownBy_trans (World.grownBy_alloc _ (.cells #[.int .i64 2, .int .i64 0, .int .i64 3, .int .i64 (1099511627776 + d), .int .i64 (1099511627776 + d + 1), .int .i64 5, .int .i64 0] 24) none) hg
        have HGn := hide (grownBy_trans HG.out hg)
        have HTn := hide (box_grown HT.out hg (by simp))
        have HXn := hide (box_grown HX.out hg (by simp))
        clear HG HT HX
        have HG := HGn
        have HT := HTn
        have HX := HXn
        clear HGn HTn HXn
        clear hg
        go_wp2_with (first | fail)
        go_ret
        exact ⟨rfl, HG.out⟩
      · skip
        clear OR
        have cT4 : w5.cell? ⟨BT, 4, none⟩ = some (.int .i64 13) := blk_cell HT.out 4
        have fT4 := blk_free HT.out 4
        go_upto_region 37 with (first | fail)
        clear cT4 fT4
        have hg := grownBy_set w5 BT 4 (.int .i64 (5 - d))
        have HGn := hide (grown_spoil HG.out LT.out hg)
        have HTn := hide (blk_set (j := 4) (u := .int .i64 (5 - d)) (cs' := #[.int .i64 2, .int .i64 0, .int .i64 3, .int .i64 4, .int .i64 (5 - d), .int .i64 5, .int .i64 0]) HT.out rfl)
        clear HG HT
        have HG := HGn
        have HT := HTn
        clear HGn HTn
        clear hg
        generalize hWx : w5.setCell ⟨BT, 4, none⟩ (.int .i64 (5 - d)) = w6 at *
        clear hWx
        have HANS := hide (fm6 hd1)
        have cT0 : w6.cell? ⟨BT, 0, none⟩ = some (.int .i64 2) := blk_cell HT.out 0
        have cT1 : w6.cell? ⟨BT, 1, none⟩ = some (.int .i64 0) := blk_cell HT.out 1
        have cT2 : w6.cell? ⟨BT, 2, none⟩ = some (.int .i64 3) := blk_cell HT.out 2
        have cT3 : w6.cell? ⟨BT, 3, none⟩ = some (.int .i64 4) := blk_cell HT.out 3
        have cT4 : w6.cell? ⟨BT, 4, none⟩ = some (.int .i64 (5 - d)) := blk_cell HT.out 4
        have cT5 : w6.cell? ⟨BT, 5, none⟩ = some (.int .i64 5) := blk_cell HT.out 5
        have cT6 : w6.cell? ⟨BT, 6, none⟩ = some (.int .i64 0) := blk_cell HT.out 6
        go_wp2_with (first | fail)
        refine (put_at (js := []) (j := ⟨2, 0, 3, 4, 5 - d, 5, 0⟩) (E := 1200) (zs := []) (N := 0) _ (rowAt_nil 0 _ none 0) HANS.out.put.1 HANS.out.put.2 rfl).mono ?_; rintro e w7 ⟨u3, c3, rfl, ho, hg⟩
        clear cT0 cT1 cT2 cT3 cT4 cT5 cT6
        have HGn := hide (grownBy_trans HG.out hg)
        have HTn := hide (box_grown HT.out hg (by simp))
        clear HG HT
        have HG := HGn
        have HT := HTn
        clear HGn HTn
        clear hg
        clear ho
        have cT0 : w7.cell? ⟨BT, 0, none⟩ = some (.int .i64 2) := blk_cell HT.out 0
        have cT1 : w7.cell? ⟨BT, 1, none⟩ = some (.int .i64 0) := blk_cell HT.out 1
        have cT2 : w7.cell? ⟨BT, 2, none⟩ = some (.int .i64 3) := blk_cell HT.out 2
        have cT3 : w7.cell? ⟨BT, 3, none⟩ = some (.int .i64 4) := blk_cell HT.out 3
        have cT4 : w7.cell? ⟨BT, 4, none⟩ = some (.int .i64 (5 - d)) := blk_cell HT.out 4
        have cT5 : w7.cell? ⟨BT, 5, none⟩ = some (.int .i64 5) := blk_cell HT.out 5
        have cT6 : w7.cell? ⟨BT, 6, none⟩ = some (.int .i64 0) := blk_cell HT.out 6
        go_wp2_with (first | fail)
        refine (first_at (x := ⟨0, 0, 0, 0, 0, 0, 0⟩) (b := false) (w7.alloc (.cells #[.int .i64 2, .int .i64 0, .int .i64 3, .int .i64 4, .int .i64 (5 - d), .int .i64 5, .int .i64 0] 24)) (blk_row (xs := [⟨2, 0, 3, 4, 5 - d, 5, 0⟩]) (n := 1) (heap_alloc_new w7 (.cells #[.int .i64 2, .int .i64 0, .int .i64 3, .int .i64 4, .int .i64 (5 - d), .int .i64 5, .int .i64 0] 24)) rfl rfl (by simp)) HANS.out.first.1 HANS.out.first.2).mono ?_; rintro e w8 ⟨rfl, hg⟩
        clear cT0 cT1 cT2 cT3 cT4 cT5 cT6
        replace hg := grownBy_trans (World.grownBy_alloc _ (.cells #[.int .i64 2, .int .i64 0, .int .i64 3, .int .i64 4, .int .i64 (5 - d), .int .i64 5, .int .i64 0] 24) none) hg
        have HGn := hide (grownBy_trans HG.out hg)
        have HTn := hide (box_grown HT.out hg (by simp))
        clear HG HT
        have HG := HGn
        have HT := HTn
        clear HGn HTn
        clear hg
        go_upto_region 39 with (first | fail)
        have hg := World.grownBy_alloc w8 (.cells #[.int .i64 0, .int .i64 0, .int .i64 0, .int .i64 0, .int .i64 0, .int .i64 0, .int .i64 0] 24) none
        have HXq := hide (heap_alloc_new w8 (.cells #[.int .i64 0, .int .i64 0, .int .i64 0, .int .i64 0, .int .i64 0, .int .i64 0, .int .i64 0] 24))
        have LX := hide HG.out.size
        have HGn := hide (grownBy_trans HG.out hg)
        have HTn := hide (box_grown HT.out hg (by simp))
        clear HG HT
        have HG := HGn
        have HT := HTn
        clear HGn HTn
        clear hg
        have HX := HXq
        clear HXq
        generalize hWx : w8.alloc (.cells #[.int .i64 0, .int .i64 0, .int .i64 0, .int .i64 0, .int .i64 0, .int .i64 0, .int .i64 0] 24) = w9 at *
        generalize hBx : w8.heap.size = BX at *
        clear hWx hBx
        have cT0 : w9.cell? ⟨BT, 0, none⟩ = some (.int .i64 2) := blk_cell HT.out 0
        have cT1 : w9.cell? ⟨BT, 1, none⟩ = some (.int .i64 0) := blk_cell HT.out 1
        have cT2 : w9.cell? ⟨BT, 2, none⟩ = some (.int .i64 3) := blk_cell HT.out 2
        have cT3 : w9.cell? ⟨BT, 3, none⟩ = some (.int .i64 4) := blk_cell HT.out 3
        have cT4 : w9.cell? ⟨BT, 4, none⟩ = some (.int .i64 (5 - d)) := blk_cell HT.out 4
        have cT5 : w9.cell? ⟨BT, 5, none⟩ = some (.int .i64 5) := blk_cell HT.out 5
        have cT6 : w9.cell? ⟨BT, 6, none⟩ = some (.int .i64 0) := blk_cell HT.out 6
        have cX0 : w9.cell? ⟨BX, 0, none⟩ = some (.int .i64 0) := blk_cell HX.out 0
        have cX1 : w9.cell? ⟨BX, 1, none⟩ = some (.int .i64 0) := blk_cell HX.out 1
        have cX2 : w9.cell? ⟨BX, 2, none⟩ = some (.int .i64 0) := blk_cell HX.out 2
        have cX3 : w9.cell? ⟨BX, 3, none⟩ = some (.int .i64 0) := blk_cell HX.out 3
        have cX4 : w9.cell? ⟨BX, 4, none⟩ = some (.int .i64 0) := blk_cell HX.out 4
        have cX5 : w9.cell? ⟨BX, 5, none⟩ = some (.int .i64 0) := blk_cell HX.out 5
        have cX6 : w9.cell? ⟨BX, 6, none⟩ = some (.int .i64 0) := blk_cell HX.out 6
        go_wp2_with (first | (go_at_call 16; refine (NUM.out _ _).mono ?_; rintro e wn ⟨rfl, rfl⟩) | fail)
        refine (may_at (b := false) (w9.alloc (.cells #[.int .i64 2, .int .i64 0, .int .i64 3, .int .i64 4, .int .i64 (5 - d), .int .i64 5, .int .i64 0] 24)) (blk_row (xs := [⟨2, 0, 3, 4, 5 - d, 5, 0⟩]) (n := 1) (heap_alloc_new w9 (.cells #[.int .i64 2, .int .i64 0, .int .i64 3, .int .i64 4, .int .i64 (5 - d), .int .i64 5, .int .i64 0] 24)) rfl rfl (by simp)) HANS.out.may).mono ?_; rintro e w10 ⟨rfl, hg⟩
        clear cT0 cT1 cT2 cT3 cT4 cT5 cT6 cX0 cX1 cX2 cX3 cX4 cX5 cX6
        replace hg := grownBy_trans (World.grownBy_alloc _ (.cells #[.int .i64 2, .int .i64 0, .int .i64 3, .int .i64 4, .int .i64 (5 - d), .int .i64 5, .int .i64 0] 24) none) hg
        have HGn := hide (grownBy_trans HG.out hg)
        have HTn := hide (box_grown HT.out hg (by simp))
        have HXn := hide (box_grown HX.out hg (by simp))
        clear HG HT HX
        have HG := HGn
        have HT := HTn
        have HX := HXn
        clear HGn HTn HXn
        clear hg
        go_wp2_with (first | fail)
        go_ret
        exact ⟨rfl, HG.out⟩
      · skip
        clear OR
        have cT5 : w5.cell? ⟨BT, 5, none⟩ = some (.int .i64 5) := blk_cell HT.out 5
        have fT5 := blk_free HT.out 5
        go_upto_region 37 with (first | fail)
        clear cT5 fT5
        have hg := grownBy_set w5 BT 5 (.int .i64 (1 - d))
        have HGn := hide (grown_spoil HG.out LT.out hg)
        have HTn := hide (blk_set (j := 5) (u := .int .i64 (1 - d)) (cs' := #[.int .i64 2, .int .i64 0, .int .i64 3, .int .i64 4, .int .i64 13, .int .i64 (1 - d), .int .i64 0]) HT.out rfl)
        clear HG HT
        have HG := HGn
        have HT := HTn
        clear HGn HTn
        clear hg
        generalize hWx : w5.setCell ⟨BT, 5, none⟩ (.int .i64 (1 - d)) = w6 at *
        clear hWx
        have HANS := hide (fm7 hd1)
        have cT0 : w6.cell? ⟨BT, 0, none⟩ = some (.int .i64 2) := blk_cell HT.out 0
        have cT1 : w6.cell? ⟨BT, 1, none⟩ = some (.int .i64 0) := blk_cell HT.out 1
        have cT2 : w6.cell? ⟨BT, 2, none⟩ = some (.int .i64 3) := blk_cell HT.out 2
        have cT3 : w6.cell? ⟨BT, 3, none⟩ = some (.int .i64 4) := blk_cell HT.out 3
        have cT4 : w6.cell? ⟨BT, 4, none⟩ = some (.int .i64 13) := blk_cell HT.out 4
        have cT5 : w6.cell? ⟨BT, 5, none⟩ = some (.int .i64 (1 - d)) := blk_cell HT.out 5
        have cT6 : w6.cell? ⟨BT, 6, none⟩ = some (.int .i64 0) := blk_cell HT.out 6
        go_wp2_with (first | fail)
        refine (put_at (js := []) (j := ⟨2, 0, 3, 4, 13, 1 - d, 0⟩) (E := 1200) (zs := []) (N := 0) _ (rowAt_nil 0 _ none 0) HANS.out.put.1 HANS.out.put.2 rfl).mono ?_; rintro e w7 ⟨u3, c3, rfl, ho, hg⟩
        clear cT0 cT1 cT2 cT3 cT4 cT5 cT6
        have HGn := hide (grownBy_trans HG.out hg)
        have HTn := hide (box_grown HT.out hg (by simp))
        clear HG HT
        have HG := HGn
        have HT := HTn
        clear HGn HTn
        clear hg
        clear ho
        have cT0 : w7.cell? ⟨BT, 0, none⟩ = some (.int .i64 2) := blk_cell HT.out 0
        have cT1 : w7.cell? ⟨BT, 1, none⟩ = some (.int .i64 0) := blk_cell HT.out 1
        have cT2 : w7.cell? ⟨BT, 2, none⟩ = some (.int .i64 3) := blk_cell HT.out 2
        have cT3 : w7.cell? ⟨BT, 3, none⟩ = some (.int .i64 4) := blk_cell HT.out 3
        have cT4 : w7.cell? ⟨BT, 4, none⟩ = some (.int .i64 13) := blk_cell HT.out 4
        have cT5 : w7.cell? ⟨BT, 5, none⟩ = some (.int .i64 (1 - d)) := blk_cell HT.out 5
        have cT6 : w7.cell? ⟨BT, 6, none⟩ = some (.int .i64 0) := blk_cell HT.out 6
        go_wp2_with (first | fail)
        refine (first_at (x := ⟨0, 0, 0, 0, 0, 0, 0⟩) (b := false) (w7.alloc (.cells #[.int .i64 2, .int .i64 0, .int .i64 3, .int .i64 4, .int .i64 13, .int .i64 (1 - d), .int .i64 0] 24)) (blk_row (xs := [⟨2, 0, 3, 4, 13, 1 - d, 0⟩]) (n := 1) (heap_alloc_new w7 (.cells #[.int .i64 2, .int .i64 0, .int .i64 3, .int .i64 4, .int .i64 13, .int .i64 (1 - d), .int .i64 0] 24)) rfl rfl (by simp)) HANS.out.first.1 HANS.out.first.2).mono ?_; rintro e w8 ⟨rfl, hg⟩
        clear cT0 cT1 cT2 cT3 cT4 cT5 cT6
        replace hg := grownBy_trans (World.grownBy_alloc _ (.cells #[.int .i64 2, .int .i64 0, .int .i64 3, .int .i64 4, .int .i64 13, .int .i64 (1 - d), .int .i64 0] 24) none) hg
        have HGn := hide (grownBy_trans HG.out hg)
        have HTn := hide (box_grown HT.out hg (by simp))
        clear HG HT
        have HG := HGn
        have HT := HTn
        clear HGn HTn
        clear hg
        go_upto_region 39 with (first | fail)
        have hg := World.grownBy_alloc w8 (.cells #[.int .i64 0, .int .i64 0, .int .i64 0, .int .i64 0, .int .i64 0, .int .i64 0, .int .i64 0] 24) none
        have HXq := hide (heap_alloc_new w8 (.cells #[.int .i64 0, .int .i64 0, .int .i64 0, .int .i64 0, .int .i64 0, .int .i64 0, .int .i64 0] 24))
        have LX := hide HG.out.size
        have HGn := hide (grownBy_trans HG.out hg)
        have HTn := hide (box_grown HT.out hg (by simp))
        clear HG HT
        have HG := HGn
        have HT := HTn
        clear HGn HTn
        clear hg
        have HX := HXq
        clear HXq
        generalize hWx : w8.alloc (.cells #[.int .i64 0, .int .i64 0, .int .i64 0, .int .i64 0, .int .i64 0, .int .i64 0, .int .i64 0] 24) = w9 at *
        generalize hBx : w8.heap.size = BX at *
        clear hWx hBx
        have cT0 : w9.cell? ⟨BT, 0, none⟩ = some (.int .i64 2) := blk_cell HT.out 0
        have cT1 : w9.cell? ⟨BT, 1, none⟩ = some (.int .i64 0) := blk_cell HT.out 1
        have cT2 : w9.cell? ⟨BT, 2, none⟩ = some (.int .i64 3) := blk_cell HT.out 2
        have cT3 : w9.cell? ⟨BT, 3, none⟩ = some (.int .i64 4) := blk_cell HT.out 3
        have cT4 : w9.cell? ⟨BT, 4, none⟩ = some (.int .i64 13) := blk_cell HT.out 4
        have cT5 : w9.cell? ⟨BT, 5, none⟩ = some (.int .i64 (1 - d)) := blk_cell HT.out 5
        have cT6 : w9.cell? ⟨BT, 6, none⟩ = some (.int .i64 0) := blk_cell HT.out 6
        have cX0 : w9.cell? ⟨BX, 0, none⟩ = some (.int .i64 0) := blk_cell HX.out 0
        have cX1 : w9.cell? ⟨BX, 1, none⟩ = some (.int .i64 0) := blk_cell HX.out 1
        have cX2 : w9.cell? ⟨BX, 2, none⟩ = some (.int .i64 0) := blk_cell HX.out 2
        have cX3 : w9.cell? ⟨BX, 3, none⟩ = some (.int .i64 0) := blk_cell HX.out 3
        have cX4 : w9.cell? ⟨BX, 4, none⟩ = some (.int .i64 0) := blk_cell HX.out 4
        have cX5 : w9.cell? ⟨BX, 5, none⟩ = some (.int .i64 0) := blk_cell HX.out 5
        have cX6 : w9.cell? ⟨BX, 6, none⟩ = some (.int .i64 0) := blk_cell HX.out 6
        go_wp2_with (first | (go_at_call 16; refine (NUM.out _ _).mono ?_; rintro e wn ⟨rfl, rfl⟩) | fail)
        refine (may_at (b := false) (w9.alloc (.cells #[.int .i64 2, .int .i64 0, .int .i64 3, .int .i64 4, .int .i64 13, .int .i64 (1 - d), .int .i64 0] 24)) (blk_row (xs := [⟨2, 0, 3, 4, 13, 1 - d, 0⟩]) (n := 1) (heap_alloc_new w9 (.cells #[.int .i64 2, .int .i64 0, .int .i64 3, .int .i64 4, .int .i64 13, .int .i64 (1 - d), .int .i64 0] 24)) rfl rfl (by simp)) HANS.out.may).mono ?_; rintro e w10 ⟨rfl, hg⟩
        clear cT0 cT1 cT2 cT3 cT4 cT5 cT6 cX0 cX1 cX2 cX3 cX4 cX5 cX6
        replace hg := grownBy_trans (World.grownBy_alloc _ (.cells #[.int .i64 2, .int .i64 0, .int .i64 3, .int .i64 4, .int .i64 13, .int .i64 (1 - d), .int .i64 0] 24) none) hg
        have HGn := hide (grownBy_trans HG.out hg)
        have HTn := hide (box_grown HT.out hg (by simp))
        have HXn := hide (box_grown HX.out hg (by simp))
        clear HG HT HX
        have HG := HGn
        have HT := HTn
        have HX := HXn
        clear HGn HTn HXn
        clear hg
        go_wp2_with (first | fail)
        go_ret
        exact ⟨rfl, HG.out⟩
      · skip
        clear OR
        have cT5 : w5.cell? ⟨BT, 5, none⟩ = some (.int .i64 5) := blk_cell HT.out 5
        have fT5 := blk_free HT.out 5
        go_upto_region 37 with (first | fail)
        clear cT5 fT5
        have hg := grownBy_set w5 BT 5 (.int .i64 (65535 + d))
        have HGn := hide (grown_spoil HG.out LT.out hg)
        have HTn := hide (blk_set (j := 5) (u := .int .i64 (65535 + d)) (cs' := #[.int .i64 2, .int .i64 0, .int .i64 3, .int .i64 4, .int .i64 13, .int .i64 (65535 + d), .int .i64 0]) HT.out rfl)
        clear HG HT
        have HG := HGn
        have HT := HTn
        clear HGn HTn
        clear hg
        generalize hWx : w5.setCell ⟨BT, 5, none⟩ (.int .i64 (65535 + d)) = w6 at *
        clear hWx
        have HANS := hide (fm8 hd1)
        have cT0 : w6.cell? ⟨BT, 0, none⟩ = some (.int .i64 2) := blk_cell HT.out 0
        have cT1 : w6.cell? ⟨BT, 1, none⟩ = some (.int .i64 0) := blk_cell HT.out 1
        have cT2 : w6.cell? ⟨BT, 2, none⟩ = some (.int .i64 3) := blk_cell HT.out 2
        have cT3 : w6.cell? ⟨BT, 3, none⟩ = some (.int .i64 4) := blk_cell HT.out 3
        have cT4 : w6.cell? ⟨BT, 4, none⟩ = some (.int .i64 13) := blk_cell HT.out 4
        have cT5 : w6.cell? ⟨BT, 5, none⟩ = some (.int .i64 (65535 + d)) := blk_cell HT.out 5
        have cT6 : w6.cell? ⟨BT, 6, none⟩ = some (.int .i64 0) := blk_cell HT.out 6
        go_wp2_with (first | fail)
        refine (put_at (js := []) (j := ⟨2, 0, 3, 4, 13, 65535 + d, 0⟩) (E := 1200) (zs := []) (N := 0) _ (rowAt_nil 0 _ none 0) HANS.out.put.1 HANS.out.put.2 rfl).mono ?_; rintro e w7 ⟨u3, c3, rfl, ho, hg⟩
        clear cT0 cT1 cT2 cT3 cT4 cT5 cT6
        have HGn := hide (grownBy_trans HG.out hg)
        have HTn := hide (box_grown HT.out hg (by simp))
        clear HG HT
        have HG := HGn
        have HT := HTn
        clear HGn HTn
        clear hg
        clear ho
        have cT0 : w7.cell? ⟨BT, 0, none⟩ = some (.int .i64 2) := blk_cell HT.out 0
        have cT1 : w7.cell? ⟨BT, 1, none⟩ = some (.int .i64 0) := blk_cell HT.out 1
        have cT2 : w7.cell? ⟨BT, 2, none⟩ = some (.int .i64 3) := blk_cell HT.out 2
        have cT3 : w7.cell? ⟨BT, 3, none⟩ = some (.int .i64 4) := blk_cell HT.out 3
        have cT4 : w7.cell? ⟨BT, 4, none⟩ = some (.int .i64 13) := blk_cell HT.out 4
        have cT5 : w7.cell? ⟨BT, 5, none⟩ = some (.int .i64 (65535 + d)) := blk_cell HT.out 5
        have cT6 : w7.cell? ⟨BT, 6, none⟩ = some (.int .i64 0) := blk_cell HT.out 6
        go_wp2_with (first | fail)
        refine (first_at (x := ⟨0, 0, 0, 0, 0, 0, 0⟩) (b := false) (w7.alloc (.cells #[.int .i64 2, .int .i64 0, .int .i64 3, .int .i64 4, .int .i64 13, .int .i64 (65535 + d), .int .i64 0] 24)) (blk_row (xs := [⟨2, 0, 3, 4, 13, 65535 + d, 0⟩]) (n := 1) (heap_alloc_new w7 (.cells #[.int .i64 2, .int .i64 0, .int .i64 3, .int .i64 4, .int .i64 13, .int .i64 (65535 + d), .int .i64 0] 24)) rfl rfl (by simp)) HANS.out.first.1 HANS.out.first.2).mono ?_; rintro e w8 ⟨rfl, hg⟩
        clear cT0 cT1 cT2 cT3 cT4 cT5 cT6
        replace hg := grownBy_trans (World.grownBy_alloc _ (.cells #[.int .i64 2, .int .i64 0, .int .i64 3, .int .i64 4, .int .i64 13, .int .i64 (65535 + d), .int .i64 0] 24) none) hg
        have HGn := hide (grownBy_trans HG.out hg)
        have HTn := hide (box_grown HT.out hg (by simp))
        clear HG HT
        have HG := HGn
        have HT := HTn
        clear HGn HTn
        clear hg
        go_upto_region 39 with (first | fail)
        have hg := World.grownBy_alloc w8 (.cells #[.int .i64 0, .int .i64 0, .int .i64 0, .int .i64 0, .int .i64 0, .int .i64 0, .int .i64 0] 24) none
        have HXq := hide (heap_alloc_new w8 (.cells #[.int .i64 0, .int .i64 0, .int .i64 0, .int .i64 0, .int .i64 0, .int .i64 0, .int .i64 0] 24))
        have LX := hide HG.out.size
        have HGn := hide (grownBy_trans HG.out hg)
        have HTn := hide (box_grown HT.out hg (by simp))
        clear HG HT
        have HG := HGn
        have HT := HTn
        clear HGn HTn
        clear hg
        have HX := HXq
        clear HXq
        generalize hWx : w8.alloc (.cells #[.int .i64 0, .int .i64 0, .int .i64 0, .int .i64 0, .int .i64 0, .int .i64 0, .int .i64 0] 24) = w9 at *
        generalize hBx : w8.heap.size = BX at *
        clear hWx hBx
        have cT0 : w9.cell? ⟨BT, 0, none⟩ = some (.int .i64 2) := blk_cell HT.out 0
        have cT1 : w9.cell? ⟨BT, 1, none⟩ = some (.int .i64 0) := blk_cell HT.out 1
        have cT2 : w9.cell? ⟨BT, 2, none⟩ = some (.int .i64 3) := blk_cell HT.out 2
        have cT3 : w9.cell? ⟨BT, 3, none⟩ = some (.int .i64 4) := blk_cell HT.out 3
        have cT4 : w9.cell? ⟨BT, 4, none⟩ = some (.int .i64 13) := blk_cell HT.out 4
        have cT5 : w9.cell? ⟨BT, 5, none⟩ = some (.int .i64 (65535 + d)) := blk_cell HT.out 5
        have cT6 : w9.cell? ⟨BT, 6, none⟩ = some (.int .i64 0) := blk_cell HT.out 6
        have cX0 : w9.cell? ⟨BX, 0, none⟩ = some (.int .i64 0) := blk_cell HX.out 0
        have cX1 : w9.cell? ⟨BX, 1, none⟩ = some (.int .i64 0) := blk_cell HX.out 1
        have cX2 : w9.cell? ⟨BX, 2, none⟩ = some (.int .i64 0) := blk_cell HX.out 2
        have cX3 : w9.cell? ⟨BX, 3, none⟩ = some (.int .i64 0) := blk_cell HX.out 3
        have cX4 : w9.cell? ⟨BX, 4, none⟩ = some (.int .i64 0) := blk_cell HX.out 4
        have cX5 : w9.cell? ⟨BX, 5, none⟩ = some (.int .i64 0) := blk_cell HX.out 5
        have cX6 : w9.cell? ⟨BX, 6, none⟩ = some (.int .i64 0) := blk_cell HX.out 6
        go_wp2_with (first | (go_at_call 16; refine (NUM.out _ _).mono ?_; rintro e wn ⟨rfl, rfl⟩) | fail)
        refine (may_at (b := false) (w9.alloc (.cells #[.int .i64 2, .int .i64 0, .int .i64 3, .int .i64 4, .int .i64 13, .int .i64 (65535 + d), .int .i64 0] 24)) (blk_row (xs := [⟨2, 0, 3, 4, 13, 65535 + d, 0⟩]) (n := 1) (heap_alloc_new w9 (.cells #[.int .i64 2, .int .i64 0, .int .i64 3, .int .i64 4, .int .i64 13, .int .i64 (65535 + d), .int .i64 0] 24)) rfl rfl (by simp)) HANS.out.may).mono ?_; rintro e w10 ⟨rfl, hg⟩
        clear cT0 cT1 cT2 cT3 cT4 cT5 cT6 cX0 cX1 cX2 cX3 cX4 cX5 cX6
        replace hg := grownBy_trans (World.grownBy_alloc _ (.cells #[.int .i64 2, .int .i64 0, .int .i64 3, .int .i64 4, .int .i64 13, .int .i64 (65535 + d), .int .i64 0] 24) none) hg
        have HGn := hide (grownBy_trans HG.out hg)
        have HTn := hide (box_grown HT.out hg (by simp))
        have HXn := hide (box_grown HX.out hg (by simp))
        clear HG HT HX
        have HG := HGn
        have HT := HTn
        have HX := HXn
        clear HGn HTn HXn
        clear hg
        go_wp2_with (first | fail)
        go_ret
        exact ⟨rfl, HG.out⟩
      · skip
        clear OR
        have cT6 : w5.cell? ⟨BT, 6, none⟩ = some (.int .i64 0) := blk_cell HT.out 6
        have fT6 := blk_free HT.out 6
        go_upto_region 37 with (first | fail)
        clear cT6 fT6
        have hg := grownBy_set w5 BT 6 (.int .i64 (-d))
        have HGn := hide (grown_spoil HG.out LT.out hg)
        have HTn := hide (blk_set (j := 6) (u := .int .i64 (-d)) (cs' := #[.int .i64 2, .int .i64 0, .int .i64 3, .int .i64 4, .int .i64 13, .int .i64 5, .int .i64 (-d)]) HT.out rfl)
        clear HG HT
        have HG := HGn
        have HT := HTn
        clear HGn HTn
        clear hg
        generalize hWx : w5.setCell ⟨BT, 6, none⟩ (.int .i64 (-d)) = w6 at *
        clear hWx
        have HANS := hide (fm9 hd1)
        have cT0 : w6.cell? ⟨BT, 0, none⟩ = some (.int .i64 2) := blk_cell HT.out 0
        have cT1 : w6.cell? ⟨BT, 1, none⟩ = some (.int .i64 0) := blk_cell HT.out 1
        have cT2 : w6.cell? ⟨BT, 2, none⟩ = some (.int .i64 3) := blk_cell HT.out 2
        have cT3 : w6.cell? ⟨BT, 3, none⟩ = some (.int .i64 4) := blk_cell HT.out 3
        have cT4 : w6.cell? ⟨BT, 4, none⟩ = some (.int .i64 13) := blk_cell HT.out 4
        have cT5 : w6.cell? ⟨BT, 5, none⟩ = some (.int .i64 5) := blk_cell HT.out 5
        have cT6 : w6.cell? ⟨BT, 6, none⟩ = some (.int .i64 (-d)) := blk_cell HT.out 6
        go_wp2_with (first | fail)
        refine (put_at (js := []) (j := ⟨2, 0, 3, 4, 13, 5, -d⟩) (E := 1200) (zs := []) (N := 0) _ (rowAt_nil 0 _ none 0) HANS.out.put.1 HANS.out.put.2 rfl).mono ?_; rintro e w7 ⟨u3, c3, rfl, ho, hg⟩
        clear cT0 cT1 cT2 cT3 cT4 cT5 cT6
        have HGn := hide (grownBy_trans HG.out hg)
        have HTn := hide (box_grown HT.out hg (by simp))
        clear HG HT
        have HG := HGn
        have HT := HTn
        clear HGn HTn
        clear hg
        clear ho
        have cT0 : w7.cell? ⟨BT, 0, none⟩ = some (.int .i64 2) := blk_cell HT.out 0
        have cT1 : w7.cell? ⟨BT, 1, none⟩ = some (.int .i64 0) := blk_cell HT.out 1
        have cT2 : w7.cell? ⟨BT, 2, none⟩ = some (.int .i64 3) := blk_cell HT.out 2
        have cT3 : w7.cell? ⟨BT, 3, none⟩ = some (.int .i64 4) := blk_cell HT.out 3
        have cT4 : w7.cell? ⟨BT, 4, none⟩ = some (.int .i64 13) := blk_cell HT.out 4
        have cT5 : w7.cell? ⟨BT, 5, none⟩ = some (.int .i64 5) := blk_cell HT.out 5
        have cT6 : w7.cell? ⟨BT, 6, none⟩ = some (.int .i64 (-d)) := blk_cell HT.out 6
        go_wp2_with (first | fail)
        refine (first_at (x := ⟨0, 0, 0, 0, 0, 0, 0⟩) (b := false) (w7.alloc (.cells #[.int .i64 2, .int .i64 0, .int .i64 3, .int .i64 4, .int .i64 13, .int .i64 5, .int .i64 (-d)] 24)) (blk_row (xs := [⟨2, 0, 3, 4, 13, 5, -d⟩]) (n := 1) (heap_alloc_new w7 (.cells #[.int .i64 2, .int .i64 0, .int .i64 3, .int .i64 4, .int .i64 13, .int .i64 5, .int .i64 (-d)] 24)) rfl rfl (by simp)) HANS.out.first.1 HANS.out.first.2).mono ?_; rintro e w8 ⟨rfl, hg⟩
        clear cT0 cT1 cT2 cT3 cT4 cT5 cT6
        replace hg := grownBy_trans (World.grownBy_alloc _ (.cells #[.int .i64 2, .int .i64 0, .int .i64 3, .int .i64 4, .int .i64 13, .int .i64 5, .int .i64 (-d)] 24) none) hg
        have HGn := hide (grownBy_trans HG.out hg)
        have HTn := hide (box_grown HT.out hg (by simp))
        clear HG HT
        have HG := HGn
        have HT := HTn
        clear HGn HTn
        clear hg
        go_upto_region 39 with (first | fail)
        have hg := World.grownBy_alloc w8 (.cells #[.int .i64 0, .int .i64 0, .int .i64 0, .int .i64 0, .int .i64 0, .int .i64 0, .int .i64 0] 24) none
        have HXq := hide (heap_alloc_new w8 (.cells #[.int .i64 0, .int .i64 0, .int .i64 0, .int .i64 0, .int .i64 0, .int .i64 0, .int .i64 0] 24))
        have LX := hide HG.out.size
        have HGn := hide (grownBy_trans HG.out hg)
        have HTn := hide (box_grown HT.out hg (by simp))
        clear HG HT
        have HG := HGn
        have HT := HTn
        clear HGn HTn
        clear hg
        have HX := HXq
        clear HXq
        generalize hWx : w8.alloc (.cells #[.int .i64 0, .int .i64 0, .int .i64 0, .int .i64 0, .int .i64 0, .int .i64 0, .int .i64 0] 24) = w9 at *
        generalize hBx : w8.heap.size = BX at *
        clear hWx hBx
        have cT0 : w9.cell? ⟨BT, 0, none⟩ = some (.int .i64 2) := blk_cell HT.out 0
        have cT1 : w9.cell? ⟨BT, 1, none⟩ = some (.int .i64 0) := blk_cell HT.out 1
        have cT2 : w9.cell? ⟨BT, 2, none⟩ = some (.int .i64 3) := blk_cell HT.out 2
        have cT3 : w9.cell? ⟨BT, 3, none⟩ = some (.int .i64 4) := blk_cell HT.out 3
        have cT4 : w9.cell? ⟨BT, 4, none⟩ = some (.int .i64 13) := blk_cell HT.out 4
        have cT5 : w9.cell? ⟨BT, 5, none⟩ = some (.int .i64 5) := blk_cell HT.out 5
        have cT6 : w9.cell? ⟨BT, 6, none⟩ = some (.int .i64 (-d)) := blk_cell HT.out 6
        have cX0 : w9.cell? ⟨BX, 0, none⟩ = some (.int .i64 0) := blk_cell HX.out 0
        have cX1 : w9.cell? ⟨BX, 1, none⟩ = some (.int .i64 0) := blk_cell HX.out 1
        have cX2 : w9.cell? ⟨BX, 2, none⟩ = some (.int .i64 0) := blk_cell HX.out 2
        have cX3 : w9.cell? ⟨BX, 3, none⟩ = some (.int .i64 0) := blk_cell HX.out 3
        have cX4 : w9.cell? ⟨BX, 4, none⟩ = some (.int .i64 0) := blk_cell HX.out 4
        have cX5 : w9.cell? ⟨BX, 5, none⟩ = some (.int .i64 0) := blk_cell HX.out 5
        have cX6 : w9.cell? ⟨BX, 6, none⟩ = some (.int .i64 0) := blk_cell HX.out 6
        go_wp2_with (first | (go_at_call 16; refine (NUM.out _ _).mono ?_; rintro e wn ⟨rfl, rfl⟩) | fail)
        refine (may_at (b := false) (w9.alloc (.cells #[.int .i64 2, .int .i64 0, .int .i64 3, .int .i64 4, .int .i64 13, .int .i64 5, .int .i64 (-d)] 24)) (blk_row (xs := [⟨2, 0, 3, 4, 13, 5, -d⟩]) (n := 1) (heap_alloc_new w9 (.cells #[.int .i64 2, .int .i64 0, .int .i64 3, .int .i64 4, .int .i64 13, .int .i64 5, .int .i64 (-d)] 24)) rfl rfl (by simp)) HANS.out.may).mono ?_; rintro e w10 ⟨rfl, hg⟩
        clear cT0 cT1 cT2 cT3 cT4 cT5 cT6 cX0 cX1 cX2 cX3 cX4 cX5 cX6
        replace hg := grownBy_trans (World.grownBy_alloc _ (.cells #[.int .i64 2, .int .i64 0, .int .i64 3, .int .i64 4, .int .i64 13, .int .i64 5, .int .i64 (-d)] 24) none) hg
        have HGn := hide (grownBy_trans HG.out hg)
        have HTn := hide (box_grown HT.out hg (by simp))
        have HXn := hide (box_grown HX.out hg (by simp))
        clear HG HT HX
        have HG := HGn
        have HT := HTn
        have HX := HXn
        clear HGn HTn HXn
        clear hg
        go_wp2_with (first | fail)
        go_ret
        exact ⟨rfl, HG.out⟩
      · skip
        clear OR
        have cT6 : w5.cell? ⟨BT, 6, none⟩ = some (.int .i64 0) := blk_cell HT.out 6
        have fT6 := blk_free HT.out 6
        go_upto_region 37 with (first | fail)
        clear cT6 fT6
        have hg := grownBy_set w5 BT 6 (.int .i64 (4 + d))
        have HGn := hide (grown_spoil HG.out LT.out hg)
        have HTn := hide (blk_set (j := 6) (u := .int .i64 (4 + d)) (cs' := #[.int .i64 2, .int .i64 0, .int .i64 3, .int .i64 4, .int .i64 13, .int .i64 5, .int .i64 (4 + d)]) HT.out rfl)
        clear HG HT
        have HG := HGn
        have HT := HTn
        clear HGn HTn
        clear hg
        generalize hWx : w5.setCell ⟨BT, 6, none⟩ (.int .i64 (4 + d)) = w6 at *
        clear hWx
        have HANS := hide (fm10 hd1)
        have cT0 : w6.cell? ⟨BT, 0, none⟩ = some (.int .i64 2) := blk_cell HT.out 0
        have cT1 : w6.cell? ⟨BT, 1, none⟩ = some (.int .i64 0) := blk_cell HT.out 1
        have cT2 : w6.cell? ⟨BT, 2, none⟩ = some (.int .i64 3) := blk_cell HT.out 2
        have cT3 : w6.cell? ⟨BT, 3, none⟩ = some (.int .i64 4) := blk_cell HT.out 3
        have cT4 : w6.cell? ⟨BT, 4, none⟩ = some (.int .i64 13) := blk_cell HT.out 4
        have cT5 : w6.cell? ⟨BT, 5, none⟩ = some (.int .i64 5) := blk_cell HT.out 5
        have cT6 : w6.cell? ⟨BT, 6, none⟩ = some (.int .i64 (4 + d)) := blk_cell HT.out 6
        go_wp2_with (first | fail)
        refine (put_at (js := []) (j := ⟨2, 0, 3, 4, 13, 5, 4 + d⟩) (E := 1200) (zs := []) (N := 0) _ (rowAt_nil 0 _ none 0) HANS.out.put.1 HANS.out.put.2 rfl).mono ?_; rintro e w7 ⟨u3, c3, rfl, ho, hg⟩
        clear cT0 cT1 cT2 cT3 cT4 cT5 cT6
        have HGn := hide (grownBy_trans HG.out hg)
        have HTn := hide (box_grown HT.out hg (by simp))
        clear HG HT
        have HG := HGn
        have HT := HTn
        clear HGn HTn
        clear hg
        clear ho
        have cT0 : w7.cell? ⟨BT, 0, none⟩ = some (.int .i64 2) := blk_cell HT.out 0
        have cT1 : w7.cell? ⟨BT, 1, none⟩ = some (.int .i64 0) := blk_cell HT.out 1
        have cT2 : w7.cell? ⟨BT, 2, none⟩ = some (.int .i64 3) := blk_cell HT.out 2
        have cT3 : w7.cell? ⟨BT, 3, none⟩ = some (.int .i64 4) := blk_cell HT.out 3
        have cT4 : w7.cell? ⟨BT, 4, none⟩ = some (.int .i64 13) := blk_cell HT.out 4
        have cT5 : w7.cell? ⟨BT, 5, none⟩ = some (.int .i64 5) := blk_cell HT.out 5
        have cT6 : w7.cell? ⟨BT, 6, none⟩ = some (.int .i64 (4 + d)) := blk_cell HT.out 6
        go_wp2_with (first | fail)
        refine (first_at (x := ⟨0, 0, 0, 0, 0, 0, 0⟩) (b := false) (w7.alloc (.cells #[.int .i64 2, .int .i64 0, .int .i64 3, .int .i64 4, .int .i64 13, .int .i64 5, .int .i64 (4 + d)] 24)) (blk_row (xs := [⟨2, 0, 3, 4, 13, 5, 4 + d⟩]) (n := 1) (heap_alloc_new w7 (.cells #[.int .i64 2, .int .i64 0, .int .i64 3, .int .i64 4, .int .i64 13, .int .i64 5, .int .i64 (4 + d)] 24)) rfl rfl (by simp)) HANS.out.first.1 HANS.out.first.2).mono ?_; rintro e w8 ⟨rfl, hg⟩
        clear cT0 cT1 cT2 cT3 cT4 cT5 cT6
        replace hg := grownBy_trans (World.grownBy_alloc _ (.cells #[.int .i64 2, .int .i64 0, .int .i64 3, .int .i64 4, .int .i64 13, .int .i64 5, .int .i64 (4 + d)] 24) none) hg
        have HGn := hide (grownBy_trans HG.out hg)
        have HTn := hide (box_grown HT.out hg (by simp))
        clear HG HT
        have HG := HGn
        have HT := HTn
        clear HGn HTn
        clear hg
        go_upto_region 39 with (first | fail)
        have hg := World.grownBy_alloc w8 (.cells #[.int .i64 0, .int .i64 0, .int .i64 0, .int .i64 0, .int .i64 0, .int .i64 0, .int .i64 0] 24) none
        have HXq := hide (heap_alloc_new w8 (.cells #[.int .i64 0, .int .i64 0, .int .i64 0, .int .i64 0, .int .i64 0, .int .i64 0, .int .i64 0] 24))
        have LX := hide HG.out.size
        have HGn := hide (grownBy_trans HG.out hg)
        have HTn := hide (box_grown HT.out hg (by simp))
        clear HG HT
        have HG := HGn
        have HT := HTn
        clear HGn HTn
        clear hg
        have HX := HXq
        clear HXq
        generalize hWx : w8.alloc (.cells #[.int .i64 0, .int .i64 0, .int .i64 0, .int .i64 0, .int .i64 0, .int .i64 0, .int .i64 0] 24) = w9 at *
        generalize hBx : w8.heap.size = BX at *
        clear hWx hBx
        have cT0 : w9.cell? ⟨BT, 0, none⟩ = some (.int .i64 2) := blk_cell HT.out 0
        have cT1 : w9.cell? ⟨BT, 1, none⟩ = some (.int .i64 0) := blk_cell HT.out 1
        have cT2 : w9.cell? ⟨BT, 2, none⟩ = some (.int .i64 3) := blk_cell HT.out 2
        have cT3 : w9.cell? ⟨BT, 3, none⟩ = some (.int .i64 4) := blk_cell HT.out 3
        have cT4 : w9.cell? ⟨BT, 4, none⟩ = some (.int .i64 13) := blk_cell HT.out 4
        have cT5 : w9.cell? ⟨BT, 5, none⟩ = some (.int .i64 5) := blk_cell HT.out 5
        have cT6 : w9.cell? ⟨BT, 6, none⟩ = some (.int .i64 (4 + d)) := blk_cell HT.out 6
        have cX0 : w9.cell? ⟨BX, 0, none⟩ = some (.int .i64 0) := blk_cell HX.out 0
        have cX1 : w9.cell? ⟨BX, 1, none⟩ = some (.int .i64 0) := blk_cell HX.out 1
        have cX2 : w9.cell? ⟨BX, 2, none⟩ = some (.int .i64 0) := blk_cell HX.out 2
        have cX3 : w9.cell? ⟨BX, 3, none⟩ = some (.int .i64 0) := blk_cell HX.out 3
        have cX4 : w9.cell? ⟨BX, 4, none⟩ = some (.int .i64 0) := blk_cell HX.out 4
        have cX5 : w9.cell? ⟨BX, 5, none⟩ = some (.int .i64 0) := blk_cell HX.out 5
        have cX6 : w9.cell? ⟨BX, 6, none⟩ = some (.int .i64 0) := blk_cell HX.out 6
        go_wp2_with (first | (go_at_call 16; refine (NUM.out _ _).mono ?_; rintro e wn ⟨rfl, rfl⟩) | fail)
        refine (may_at (b := false) (w9.alloc (.cells #[.int .i64 2, .int .i64 0, .int .i64 3, .int .i64 4, .int .i64 13, .int .i64 5, .int .i64 (4 + d)] 24)) (blk_row (xs := [⟨2, 0, 3, 4, 13, 5, 4 + d⟩]) (n := 1) (heap_alloc_new w9 (.cells #[.int .i64 2, .int .i64 0, .int .i64 3, .int .i64 4, .int .i64 13, .int .i64 5, .int .i64 (4 + d)] 24)) rfl rfl (by simp)) HANS.out.may).mono ?_; rintro e w10 ⟨rfl, hg⟩
        clear cT0 cT1 cT2 cT3 cT4 cT5 cT6 cX0 cX1 cX2 cX3 cX4 cX5 cX6
        replace hg := grownBy_trans (World.grownBy_alloc _ (.cells #[.int .i64 2, .int .i64 0, .int .i64 3, .int .i64 4, .int .i64 13, .int .i64 5, .int .i64 (4 + d)] 24) none) hg
        have HGn := hide (grownBy_trans HG.out hg)
        have HTn := hide (box_grown HT.out hg (by simp))
        have HXn := hide (box_grown HX.out hg (by simp))
        clear HG HT HX
        have HG := HGn
        have HT := HTn
        have HX := HXn
        clear HGn HTn HXn
        clear hg
        go_wp2_with (first | fail)
        go_ret
        exact ⟨rfl, HG.out⟩
theorem forms_law (x0 x1 : Int) (w : World) : Calls Try.prog 6 #[.int .i64 x0, .int .i64 x1] w fun e w' => e = .returned (.bool true) ∧ w.grownBy w' none := forms_from x0 x1 w w (grownBy_refl _ _)
#print axioms forms_law
end Go.Proofs.Ytebiifcifcefoaa
