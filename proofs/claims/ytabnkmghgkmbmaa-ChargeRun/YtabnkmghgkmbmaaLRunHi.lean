/- The walk of the statement ChargeRun, a high level: a job charged tick by tick; proved over the translation. -/
import Derived.Test.YtabnkmghgkmbmaaAw
import Derived.Test.YtabnkmghgkmbmaaUmath
import Derived.Test.YtabnkmghgkmbmaaBits
namespace Go.Proofs.Ytabnkmghgkmbmaa
open Go.RowKit
attribute [local go_sem] alloc_drewN setCell_drewN

set_option maxRecDepth 100000 in
set_option maxHeartbeats 40000000 in
theorem runHigh (t : TaskV) (x : Int) (w w0 : World) (hg0 : w.grownBy w0 none) : Calls Try.prog 4 #[taskVal t, .int .i64 x, .bool true] w0 fun e w' => e = .returned (.bool true) ∧ w.grownBy w' none := by
  obtain ⟨c, hc, hmc⟩ := and11 x
  have NUM := hide num_to
  have HG := hide hg0
  clear hg0
  obtain ⟨x0, x1, x2, x3, x4, x5⟩ := t
  obtain ⟨M, hM⟩ : ∃ M, taskMay ⟨x0, x1, x2, x3, x4, x5⟩ = M := ⟨_, rfl⟩
  have HM := hide hM
  clear hM
  dsimp only [taskVal]
  go_enter Try.func4, Try.ntmps4
  go_upto_region 1 with (first | fail)
  have hg := World.grownBy_alloc w0 (.cells #[.int .i64 x0, .int .i64 x1, .int .i64 x2, .int .i64 x3, .int .i64 x4, .int .i64 x5] 25) none
  have HTq := hide (heap_alloc_new w0 (.cells #[.int .i64 x0, .int .i64 x1, .int .i64 x2, .int .i64 x3, .int .i64 x4, .int .i64 x5] 25))
  have LT := hide HG.out.size
  have HGn := hide (grownBy_trans HG.out hg)
  clear HG
  have HG := HGn
  clear HGn
  clear hg
  have HT := HTq
  clear HTq
  generalize hWx : w0.alloc (.cells #[.int .i64 x0, .int .i64 x1, .int .i64 x2, .int .i64 x3, .int .i64 x4, .int .i64 x5] 25) = w1 at *
  generalize hBx : w0.heap.size = BT at *
  clear hWx hBx
  go_wp2_with (first | fail)
  refine (awake_any _).mono ?_; rintro e w2 ⟨rfl, hg⟩
  have HGn := hide (grownBy_trans HG.out hg)
  have HTn := hide (box_grown HT.out hg (by simp))
  clear HG HT
  have HG := HGn
  have HT := HTn
  clear HGn HTn
  clear hg
  go_upto_region 3 with (first | fail)
  have HSS : Hid ((fun W => W.heap[BT]? = some (.cells #[.int .i64 x0, .int .i64 x1, .int .i64 x2, .int .i64 x3, .int .i64 x4, .int .i64 x5] 25 (0, 0))) w2) := hide HT.out
  refine wp_region_held_drew (S := fun W => W.heap[BT]? = some (.cells #[.int .i64 x0, .int .i64 x1, .int .i64 x2, .int .i64 x3, .int .i64 x4, .int .i64 x5] 25 (0, 0))) (by kernel_rfl) HSS.out (fun hHeld => ?_)
  have HGd : Hid (w.grownBy w2.drew none) := hide (grownBy_trans HG.out (grownBy_draws w2 1 none))
  have HTd : Hid (w2.drew.heap[BT]? = some (.cells #[.int .i64 x0, .int .i64 x1, .int .i64 x2, .int .i64 x3, .int .i64 x4, .int .i64 x5] 25 (0, 0))) := hide HT.out
  clear HG HT HSS
  generalize w2.drew = W at *
  have HG := HGd
  have HT := HTd
  clear HGd HTd
  refine take_put (i := 0) (v := .pointer (some ⟨BT, 3, none⟩)) 17 rfl rfl (by kernel_rfl) (by kernel_rfl) (by kernel_rfl) (fun _ _ _ h => h) (Or.inl ⟨by rfl, by intro Wy hSW; go_simp⟩) (by assumption) ?_
  (try simp only [Act.put, List.setIfInBounds_toArray, List.set_cons_zero, List.set_cons_succ])
  refine take_put (i := 1) (v := .int .i64 x3) 18 rfl rfl (by kernel_rfl) (by kernel_rfl) (by kernel_rfl) (fun _ _ _ h => h) (Or.inl ⟨by rfl, by intro Wy hSW; have hc := blk_cell hSW 3; go_simp⟩) (by assumption) ?_
  (try simp only [Act.put, List.setIfInBounds_toArray, List.set_cons_zero, List.set_cons_succ])
  refine take_put (i := 2) (v := .int .i64 0) 7 rfl rfl (by kernel_rfl) (by kernel_rfl) (by kernel_rfl) (fun _ _ _ h => h) (Or.inl ⟨by rfl, by intro Wy hSW; go_simp⟩) (by assumption) ?_
  (try simp only [Act.put, List.setIfInBounds_toArray, List.set_cons_zero, List.set_cons_succ])
  refine take_put (i := 3) (v := .int .i64 x3) 8 rfl rfl (by kernel_rfl) (by kernel_rfl) (by kernel_rfl) (fun _ _ _ h => h) (Or.inl ⟨by rfl, by intro Wy hSW; go_simp⟩) (by assumption) ?_
  (try simp only [Act.put, List.setIfInBounds_toArray, List.set_cons_zero, List.set_cons_succ])
  refine wpAnyH_done (by kernel_rfl) ?_ _
  clear hHeld
  have cT4 : W.cell? ⟨BT, 4, none⟩ = some (.int .i64 x4) := blk_cell HT.out 4
  go_upto_region 8 with (first | fail)
  generalize hd : 1 + (c : Int) = d at *
  have hd1 : 1 ≤ d := by omega
  have hd2 : d ≤ 2048 := by omega
  clear hd hmc hc
  clear cT4
  have hg : W.grownBy W none := grownBy_refl _ _
  clear hg
  go_upto_region 9 with (first | fail)
  have hg : W.grownBy (W.alloc (.cells #[.int .i64 0, .int .i64 0, .int .i64 0, .int .i64 0, .int .i64 1, .int .i64 d, .int .i64 0] 23)) none := (grownBy_trans (grownBy_refl _ _) (World.grownBy_alloc _ _ none))
  have hJ := heap_alloc_new W (.cells #[.int .i64 0, .int .i64 0, .int .i64 0, .int .i64 0, .int .i64 1, .int .i64 d, .int .i64 0] 23)
  have HJq := hide hJ
  clear hJ
  have LJ : Hid (w.heap.size ≤ W.heap.size) := hide (by have := HG.out.size; omega)
  have NJT : Hid (BT < W.heap.size) := hide (by have := box_lt HT.out; omega)
  have HGn := hide (grownBy_trans HG.out hg)
  have HTn := hide (box_grown HT.out hg (by simp))
  clear HG HT
  have HG := HGn
  have HT := HTn
  clear HGn HTn
  clear hg
  have HJ := HJq
  clear HJq
  generalize hWx : (W.alloc (.cells #[.int .i64 0, .int .i64 0, .int .i64 0, .int .i64 0, .int .i64 1, .int .i64 d, .int .i64 0] 23)) = w3 at *
  clear hWx
  generalize hBx : W.heap.size = BJ at *
  clear hBx
  go_wp2
  go_loopw [11] (fun i W => ∃ (u k : Int), i = .int .i64 k ∧ 1 ≤ k ∧ k ≤ d ∧ Hid (u + 1 = k) ∧ Hid (M = true → k ≤ x4) ∧ Hid (M = false → k = 1) ∧ Hid (W.heap[BJ]? = some (.cells #[.int .i64 0, .int .i64 0, .int .i64 0, .int .i64 0, .int .i64 1, .int .i64 d, .int .i64 u] 23 (0, 0))) ∧ Hid (W.heap[BT]? = some (.cells #[.int .i64 x0, .int .i64 x1, .int .i64 x2, .int .i64 x3, .int .i64 x4, .int .i64 x5] 25 (0, 0))) ∧ Hid (w.grownBy W none)) (fun i _ => 3000 - (intOf i).toNat)
  case atStart => exact ⟨0, 1, rfl, by decide, hd1, hide (by decide), hide (fun h => by have hp := may_parts (HM.out.trans h); dsimp only at hp; omega), hide (fun _ => rfl), HJ, HT, HG⟩
  case round =>
    clear HJ HT HG
    obtain ⟨u, k, rfl, hk1, hkd, HU, HKE, HK1, HJ, HT, HG⟩ := hrel
    have hu0 : 0 ≤ u := by have := HU.out; omega
    have hud : u < d := by have := HU.out; omega
    cases M with
    | false =>
      obtain rfl : k = 1 := HK1.out rfl
      have HANS := hide (run_no (l := 1) HM.out (by decide) hd1 hd2 hu0 hud)
      have cJ0 : wr.cell? ⟨BJ, 0, none⟩ = some (.int .i64 0) := blk_cell HJ.out 0
      have cJ1 : wr.cell? ⟨BJ, 1, none⟩ = some (.int .i64 0) := blk_cell HJ.out 1
      have cJ2 : wr.cell? ⟨BJ, 2, none⟩ = some (.int .i64 0) := blk_cell HJ.out 2
      have cJ3 : wr.cell? ⟨BJ, 3, none⟩ = some (.int .i64 0) := blk_cell HJ.out 3
      have cJ4 : wr.cell? ⟨BJ, 4, none⟩ = some (.int .i64 1) := blk_cell HJ.out 4
      have cJ5 : wr.cell? ⟨BJ, 5, none⟩ = some (.int .i64 d) := blk_cell HJ.out 5
      have cJ6 : wr.cell? ⟨BJ, 6, none⟩ = some (.int .i64 u) := blk_cell HJ.out 6
      have cT0 : wr.cell? ⟨BT, 0, none⟩ = some (.int .i64 x0) := blk_cell HT.out 0
      have cT1 : wr.cell? ⟨BT, 1, none⟩ = some (.int .i64 x1) := blk_cell HT.out 1
      have cT2 : wr.cell? ⟨BT, 2, none⟩ = some (.int .i64 x2) := blk_cell HT.out 2
      have cT3 : wr.cell? ⟨BT, 3, none⟩ = some (.int .i64 x3) := blk_cell HT.out 3
      have cT4 : wr.cell? ⟨BT, 4, none⟩ = some (.int .i64 x4) := blk_cell HT.out 4
      have cT5 : wr.cell? ⟨BT, 5, none⟩ = some (.int .i64 x5) := blk_cell HT.out 5
      go_wp2_with (first | fail)
      refine (ch_at _ HANS.out).mono ?_; rintro e w4 ⟨rfl, hg⟩
      clear cJ0 cJ1 cJ2 cJ3 cJ4 cJ5 cJ6 cT0 cT1 cT2 cT3 cT4 cT5
      have HGn := hide (grownBy_trans HG.out hg)
      have HTn := hide (box_grown HT.out hg (by simp))
      have HJn := hide (box_grown HJ.out hg (by simp))
      clear HG HT HJ
      have HG := HGn
      have HT := HTn
      have HJ := HJn
      clear HGn HTn HJn
      clear hg
      go_upto_region 13 with (first | fail)
      have hg : w4.grownBy ((w4.alloc (.cells #[.int .i64 0, .int .i64 0, .int .i64 0, .int .i64 0, .int .i64 0, .int .i64 0, .int .i64 0] 23)).alloc (.cells #[.bool false, .bool false, .bool false] 27)) none := (grownBy_trans (grownBy_trans (grownBy_refl _ _) (World.grownBy_alloc _ _ none)) (World.grownBy_alloc _ _ none))
      have hA := heap_alloc_new w4 (.cells #[.int .i64 0, .int .i64 0, .int .i64 0, .int .i64 0, .int .i64 0, .int .i64 0, .int .i64 0] 23)
      have HAq := hide (hp_up hA (.cells #[.bool false, .bool false, .bool false] 27))
      clear hA
      have LA : Hid (w.heap.size ≤ w4.heap.size) := hide (by have := HG.out.size; omega)
      have hV : ((w4.alloc (.cells #[.int .i64 0, .int .i64 0, .int .i64 0, .int .i64 0, .int .i64 0, .int .i64 0, .int .i64 0] 23)).alloc (.cells #[.bool false, .bool false, .bool false] 27)).heap[w4.heap.size + 1]? = some (.cells #[.bool false, .bool false, .bool false] 27) := by have h := heap_alloc_new (w4.alloc (.cells #[.int .i64 0, .int .i64 0, .int .i64 0, .int .i64 0, .int .i64 0, .int .i64 0, .int .i64 0] 23)) (.cells #[.bool false, .bool false, .bool false] 27); rwa [show (w4.alloc (.cells #[.int .i64 0, .int .i64 0, .int .i64 0, .int .i64 0, .int .i64 0, .int .i64 0, .int .i64 0] 23)).heap.size = w4.heap.size + 1 by simp] at h
      have HVq := hide hV
      clear hV
      have LV : Hid (w.heap.size ≤ w4.heap.size + 1) := hide (by have := HG.out.size; omega)
      have HGn := hide (grownBy_trans HG.out hg)
      have HTn := hide (box_grown HT.out hg (by simp))
      have HJn := hide (box_grown HJ.out hg (by simp))
      clear HG HT HJ
      have HG := HGn
      have HT := HTn
      have HJ := HJn
      clear HGn HTn HJn
      clear hg
      have HA := HAq
      clear HAq
      have HV := HVq
      clear HVq
      have HOA : Hid (w4.heap.size < w4.heap.size + 1) := hide (by omega)
      generalize hWx : ((w4.alloc (.cells #[.int .i64 0, .int .i64 0, .int .i64 0, .int .i64 0, .int .i64 0, .int .i64 0, .int .i64 0] 23)).alloc (.cells #[.bool false, .bool false, .bool false] 27)) = w5 at *
      clear hWx
      generalize hBx : w4.heap.size + 1 = BV at *
      clear hBx
      generalize hBx : w4.heap.size = BA at *
      clear hBx
      go_wp2_with (first | (go_at_call 9; refine (NUM.out _ _).mono ?_; rintro e wn ⟨rfl, rfl⟩) | fail)
      go_ret
      exact ⟨rfl, HG.out⟩
    | true =>
      have hke : k ≤ x4 := HKE.out rfl
      have hk9 : k ≤ 1024 := by have hp := may_parts HM.out; dsimp only at hp; omega
      by_cases hlt : k < d
      · have eD : (k == d) = false := beq_eq_false_iff_ne.2 (by omega)
        have HD : Hid (decide (k = d) = false) := hide eD
        by_cases hE : k = x4
        · have eE : (k == x4) = true := beq_iff_eq.2 hE
          have HE : Hid ((decide (k = x4) && decide (k < d)) = true) := hide (by rw [decide_eq_true hE, decide_eq_true hlt]; rfl)
          have hmn : x4 ≤ k := by omega
          clear hE
          by_cases h3 : k = x3
          · have e3 : (k == x3) = true := beq_iff_eq.2 h3
            have H3 : Hid ((decide (k = x3) && decide (k < d)) = true) := hide (by rw [decide_eq_true h3, decide_eq_true hlt]; rfl)
            clear h3
            have HANS := hide (run_hi (o := true) (dn := false) (kl := true) HM.out hd1 hd2 hu0 hud HU.out H3.out HD.out HE.out)
            have cJ0 : wr.cell? ⟨BJ, 0, none⟩ = some (.int .i64 0) := blk_cell HJ.out 0
            have cJ1 : wr.cell? ⟨BJ, 1, none⟩ = some (.int .i64 0) := blk_cell HJ.out 1
            have cJ2 : wr.cell? ⟨BJ, 2, none⟩ = some (.int .i64 0) := blk_cell HJ.out 2
            have cJ3 : wr.cell? ⟨BJ, 3, none⟩ = some (.int .i64 0) := blk_cell HJ.out 3
            have cJ4 : wr.cell? ⟨BJ, 4, none⟩ = some (.int .i64 1) := blk_cell HJ.out 4
            have cJ5 : wr.cell? ⟨BJ, 5, none⟩ = some (.int .i64 d) := blk_cell HJ.out 5
            have cJ6 : wr.cell? ⟨BJ, 6, none⟩ = some (.int .i64 u) := blk_cell HJ.out 6
            have cT0 : wr.cell? ⟨BT, 0, none⟩ = some (.int .i64 x0) := blk_cell HT.out 0
            have cT1 : wr.cell? ⟨BT, 1, none⟩ = some (.int .i64 x1) := blk_cell HT.out 1
            have cT2 : wr.cell? ⟨BT, 2, none⟩ = some (.int .i64 x2) := blk_cell HT.out 2
            have cT3 : wr.cell? ⟨BT, 3, none⟩ = some (.int .i64 x3) := blk_cell HT.out 3
            have cT4 : wr.cell? ⟨BT, 4, none⟩ = some (.int .i64 x4) := blk_cell HT.out 4
            have cT5 : wr.cell? ⟨BT, 5, none⟩ = some (.int .i64 x5) := blk_cell HT.out 5
            go_wp2_with (first | fail)
            refine (ch_at _ HANS.out).mono ?_; rintro e w4 ⟨rfl, hg⟩
            clear cJ0 cJ1 cJ2 cJ3 cJ4 cJ5 cJ6 cT0 cT1 cT2 cT3 cT4 cT5
            have HGn := hide (grownBy_trans HG.out hg)
            have HTn := hide (box_grown HT.out hg (by simp))
            have HJn := hide (box_grown HJ.out hg (by simp))
            clear HG HT HJ
            have HG := HGn
            have HT := HTn
            have HJ := HJn
            clear HGn HTn HJn
            clear hg
            go_upto_region 13 with (first | fail)
            have hg : w4.grownBy ((w4.alloc (.cells #[.int .i64 0, .int .i64 0, .int .i64 0, .int .i64 0, .int .i64 1, .int .i64 d, .int .i64 k] 23)).alloc (.cells #[.bool true, .bool false, .bool true] 27)) none := (grownBy_trans (grownBy_trans (grownBy_refl _ _) (World.grownBy_alloc _ _ none)) (World.grownBy_alloc _ _ none))
            have hA := heap_alloc_new w4 (.cells #[.int .i64 0, .int .i64 0, .int .i64 0, .int .i64 0, .int .i64 1, .int .i64 d, .int .i64 k] 23)
            have HAq := hide (hp_up hA (.cells #[.bool true, .bool false, .bool true] 27))
            clear hA
            have LA : Hid (w.heap.size ≤ w4.heap.size) := hide (by have := HG.out.size; omega)
            have hV : ((w4.alloc (.cells #[.int .i64 0, .int .i64 0, .int .i64 0, .int .i64 0, .int .i64 1, .int .i64 d, .int .i64 k] 23)).alloc (.cells #[.bool true, .bool false, .bool true] 27)).heap[w4.heap.size + 1]? = some (.cells #[.bool true, .bool false, .bool true] 27) := by have h := heap_alloc_new (w4.alloc (.cells #[.int .i64 0, .int .i64 0, .int .i64 0, .int .i64 0, .int .i64 1, .int .i64 d, .int .i64 k] 23)) (.cells #[.bool true, .bool false, .bool true] 27); rwa [show (w4.alloc (.cells #[.int .i64 0, .int .i64 0, .int .i64 0, .int .i64 0, .int .i64 1, .int .i64 d, .int .i64 k] 23)).heap.size = w4.heap.size + 1 by simp] at h
            have HVq := hide hV
            clear hV
            have LV : Hid (w.heap.size ≤ w4.heap.size + 1) := hide (by have := HG.out.size; omega)
            have NAJ : Hid (BJ < w4.heap.size) := hide (by have := box_lt HJ.out; omega)
            have NVJ : Hid (BJ < w4.heap.size + 1) := hide (by have := box_lt HJ.out; omega)
            have HGn := hide (grownBy_trans HG.out hg)
            have HTn := hide (box_grown HT.out hg (by simp))
            have HJn := hide (box_grown HJ.out hg (by simp))
            clear HG HT HJ
            have HG := HGn
            have HT := HTn
            have HJ := HJn
            clear HGn HTn HJn
            clear hg
            have HA := HAq
            clear HAq
            have HV := HVq
            clear HVq
            have HOA : Hid (w4.heap.size < w4.heap.size + 1) := hide (by omega)
            generalize hWx : ((w4.alloc (.cells #[.int .i64 0, .int .i64 0, .int .i64 0, .int .i64 0, .int .i64 1, .int .i64 d, .int .i64 k] 23)).alloc (.cells #[.bool true, .bool false, .bool true] 27)) = w5 at *
            clear hWx
            generalize hBx : w4.heap.size + 1 = BV at *
            clear hBx
            generalize hBx : w4.heap.size = BA at *
            clear hBx
            have cA6 : w5.cell? ⟨BA, 6, none⟩ = some (.int .i64 k) := blk_cell HA.out 6
            have cV0 : w5.cell? ⟨BV, 0, none⟩ = some (.bool true) := blk_cell HV.out 0
            have cV1 : w5.cell? ⟨BV, 1, none⟩ = some (.bool false) := blk_cell HV.out 1
            have cV2 : w5.cell? ⟨BV, 2, none⟩ = some (.bool true) := blk_cell HV.out 2
            have cT3 : w5.cell? ⟨BT, 3, none⟩ = some (.int .i64 x3) := blk_cell HT.out 3
            go_wp2_with (first | (go_at_call 9; refine (NUM.out _ _).mono ?_; rintro e wn ⟨rfl, rfl⟩) | fail)
            clear cA6 cV0 cV1 cV2 cT3
            go_ret
            exact ⟨rfl, HG.out⟩
          · have e3 : (k == x3) = false := beq_eq_false_iff_ne.2 h3
            have H3 : Hid ((decide (k = x3) && decide (k < d)) = false) := hide (by rw [decide_eq_false h3, decide_eq_true hlt]; rfl)
            clear h3
            have HANS := hide (run_hi (o := false) (dn := false) (kl := true) HM.out hd1 hd2 hu0 hud HU.out H3.out HD.out HE.out)
            have cJ0 : wr.cell? ⟨BJ, 0, none⟩ = some (.int .i64 0) := blk_cell HJ.out 0
            have cJ1 : wr.cell? ⟨BJ, 1, none⟩ = some (.int .i64 0) := blk_cell HJ.out 1
            have cJ2 : wr.cell? ⟨BJ, 2, none⟩ = some (.int .i64 0) := blk_cell HJ.out 2
            have cJ3 : wr.cell? ⟨BJ, 3, none⟩ = some (.int .i64 0) := blk_cell HJ.out 3
            have cJ4 : wr.cell? ⟨BJ, 4, none⟩ = some (.int .i64 1) := blk_cell HJ.out 4
            have cJ5 : wr.cell? ⟨BJ, 5, none⟩ = some (.int .i64 d) := blk_cell HJ.out 5
            have cJ6 : wr.cell? ⟨BJ, 6, none⟩ = some (.int .i64 u) := blk_cell HJ.out 6
            have cT0 : wr.cell? ⟨BT, 0, none⟩ = some (.int .i64 x0) := blk_cell HT.out 0
            have cT1 : wr.cell? ⟨BT, 1, none⟩ = some (.int .i64 x1) := blk_cell HT.out 1
            have cT2 : wr.cell? ⟨BT, 2, none⟩ = some (.int .i64 x2) := blk_cell HT.out 2
            have cT3 : wr.cell? ⟨BT, 3, none⟩ = some (.int .i64 x3) := blk_cell HT.out 3
            have cT4 : wr.cell? ⟨BT, 4, none⟩ = some (.int .i64 x4) := blk_cell HT.out 4
            have cT5 : wr.cell? ⟨BT, 5, none⟩ = some (.int .i64 x5) := blk_cell HT.out 5
            go_wp2_with (first | fail)
            refine (ch_at _ HANS.out).mono ?_; rintro e w4 ⟨rfl, hg⟩
            clear cJ0 cJ1 cJ2 cJ3 cJ4 cJ5 cJ6 cT0 cT1 cT2 cT3 cT4 cT5
            have HGn := hide (grownBy_trans HG.out hg)
            have HTn := hide (box_grown HT.out hg (by simp))
            have HJn := hide (box_grown HJ.out hg (by simp))
            clear HG HT HJ
            have HG := HGn
            have HT := HTn
            have HJ := HJn
            clear HGn HTn HJn
            clear hg
            go_upto_region 13 with (first | fail)
            have hg : w4.grownBy ((w4.alloc (.cells #[.int .i64 0, .int .i64 0, .int .i64 0, .int .i64 0, .int .i64 1, .int .i64 d, .int .i64 k] 23)).alloc (.cells #[.bool false, .bool false, .bool true] 27)) none := (grownBy_trans (grownBy_trans (grownBy_refl _ _) (World.grownBy_alloc _ _ none)) (World.grownBy_alloc _ _ none))
            have hA := heap_alloc_new w4 (.cells #[.int .i64 0, .int .i64 0, .int .i64 0, .int .i64 0, .int .i64 1, .int .i64 d, .int .i64 k] 23)
            have HAq := hide (hp_up hA (.cells #[.bool false, .bool false, .bool true] 27))
            clear hA
            have LA : Hid (w.heap.size ≤ w4.heap.size) := hide (by have := HG.out.size; omega)
            have hV : ((w4.alloc (.cells #[.int .i64 0, .int .i64 0, .int .i64 0, .int .i64 0, .int .i64 1, .int .i64 d, .int .i64 k] 23)).alloc (.cells #[.bool false, .bool false, .bool true] 27)).heap[w4.heap.size + 1]? = some (.cells #[.bool false, .bool false, .bool true] 27) := by have h := heap_alloc_new (w4.alloc (.cells #[.int .i64 0, .int .i64 0, .int .i64 0, .int .i64 0, .int .i64 1, .int .i64 d, .int .i64 k] 23)) (.cells #[.bool false, .bool false, .bool true] 27); rwa [show (w4.alloc (.cells #[.int .i64 0, .int .i64 0, .int .i64 0, .int .i64 0, .int .i64 1, .int .i64 d, .int .i64 k] 23)).heap.size = w4.heap.size + 1 by simp] at h
            have HVq := hide hV
            clear hV
            have LV : Hid (w.heap.size ≤ w4.heap.size + 1) := hide (by have := HG.out.size; omega)
            have NAJ : Hid (BJ < w4.heap.size) := hide (by have := box_lt HJ.out; omega)
            have NVJ : Hid (BJ < w4.heap.size + 1) := hide (by have := box_lt HJ.out; omega)
            have HGn := hide (grownBy_trans HG.out hg)
            have HTn := hide (box_grown HT.out hg (by simp))
            have HJn := hide (box_grown HJ.out hg (by simp))
            clear HG HT HJ
            have HG := HGn
            have HT := HTn
            have HJ := HJn
            clear HGn HTn HJn
            clear hg
            have HA := HAq
            clear HAq
            have HV := HVq
            clear HVq
            have HOA : Hid (w4.heap.size < w4.heap.size + 1) := hide (by omega)
            generalize hWx : ((w4.alloc (.cells #[.int .i64 0, .int .i64 0, .int .i64 0, .int .i64 0, .int .i64 1, .int .i64 d, .int .i64 k] 23)).alloc (.cells #[.bool false, .bool false, .bool true] 27)) = w5 at *
            clear hWx
            generalize hBx : w4.heap.size + 1 = BV at *
            clear hBx
            generalize hBx : w4.heap.size = BA at *
            clear hBx
            have cA6 : w5.cell? ⟨BA, 6, none⟩ = some (.int .i64 k) := blk_cell HA.out 6
            have cV0 : w5.cell? ⟨BV, 0, none⟩ = some (.bool false) := blk_cell HV.out 0
            have cV1 : w5.cell? ⟨BV, 1, none⟩ = some (.bool false) := blk_cell HV.out 1
            have cV2 : w5.cell? ⟨BV, 2, none⟩ = some (.bool true) := blk_cell HV.out 2
            have cT3 : w5.cell? ⟨BT, 3, none⟩ = some (.int .i64 x3) := blk_cell HT.out 3
            go_wp2_with (first | (go_at_call 9; refine (NUM.out _ _).mono ?_; rintro e wn ⟨rfl, rfl⟩) | fail)
            clear cA6 cV0 cV1 cV2 cT3
            go_ret
            exact ⟨rfl, HG.out⟩
        · have eE : (k == x4) = false := beq_eq_false_iff_ne.2 hE
          have HE : Hid ((decide (k = x4) && decide (k < d)) = false) := hide (by rw [decide_eq_false hE, decide_eq_true hlt]; rfl)
          have hmn : k < x4 := by omega
          clear hE
          by_cases h3 : k = x3
          · have e3 : (k == x3) = true := beq_iff_eq.2 h3
            have H3 : Hid ((decide (k = x3) && decide (k < d)) = true) := hide (by rw [decide_eq_true h3, decide_eq_true hlt]; rfl)
            clear h3
            have HANS := hide (run_hi (o := true) (dn := false) (kl := false) HM.out hd1 hd2 hu0 hud HU.out H3.out HD.out HE.out)
            have cJ0 : wr.cell? ⟨BJ, 0, none⟩ = some (.int .i64 0) := blk_cell HJ.out 0
            have cJ1 : wr.cell? ⟨BJ, 1, none⟩ = some (.int .i64 0) := blk_cell HJ.out 1
            have cJ2 : wr.cell? ⟨BJ, 2, none⟩ = some (.int .i64 0) := blk_cell HJ.out 2
            have cJ3 : wr.cell? ⟨BJ, 3, none⟩ = some (.int .i64 0) := blk_cell HJ.out 3
            have cJ4 : wr.cell? ⟨BJ, 4, none⟩ = some (.int .i64 1) := blk_cell HJ.out 4
            have cJ5 : wr.cell? ⟨BJ, 5, none⟩ = some (.int .i64 d) := blk_cell HJ.out 5
            have cJ6 : wr.cell? ⟨BJ, 6, none⟩ = some (.int .i64 u) := blk_cell HJ.out 6
            have cT0 : wr.cell? ⟨BT, 0, none⟩ = some (.int .i64 x0) := blk_cell HT.out 0
            have cT1 : wr.cell? ⟨BT, 1, none⟩ = some (.int .i64 x1) := blk_cell HT.out 1
            have cT2 : wr.cell? ⟨BT, 2, none⟩ = some (.int .i64 x2) := blk_cell HT.out 2
            have cT3 : wr.cell? ⟨BT, 3, none⟩ = some (.int .i64 x3) := blk_cell HT.out 3
            have cT4 : wr.cell? ⟨BT, 4, none⟩ = some (.int .i64 x4) := blk_cell HT.out 4
            have cT5 : wr.cell? ⟨BT, 5, none⟩ = some (.int .i64 x5) := blk_cell HT.out 5
            go_wp2_with (first | fail)
            refine (ch_at _ HANS.out).mono ?_; rintro e w4 ⟨rfl, hg⟩
            clear cJ0 cJ1 cJ2 cJ3 cJ4 cJ5 cJ6 cT0 cT1 cT2 cT3 cT4 cT5
            have HGn := hide (grownBy_trans HG.out hg)
            have HTn := hide (box_grown HT.out hg (by simp))
            have HJn := hide (box_grown HJ.out hg (by simp))
            clear HG HT HJ
            have HG := HGn
            have HT := HTn
            have HJ := HJn
            clear HGn HTn HJn
            clear hg
            go_upto_region 13 with (first | fail)
            have hg : w4.grownBy ((w4.alloc (.cells #[.int .i64 0, .int .i64 0, .int .i64 0, .int .i64 0, .int .i64 1, .int .i64 d, .int .i64 k] 23)).alloc (.cells #[.bool true, .bool false, .bool false] 27)) none := (grownBy_trans (grownBy_trans (grownBy_refl _ _) (World.grownBy_alloc _ _ none)) (World.grownBy_alloc _ _ none))
            have hA := heap_alloc_new w4 (.cells #[.int .i64 0, .int .i64 0, .int .i64 0, .int .i64 0, .int .i64 1, .int .i64 d, .int .i64 k] 23)
            have HAq := hide (hp_up hA (.cells #[.bool true, .bool false, .bool false] 27))
            clear hA
            have LA : Hid (w.heap.size ≤ w4.heap.size) := hide (by have := HG.out.size; omega)
            have hV : ((w4.alloc (.cells #[.int .i64 0, .int .i64 0, .int .i64 0, .int .i64 0, .int .i64 1, .int .i64 d, .int .i64 k] 23)).alloc (.cells #[.bool true, .bool false, .bool false] 27)).heap[w4.heap.size + 1]? = some (.cells #[.bool true, .bool false, .bool false] 27) := by have h := heap_alloc_new (w4.alloc (.cells #[.int .i64 0, .int .i64 0, .int .i64 0, .int .i64 0, .int .i64 1, .int .i64 d, .int .i64 k] 23)) (.cells #[.bool true, .bool false, .bool false] 27); rwa [show (w4.alloc (.cells #[.int .i64 0, .int .i64 0, .int .i64 0, .int .i64 0, .int .i64 1, .int .i64 d, .int .i64 k] 23)).heap.size = w4.heap.size + 1 by simp] at h
            have HVq := hide hV
            clear hV
            have LV : Hid (w.heap.size ≤ w4.heap.size + 1) := hide (by have := HG.out.size; omega)
            have NAJ : Hid (BJ < w4.heap.size) := hide (by have := box_lt HJ.out; omega)
            have NVJ : Hid (BJ < w4.heap.size + 1) := hide (by have := box_lt HJ.out; omega)
            have HGn := hide (grownBy_trans HG.out hg)
            have HTn := hide (box_grown HT.out hg (by simp))
            have HJn := hide (box_grown HJ.out hg (by simp))
            clear HG HT HJ
            have HG := HGn
            have HT := HTn
            have HJ := HJn
            clear HGn HTn HJn
            clear hg
            have HA := HAq
            clear HAq
            have HV := HVq
            clear HVq
            have HOA : Hid (w4.heap.size < w4.heap.size + 1) := hide (by omega)
            generalize hWx : ((w4.alloc (.cells #[.int .i64 0, .int .i64 0, .int .i64 0, .int .i64 0, .int .i64 1, .int .i64 d, .int .i64 k] 23)).alloc (.cells #[.bool true, .bool false, .bool false] 27)) = w5 at *
            clear hWx
            generalize hBx : w4.heap.size + 1 = BV at *
            clear hBx
            generalize hBx : w4.heap.size = BA at *
            clear hBx
            have cA6 : w5.cell? ⟨BA, 6, none⟩ = some (.int .i64 k) := blk_cell HA.out 6
            have cV0 : w5.cell? ⟨BV, 0, none⟩ = some (.bool true) := blk_cell HV.out 0
            have cV1 : w5.cell? ⟨BV, 1, none⟩ = some (.bool false) := blk_cell HV.out 1
            have cV2 : w5.cell? ⟨BV, 2, none⟩ = some (.bool false) := blk_cell HV.out 2
            have cT3 : w5.cell? ⟨BT, 3, none⟩ = some (.int .i64 x3) := blk_cell HT.out 3
            go_upto_region 19 with (first | (go_at_call 9; refine (NUM.out _ _).mono ?_; rintro e wn ⟨rfl, rfl⟩) | fail)
            clear cA6 cV0 cV1 cV2 cT3
            have cA0 : w5.cell? ⟨BA, 0, none⟩ = some (.int .i64 0) := blk_cell HA.out 0
            have cA1 : w5.cell? ⟨BA, 1, none⟩ = some (.int .i64 0) := blk_cell HA.out 1
            have cA2 : w5.cell? ⟨BA, 2, none⟩ = some (.int .i64 0) := blk_cell HA.out 2
            have cA3 : w5.cell? ⟨BA, 3, none⟩ = some (.int .i64 0) := blk_cell HA.out 3
            have cA4 : w5.cell? ⟨BA, 4, none⟩ = some (.int .i64 1) := blk_cell HA.out 4
            have cA5 : w5.cell? ⟨BA, 5, none⟩ = some (.int .i64 d) := blk_cell HA.out 5
            have cA6 : w5.cell? ⟨BA, 6, none⟩ = some (.int .i64 k) := blk_cell HA.out 6
            go_wp2_with (first | ((with_reducible refine list_store 23 (.tmp 10) (.tmp 102) BJ #[.int .i64 0, .int .i64 0, .int .i64 0, .int .i64 0, .int .i64 1, .int .i64 d, .int .i64 k] 23 #[.int .i64 0, .int .i64 0, .int .i64 0, .int .i64 0, .int .i64 1, .int .i64 d, .int .i64 u] ?hx ?hy ?hg ?hi ?ho ?h1 ?_); (case hx => rfl); (case hy => rfl); (case hg => exact HJ.out); (case hi => exact sizeJ); (case ho => rfl); (case h1 => simp [Value.oneCell']); intro w8 h1 e1 g1; have HTn := hide ((e1 BT (by have := NJT.out; omega)).trans HT.out); have HJn := hide h1; have HGn := hide (grown_spoil HG.out LJ.out g1); clear h1 e1 g1 HG HJ HT) | fail)
            go_roundw
            case rel => exact ⟨k, k + 1, by go_num, by omega, by omega, hide rfl, hide (fun _ => by omega), hide (fun h => by cases h), HJn, HTn, HGn⟩
            case measure => simp [intOf]; omega
          · have e3 : (k == x3) = false := beq_eq_false_iff_ne.2 h3
            have H3 : Hid ((decide (k = x3) && decide (k < d)) = false) := hide (by rw [decide_eq_false h3, decide_eq_true hlt]; rfl)
            clear h3
            have HANS := hide (run_hi (o := false) (dn := false) (kl := false) HM.out hd1 hd2 hu0 hud HU.out H3.out HD.out HE.out)
            have cJ0 : wr.cell? ⟨BJ, 0, none⟩ = some (.int .i64 0) := blk_cell HJ.out 0
            have cJ1 : wr.cell? ⟨BJ, 1, none⟩ = some (.int .i64 0) := blk_cell HJ.out 1
            have cJ2 : wr.cell? ⟨BJ, 2, none⟩ = some (.int .i64 0) := blk_cell HJ.out 2
            have cJ3 : wr.cell? ⟨BJ, 3, none⟩ = some (.int .i64 0) := blk_cell HJ.out 3
            have cJ4 : wr.cell? ⟨BJ, 4, none⟩ = some (.int .i64 1) := blk_cell HJ.out 4
            have cJ5 : wr.cell? ⟨BJ, 5, none⟩ = some (.int .i64 d) := blk_cell HJ.out 5
            have cJ6 : wr.cell? ⟨BJ, 6, none⟩ = some (.int .i64 u) := blk_cell HJ.out 6
            have cT0 : wr.cell? ⟨BT, 0, none⟩ = some (.int .i64 x0) := blk_cell HT.out 0
            have cT1 : wr.cell? ⟨BT, 1, none⟩ = some (.int .i64 x1) := blk_cell HT.out 1
            have cT2 : wr.cell? ⟨BT, 2, none⟩ = some (.int .i64 x2) := blk_cell HT.out 2
            have cT3 : wr.cell? ⟨BT, 3, none⟩ = some (.int .i64 x3) := blk_cell HT.out 3
            have cT4 : wr.cell? ⟨BT, 4, none⟩ = some (.int .i64 x4) := blk_cell HT.out 4
            have cT5 : wr.cell? ⟨BT, 5, none⟩ = some (.int .i64 x5) := blk_cell HT.out 5
            go_wp2_with (first | fail)
            refine (ch_at _ HANS.out).mono ?_; rintro e w4 ⟨rfl, hg⟩
            clear cJ0 cJ1 cJ2 cJ3 cJ4 cJ5 cJ6 cT0 cT1 cT2 cT3 cT4 cT5
            have HGn := hide (grownBy_trans HG.out hg)
            have HTn := hide (box_grown HT.out hg (by simp))
            have HJn := hide (box_grown HJ.out hg (by simp))
            clear HG HT HJ
            have HG := HGn
            have HT := HTn
            have HJ := HJn
            clear HGn HTn HJn
            clear hg
            go_upto_region 13 with (first | fail)
            have hg : w4.grownBy ((w4.alloc (.cells #[.int .i64 0, .int .i64 0, .int .i64 0, .int .i64 0, .int .i64 1, .int .i64 d, .int .i64 k] 23)).alloc (.cells #[.bool false, .bool false, .bool false] 27)) none := (grownBy_trans (grownBy_trans (grownBy_refl _ _) (World.grownBy_alloc _ _ none)) (World.grownBy_alloc _ _ none))
            have hA := heap_alloc_new w4 (.cells #[.int .i64 0, .int .i64 0, .int .i64 0, .int .i64 0, .int .i64 1, .int .i64 d, .int .i64 k] 23)
            have HAq := hide (hp_up hA (.cells #[.bool false, .bool false, .bool false] 27))
            clear hA
            have LA : Hid (w.heap.size ≤ w4.heap.size) := hide (by have := HG.out.size; omega)
            have hV : ((w4.alloc (.cells #[.int .i64 0, .int .i64 0, .int .i64 0, .int .i64 0, .int .i64 1, .int .i64 d, .int .i64 k] 23)).alloc (.cells #[.bool false, .bool false, .bool false] 27)).heap[w4.heap.size + 1]? = some (.cells #[.bool false, .bool false, .bool false] 27) := by have h := heap_alloc_new (w4.alloc (.cells #[.int .i64 0, .int .i64 0, .int .i64 0, .int .i64 0, .int .i64 1, .int .i64 d, .int .i64 k] 23)) (.cells #[.bool false, .bool false, .bool false] 27); rwa [show (w4.alloc (.cells #[.int .i64 0, .int .i64 0, .int .i64 0, .int .i64 0, .int .i64 1, .int .i64 d, .int .i64 k] 23)).heap.size = w4.heap.size + 1 by simp] at h
            have HVq := hide hV
            clear hV
            have LV : Hid (w.heap.size ≤ w4.heap.size + 1) := hide (by have := HG.out.size; omega)
            have NAJ : Hid (BJ < w4.heap.size) := hide (by have := box_lt HJ.out; omega)
            have NVJ : Hid (BJ < w4.heap.size + 1) := hide (by have := box_lt HJ.out; omega)
            have HGn := hide (grownBy_trans HG.out hg)
            have HTn := hide (box_grown HT.out hg (by simp))
            have HJn := hide (box_grown HJ.out hg (by simp))
            clear HG HT HJ
            have HG := HGn
            have HT := HTn
            have HJ := HJn
            clear HGn HTn HJn
            clear hg
            have HA := HAq
            clear HAq
            have HV := HVq
            clear HVq
            have HOA : Hid (w4.heap.size < w4.heap.size + 1) := hide (by omega)
            generalize hWx : ((w4.alloc (.cells #[.int .i64 0, .int .i64 0, .int .i64 0, .int .i64 0, .int .i64 1, .int .i64 d, .int .i64 k] 23)).alloc (.cells #[.bool false, .bool false, .bool false] 27)) = w5 at *
            clear hWx
            generalize hBx : w4.heap.size + 1 = BV at *
            clear hBx
            generalize hBx : w4.heap.size = BA at *
            clear hBx
            have cA6 : w5.cell? ⟨BA, 6, none⟩ = some (.int .i64 k) := blk_cell HA.out 6
            have cV0 : w5.cell? ⟨BV, 0, none⟩ = some (.bool false) := blk_cell HV.out 0
            have cV1 : w5.cell? ⟨BV, 1, none⟩ = some (.bool false) := blk_cell HV.out 1
            have cV2 : w5.cell? ⟨BV, 2, none⟩ = some (.bool false) := blk_cell HV.out 2
            have cT3 : w5.cell? ⟨BT, 3, none⟩ = some (.int .i64 x3) := blk_cell HT.out 3
            go_upto_region 19 with (first | (go_at_call 9; refine (NUM.out _ _).mono ?_; rintro e wn ⟨rfl, rfl⟩) | fail)
            clear cA6 cV0 cV1 cV2 cT3
            have cA0 : w5.cell? ⟨BA, 0, none⟩ = some (.int .i64 0) := blk_cell HA.out 0
            have cA1 : w5.cell? ⟨BA, 1, none⟩ = some (.int .i64 0) := blk_cell HA.out 1
            have cA2 : w5.cell? ⟨BA, 2, none⟩ = some (.int .i64 0) := blk_cell HA.out 2
            have cA3 : w5.cell? ⟨BA, 3, none⟩ = some (.int .i64 0) := blk_cell HA.out 3
            have cA4 : w5.cell? ⟨BA, 4, none⟩ = some (.int .i64 1) := blk_cell HA.out 4
            have cA5 : w5.cell? ⟨BA, 5, none⟩ = some (.int .i64 d) := blk_cell HA.out 5
            have cA6 : w5.cell? ⟨BA, 6, none⟩ = some (.int .i64 k) := blk_cell HA.out 6
            go_wp2_with (first | ((with_reducible refine list_store 23 (.tmp 10) (.tmp 102) BJ #[.int .i64 0, .int .i64 0, .int .i64 0, .int .i64 0, .int .i64 1, .int .i64 d, .int .i64 k] 23 #[.int .i64 0, .int .i64 0, .int .i64 0, .int .i64 0, .int .i64 1, .int .i64 d, .int .i64 u] ?hx ?hy ?hg ?hi ?ho ?h1 ?_); (case hx => rfl); (case hy => rfl); (case hg => exact HJ.out); (case hi => exact sizeJ); (case ho => rfl); (case h1 => simp [Value.oneCell']); intro w8 h1 e1 g1; have HTn := hide ((e1 BT (by have := NJT.out; omega)).trans HT.out); have HJn := hide h1; have HGn := hide (grown_spoil HG.out LJ.out g1); clear h1 e1 g1 HG HJ HT) | fail)
            go_roundw
            case rel => exact ⟨k, k + 1, by go_num, by omega, by omega, hide rfl, hide (fun _ => by omega), hide (fun h => by cases h), HJn, HTn, HGn⟩
            case measure => simp [intOf]; omega
      · have eD : (k == d) = true := beq_iff_eq.2 (by omega)
        have eL : decide (k < d) = false := decide_eq_false hlt
        have HD : Hid (decide (k = d) = true) := hide eD
        have hkd2 : d ≤ k := by omega
        by_cases hE : k = x4
        · have eE : (k == x4) = true := beq_iff_eq.2 hE
          have HE : Hid ((decide (k = x4) && decide (k < d)) = false) := hide (by rw [decide_eq_true hE, decide_eq_false hlt]; rfl)
          have hmn : x4 ≤ k := by omega
          clear hE
          by_cases h3 : k = x3
          · have e3 : (k == x3) = true := beq_iff_eq.2 h3
            have H3 : Hid ((decide (k = x3) && decide (k < d)) = false) := hide (by rw [decide_eq_true h3, decide_eq_false hlt]; rfl)
            clear h3
            have HANS := hide (run_hi (o := false) (dn := true) (kl := false) HM.out hd1 hd2 hu0 hud HU.out H3.out HD.out HE.out)
            have cJ0 : wr.cell? ⟨BJ, 0, none⟩ = some (.int .i64 0) := blk_cell HJ.out 0
            have cJ1 : wr.cell? ⟨BJ, 1, none⟩ = some (.int .i64 0) := blk_cell HJ.out 1
            have cJ2 : wr.cell? ⟨BJ, 2, none⟩ = some (.int .i64 0) := blk_cell HJ.out 2
            have cJ3 : wr.cell? ⟨BJ, 3, none⟩ = some (.int .i64 0) := blk_cell HJ.out 3
            have cJ4 : wr.cell? ⟨BJ, 4, none⟩ = some (.int .i64 1) := blk_cell HJ.out 4
            have cJ5 : wr.cell? ⟨BJ, 5, none⟩ = some (.int .i64 d) := blk_cell HJ.out 5
            have cJ6 : wr.cell? ⟨BJ, 6, none⟩ = some (.int .i64 u) := blk_cell HJ.out 6
            have cT0 : wr.cell? ⟨BT, 0, none⟩ = some (.int .i64 x0) := blk_cell HT.out 0
            have cT1 : wr.cell? ⟨BT, 1, none⟩ = some (.int .i64 x1) := blk_cell HT.out 1
            have cT2 : wr.cell? ⟨BT, 2, none⟩ = some (.int .i64 x2) := blk_cell HT.out 2
            have cT3 : wr.cell? ⟨BT, 3, none⟩ = some (.int .i64 x3) := blk_cell HT.out 3
            have cT4 : wr.cell? ⟨BT, 4, none⟩ = some (.int .i64 x4) := blk_cell HT.out 4
            have cT5 : wr.cell? ⟨BT, 5, none⟩ = some (.int .i64 x5) := blk_cell HT.out 5
            go_wp2_with (first | fail)
            refine (ch_at _ HANS.out).mono ?_; rintro e w4 ⟨rfl, hg⟩
            clear cJ0 cJ1 cJ2 cJ3 cJ4 cJ5 cJ6 cT0 cT1 cT2 cT3 cT4 cT5
            have HGn := hide (grownBy_trans HG.out hg)
            have HTn := hide (box_grown HT.out hg (by simp))
            have HJn := hide (box_grown HJ.out hg (by simp))
            clear HG HT HJ
            have HG := HGn
            have HT := HTn
            have HJ := HJn
            clear HGn HTn HJn
            clear hg
            go_upto_region 13 with (first | fail)
            have hg : w4.grownBy ((w4.alloc (.cells #[.int .i64 0, .int .i64 0, .int .i64 0, .int .i64 0, .int .i64 1, .int .i64 d, .int .i64 k] 23)).alloc (.cells #[.bool false, .bool true, .bool false] 27)) none := (grownBy_trans (grownBy_trans (grownBy_refl _ _) (World.grownBy_alloc _ _ none)) (World.grownBy_alloc _ _ none))
            have hA := heap_alloc_new w4 (.cells #[.int .i64 0, .int .i64 0, .int .i64 0, .int .i64 0, .int .i64 1, .int .i64 d, .int .i64 k] 23)
            have HAq := hide (hp_up hA (.cells #[.bool false, .bool true, .bool false] 27))
            clear hA
            have LA : Hid (w.heap.size ≤ w4.heap.size) := hide (by have := HG.out.size; omega)
            have hV : ((w4.alloc (.cells #[.int .i64 0, .int .i64 0, .int .i64 0, .int .i64 0, .int .i64 1, .int .i64 d, .int .i64 k] 23)).alloc (.cells #[.bool false, .bool true, .bool false] 27)).heap[w4.heap.size + 1]? = some (.cells #[.bool false, .bool true, .bool false] 27) := by have h := heap_alloc_new (w4.alloc (.cells #[.int .i64 0, .int .i64 0, .int .i64 0, .int .i64 0, .int .i64 1, .int .i64 d, .int .i64 k] 23)) (.cells #[.bool false, .bool true, .bool false] 27); rwa [show (w4.alloc (.cells #[.int .i64 0, .int .i64 0, .int .i64 0, .int .i64 0, .int .i64 1, .int .i64 d, .int .i64 k] 23)).heap.size = w4.heap.size + 1 by simp] at h
            have HVq := hide hV
            clear hV
            have LV : Hid (w.heap.size ≤ w4.heap.size + 1) := hide (by have := HG.out.size; omega)
            have NAJ : Hid (BJ < w4.heap.size) := hide (by have := box_lt HJ.out; omega)
            have NVJ : Hid (BJ < w4.heap.size + 1) := hide (by have := box_lt HJ.out; omega)
            have HGn := hide (grownBy_trans HG.out hg)
            have HTn := hide (box_grown HT.out hg (by simp))
            have HJn := hide (box_grown HJ.out hg (by simp))
            clear HG HT HJ
            have HG := HGn
            have HT := HTn
            have HJ := HJn
            clear HGn HTn HJn
            clear hg
            have HA := HAq
            clear HAq
            have HV := HVq
            clear HVq
            have HOA : Hid (w4.heap.size < w4.heap.size + 1) := hide (by omega)
            generalize hWx : ((w4.alloc (.cells #[.int .i64 0, .int .i64 0, .int .i64 0, .int .i64 0, .int .i64 1, .int .i64 d, .int .i64 k] 23)).alloc (.cells #[.bool false, .bool true, .bool false] 27)) = w5 at *
            clear hWx
            generalize hBx : w4.heap.size + 1 = BV at *
            clear hBx
            generalize hBx : w4.heap.size = BA at *
            clear hBx
            have cA6 : w5.cell? ⟨BA, 6, none⟩ = some (.int .i64 k) := blk_cell HA.out 6
            have cV0 : w5.cell? ⟨BV, 0, none⟩ = some (.bool false) := blk_cell HV.out 0
            have cV1 : w5.cell? ⟨BV, 1, none⟩ = some (.bool true) := blk_cell HV.out 1
            have cV2 : w5.cell? ⟨BV, 2, none⟩ = some (.bool false) := blk_cell HV.out 2
            have cT3 : w5.cell? ⟨BT, 3, none⟩ = some (.int .i64 x3) := blk_cell HT.out 3
            go_wp2_with (first | (go_at_call 9; refine (NUM.out _ _).mono ?_; rintro e wn ⟨rfl, rfl⟩) | fail)
            clear cA6 cV0 cV1 cV2 cT3
            go_ret
            exact ⟨rfl, HG.out⟩
          · have e3 : (k == x3) = false := beq_eq_false_iff_ne.2 h3
            have H3 : Hid ((decide (k = x3) && decide (k < d)) = false) := hide (by rw [decide_eq_false h3, decide_eq_false hlt]; rfl)
            clear h3
            have HANS := hide (run_hi (o := false) (dn := true) (kl := false) HM.out hd1 hd2 hu0 hud HU.out H3.out HD.out HE.out)
            have cJ0 : wr.cell? ⟨BJ, 0, none⟩ = some (.int .i64 0) := blk_cell HJ.out 0
            have cJ1 : wr.cell? ⟨BJ, 1, none⟩ = some (.int .i64 0) := blk_cell HJ.out 1
            have cJ2 : wr.cell? ⟨BJ, 2, none⟩ = some (.int .i64 0) := blk_cell HJ.out 2
            have cJ3 : wr.cell? ⟨BJ, 3, none⟩ = some (.int .i64 0) := blk_cell HJ.out 3
            have cJ4 : wr.cell? ⟨BJ, 4, none⟩ = some (.int .i64 1) := blk_cell HJ.out 4
            have cJ5 : wr.cell? ⟨BJ, 5, none⟩ = some (.int .i64 d) := blk_cell HJ.out 5
            have cJ6 : wr.cell? ⟨BJ, 6, none⟩ = some (.int .i64 u) := blk_cell HJ.out 6
            have cT0 : wr.cell? ⟨BT, 0, none⟩ = some (.int .i64 x0) := blk_cell HT.out 0
            have cT1 : wr.cell? ⟨BT, 1, none⟩ = some (.int .i64 x1) := blk_cell HT.out 1
            have cT2 : wr.cell? ⟨BT, 2, none⟩ = some (.int .i64 x2) := blk_cell HT.out 2
            have cT3 : wr.cell? ⟨BT, 3, none⟩ = some (.int .i64 x3) := blk_cell HT.out 3
            have cT4 : wr.cell? ⟨BT, 4, none⟩ = some (.int .i64 x4) := blk_cell HT.out 4
            have cT5 : wr.cell? ⟨BT, 5, none⟩ = some (.int .i64 x5) := blk_cell HT.out 5
            go_wp2_with (first | fail)
            refine (ch_at _ HANS.out).mono ?_; rintro e w4 ⟨rfl, hg⟩
            clear cJ0 cJ1 cJ2 cJ3 cJ4 cJ5 cJ6 cT0 cT1 cT2 cT3 cT4 cT5
            have HGn := hide (grownBy_trans HG.out hg)
            have HTn := hide (box_grown HT.out hg (by simp))
            have HJn := hide (box_grown HJ.out hg (by simp))
            clear HG HT HJ
            have HG := HGn
            have HT := HTn
            have HJ := HJn
            clear HGn HTn HJn
            clear hg
            go_upto_region 13 with (first | fail)
            have hg : w4.grownBy ((w4.alloc (.cells #[.int .i64 0, .int .i64 0, .int .i64 0, .int .i64 0, .int .i64 1, .int .i64 d, .int .i64 k] 23)).alloc (.cells #[.bool false, .bool true, .bool false] 27)) none := (grownBy_trans (grownBy_trans (grownBy_refl _ _) (World.grownBy_alloc _ _ none)) (World.grownBy_alloc _ _ none))
            have hA := heap_alloc_new w4 (.cells #[.int .i64 0, .int .i64 0, .int .i64 0, .int .i64 0, .int .i64 1, .int .i64 d, .int .i64 k] 23)
            have HAq := hide (hp_up hA (.cells #[.bool false, .bool true, .bool false] 27))
            clear hA
            have LA : Hid (w.heap.size ≤ w4.heap.size) := hide (by have := HG.out.size; omega)
            have hV : ((w4.alloc (.cells #[.int .i64 0, .int .i64 0, .int .i64 0, .int .i64 0, .int .i64 1, .int .i64 d, .int .i64 k] 23)).alloc (.cells #[.bool false, .bool true, .bool false] 27)).heap[w4.heap.size + 1]? = some (.cells #[.bool false, .bool true, .bool false] 27) := by have h := heap_alloc_new (w4.alloc (.cells #[.int .i64 0, .int .i64 0, .int .i64 0, .int .i64 0, .int .i64 1, .int .i64 d, .int .i64 k] 23)) (.cells #[.bool false, .bool true, .bool false] 27); rwa [show (w4.alloc (.cells #[.int .i64 0, .int .i64 0, .int .i64 0, .int .i64 0, .int .i64 1, .int .i64 d, .int .i64 k] 23)).heap.size = w4.heap.size + 1 by simp] at h
            have HVq := hide hV
            clear hV
            have LV : Hid (w.heap.size ≤ w4.heap.size + 1) := hide (by have := HG.out.size; omega)
            have NAJ : Hid (BJ < w4.heap.size) := hide (by have := box_lt HJ.out; omega)
            have NVJ : Hid (BJ < w4.heap.size + 1) := hide (by have := box_lt HJ.out; omega)
            have HGn := hide (grownBy_trans HG.out hg)
            have HTn := hide (box_grown HT.out hg (by simp))
            have HJn := hide (box_grown HJ.out hg (by simp))
            clear HG HT HJ
            have HG := HGn
            have HT := HTn
            have HJ := HJn
            clear HGn HTn HJn
            clear hg
            have HA := HAq
            clear HAq
            have HV := HVq
            clear HVq
            have HOA : Hid (w4.heap.size < w4.heap.size + 1) := hide (by omega)
            generalize hWx : ((w4.alloc (.cells #[.int .i64 0, .int .i64 0, .int .i64 0, .int .i64 0, .int .i64 1, .int .i64 d, .int .i64 k] 23)).alloc (.cells #[.bool false, .bool true, .bool false] 27)) = w5 at *
            clear hWx
            generalize hBx : w4.heap.size + 1 = BV at *
            clear hBx
            generalize hBx : w4.heap.size = BA at *
            clear hBx
            have cA6 : w5.cell? ⟨BA, 6, none⟩ = some (.int .i64 k) := blk_cell HA.out 6
            have cV0 : w5.cell? ⟨BV, 0, none⟩ = some (.bool false) := blk_cell HV.out 0
            have cV1 : w5.cell? ⟨BV, 1, none⟩ = some (.bool true) := blk_cell HV.out 1
            have cV2 : w5.cell? ⟨BV, 2, none⟩ = some (.bool false) := blk_cell HV.out 2
            have cT3 : w5.cell? ⟨BT, 3, none⟩ = some (.int .i64 x3) := blk_cell HT.out 3
            go_wp2_with (first | (go_at_call 9; refine (NUM.out _ _).mono ?_; rintro e wn ⟨rfl, rfl⟩) | fail)
            clear cA6 cV0 cV1 cV2 cT3
            go_ret
            exact ⟨rfl, HG.out⟩
        · have eE : (k == x4) = false := beq_eq_false_iff_ne.2 hE
          have HE : Hid ((decide (k = x4) && decide (k < d)) = false) := hide (by rw [decide_eq_false hE, decide_eq_false hlt]; rfl)
          have hmn : k < x4 := by omega
          clear hE
          by_cases h3 : k = x3
          · have e3 : (k == x3) = true := beq_iff_eq.2 h3
            have H3 : Hid ((decide (k = x3) && decide (k < d)) = false) := hide (by rw [decide_eq_true h3, decide_eq_false hlt]; rfl)
            clear h3
            have HANS := hide (run_hi (o := false) (dn := true) (kl := false) HM.out hd1 hd2 hu0 hud HU.out H3.out HD.out HE.out)
            have cJ0 : wr.cell? ⟨BJ, 0, none⟩ = some (.int .i64 0) := blk_cell HJ.out 0
            have cJ1 : wr.cell? ⟨BJ, 1, none⟩ = some (.int .i64 0) := blk_cell HJ.out 1
            have cJ2 : wr.cell? ⟨BJ, 2, none⟩ = some (.int .i64 0) := blk_cell HJ.out 2
            have cJ3 : wr.cell? ⟨BJ, 3, none⟩ = some (.int .i64 0) := blk_cell HJ.out 3
            have cJ4 : wr.cell? ⟨BJ, 4, none⟩ = some (.int .i64 1) := blk_cell HJ.out 4
            have cJ5 : wr.cell? ⟨BJ, 5, none⟩ = some (.int .i64 d) := blk_cell HJ.out 5
            have cJ6 : wr.cell? ⟨BJ, 6, none⟩ = some (.int .i64 u) := blk_cell HJ.out 6
            have cT0 : wr.cell? ⟨BT, 0, none⟩ = some (.int .i64 x0) := blk_cell HT.out 0
            have cT1 : wr.cell? ⟨BT, 1, none⟩ = some (.int .i64 x1) := blk_cell HT.out 1
            have cT2 : wr.cell? ⟨BT, 2, none⟩ = some (.int .i64 x2) := blk_cell HT.out 2
            have cT3 : wr.cell? ⟨BT, 3, none⟩ = some (.int .i64 x3) := blk_cell HT.out 3
            have cT4 : wr.cell? ⟨BT, 4, none⟩ = some (.int .i64 x4) := blk_cell HT.out 4
            have cT5 : wr.cell? ⟨BT, 5, none⟩ = some (.int .i64 x5) := blk_cell HT.out 5
            go_wp2_with (first | fail)
            refine (ch_at _ HANS.out).mono ?_; rintro e w4 ⟨rfl, hg⟩
            clear cJ0 cJ1 cJ2 cJ3 cJ4 cJ5 cJ6 cT0 cT1 cT2 cT3 cT4 cT5
            have HGn := hide (grownBy_trans HG.out hg)
            have HTn := hide (box_grown HT.out hg (by simp))
            have HJn := hide (box_grown HJ.out hg (by simp))
            clear HG HT HJ
            have HG := HGn
            have HT := HTn
            have HJ := HJn
            clear HGn HTn HJn
            clear hg
            go_upto_region 13 with (first | fail)
            have hg : w4.grownBy ((w4.alloc (.cells #[.int .i64 0, .int .i64 0, .int .i64 0, .int .i64 0, .int .i64 1, .int .i64 d, .int .i64 k] 23)).alloc (.cells #[.bool false, .bool true, .bool false] 27)) none := (grownBy_trans (grownBy_trans (grownBy_refl _ _) (World.grownBy_alloc _ _ none)) (World.grownBy_alloc _ _ none))
            have hA := heap_alloc_new w4 (.cells #[.int .i64 0, .int .i64 0, .int .i64 0, .int .i64 0, .int .i64 1, .int .i64 d, .int .i64 k] 23)
            have HAq := hide (hp_up hA (.cells #[.bool false, .bool true, .bool false] 27))
            clear hA
            have LA : Hid (w.heap.size ≤ w4.heap.size) := hide (by have := HG.out.size; omega)
            have hV : ((w4.alloc (.cells #[.int .i64 0, .int .i64 0, .int .i64 0, .int .i64 0, .int .i64 1, .int .i64 d, .int .i64 k] 23)).alloc (.cells #[.bool false, .bool true, .bool false] 27)).heap[w4.heap.size + 1]? = some (.cells #[.bool false, .bool true, .bool false] 27) := by have h := heap_alloc_new (w4.alloc (.cells #[.int .i64 0, .int .i64 0, .int .i64 0, .int .i64 0, .int .i64 1, .int .i64 d, .int .i64 k] 23)) (.cells #[.bool false, .bool true, .bool false] 27); rwa [show (w4.alloc (.cells #[.int .i64 0, .int .i64 0, .int .i64 0, .int .i64 0, .int .i64 1, .int .i64 d, .int .i64 k] 23)).heap.size = w4.heap.size + 1 by simp] at h
            have HVq := hide hV
            clear hV
            have LV : Hid (w.heap.size ≤ w4.heap.size + 1) := hide (by have := HG.out.size; omega)
            have NAJ : Hid (BJ < w4.heap.size) := hide (by have := box_lt HJ.out; omega)
            have NVJ : Hid (BJ < w4.heap.size + 1) := hide (by have := box_lt HJ.out; omega)
            have HGn := hide (grownBy_trans HG.out hg)
            have HTn := hide (box_grown HT.out hg (by simp))
            have HJn := hide (box_grown HJ.out hg (by simp))
            clear HG HT HJ
            have HG := HGn
            have HT := HTn
            have HJ := HJn
            clear HGn HTn HJn
            clear hg
            have HA := HAq
            clear HAq
            have HV := HVq
            clear HVq
            have HOA : Hid (w4.heap.size < w4.heap.size + 1) := hide (by omega)
            generalize hWx : ((w4.alloc (.cells #[.int .i64 0, .int .i64 0, .int .i64 0, .int .i64 0, .int .i64 1, .int .i64 d, .int .i64 k] 23)).alloc (.cells #[.bool false, .bool true, .bool false] 27)) = w5 at *
            clear hWx
            generalize hBx : w4.heap.size + 1 = BV at *
            clear hBx
            generalize hBx : w4.heap.size = BA at *
            clear hBx
            have cA6 : w5.cell? ⟨BA, 6, none⟩ = some (.int .i64 k) := blk_cell HA.out 6
            have cV0 : w5.cell? ⟨BV, 0, none⟩ = some (.bool false) := blk_cell HV.out 0
            have cV1 : w5.cell? ⟨BV, 1, none⟩ = some (.bool true) := blk_cell HV.out 1
            have cV2 : w5.cell? ⟨BV, 2, none⟩ = some (.bool false) := blk_cell HV.out 2
            have cT3 : w5.cell? ⟨BT, 3, none⟩ = some (.int .i64 x3) := blk_cell HT.out 3
            go_wp2_with (first | (go_at_call 9; refine (NUM.out _ _).mono ?_; rintro e wn ⟨rfl, rfl⟩) | fail)
            clear cA6 cV0 cV1 cV2 cT3
            go_ret
            exact ⟨rfl, HG.out⟩
          · have e3 : (k == x3) = false := beq_eq_false_iff_ne.2 h3
            have H3 : Hid ((decide (k = x3) && decide (k < d)) = false) := hide (by rw [decide_eq_false h3, decide_eq_false hlt]; rfl)
            clear h3
            have HANS := hide (run_hi (o := false) (dn := true) (kl := false) HM.out hd1 hd2 hu0 hud HU.out H3.out HD.out HE.out)
            have cJ0 : wr.cell? ⟨BJ, 0, none⟩ = some (.int .i64 0) := blk_cell HJ.out 0
            have cJ1 : wr.cell? ⟨BJ, 1, none⟩ = some (.int .i64 0) := blk_cell HJ.out 1
            have cJ2 : wr.cell? ⟨BJ, 2, none⟩ = some (.int .i64 0) := blk_cell HJ.out 2
            have cJ3 : wr.cell? ⟨BJ, 3, none⟩ = some (.int .i64 0) := blk_cell HJ.out 3
            have cJ4 : wr.cell? ⟨BJ, 4, none⟩ = some (.int .i64 1) := blk_cell HJ.out 4
            have cJ5 : wr.cell? ⟨BJ, 5, none⟩ = some (.int .i64 d) := blk_cell HJ.out 5
            have cJ6 : wr.cell? ⟨BJ, 6, none⟩ = some (.int .i64 u) := blk_cell HJ.out 6
            have cT0 : wr.cell? ⟨BT, 0, none⟩ = some (.int .i64 x0) := blk_cell HT.out 0
            have cT1 : wr.cell? ⟨BT, 1, none⟩ = some (.int .i64 x1) := blk_cell HT.out 1
            have cT2 : wr.cell? ⟨BT, 2, none⟩ = some (.int .i64 x2) := blk_cell HT.out 2
            have cT3 : wr.cell? ⟨BT, 3, none⟩ = some (.int .i64 x3) := blk_cell HT.out 3
            have cT4 : wr.cell? ⟨BT, 4, none⟩ = some (.int .i64 x4) := blk_cell HT.out 4
            have cT5 : wr.cell? ⟨BT, 5, none⟩ = some (.int .i64 x5) := blk_cell HT.out 5
            go_wp2_with (first | fail)
            refine (ch_at _ HANS.out).mono ?_; rintro e w4 ⟨rfl, hg⟩
            clear cJ0 cJ1 cJ2 cJ3 cJ4 cJ5 cJ6 cT0 cT1 cT2 cT3 cT4 cT5
            have HGn := hide (grownBy_trans HG.out hg)
            have HTn := hide (box_grown HT.out hg (by simp))
            have HJn := hide (box_grown HJ.out hg (by simp))
            clear HG HT HJ
            have HG := HGn
            have HT := HTn
            have HJ := HJn
            clear HGn HTn HJn
            clear hg
            go_upto_region 13 with (first | fail)
            have hg : w4.grownBy ((w4.alloc (.cells #[.int .i64 0, .int .i64 0, .int .i64 0, .int .i64 0, .int .i64 1, .int .i64 d, .int .i64 k] 23)).alloc (.cells #[.bool false, .bool true, .bool false] 27)) none := (grownBy_trans (grownBy_trans (grownBy_refl _ _) (World.grownBy_alloc _ _ none)) (World.grownBy_alloc _ _ none))
            have hA := heap_alloc_new w4 (.cells #[.int .i64 0, .int .i64 0, .int .i64 0, .int .i64 0, .int .i64 1, .int .i64 d, .int .i64 k] 23)
            have HAq := hide (hp_up hA (.cells #[.bool false, .bool true, .bool false] 27))
            clear hA
            have LA : Hid (w.heap.size ≤ w4.heap.size) := hide (by have := HG.out.size; omega)
            have hV : ((w4.alloc (.cells #[.int .i64 0, .int .i64 0, .int .i64 0, .int .i64 0, .int .i64 1, .int .i64 d, .int .i64 k] 23)).alloc (.cells #[.bool false, .bool true, .bool false] 27)).heap[w4.heap.size + 1]? = some (.cells #[.bool false, .bool true, .bool false] 27) := by have h := heap_alloc_new (w4.alloc (.cells #[.int .i64 0, .int .i64 0, .int .i64 0, .int .i64 0, .int .i64 1, .int .i64 d, .int .i64 k] 23)) (.cells #[.bool false, .bool true, .bool false] 27); rwa [show (w4.alloc (.cells #[.int .i64 0, .int .i64 0, .int .i64 0, .int .i64 0, .int .i64 1, .int .i64 d, .int .i64 k] 23)).heap.size = w4.heap.size + 1 by simp] at h
            have HVq := hide hV
            clear hV
            have LV : Hid (w.heap.size ≤ w4.heap.size + 1) := hide (by have := HG.out.size; omega)
            have NAJ : Hid (BJ < w4.heap.size) := hide (by have := box_lt HJ.out; omega)
            have NVJ : Hid (BJ < w4.heap.size + 1) := hide (by have := box_lt HJ.out; omega)
            have HGn := hide (grownBy_trans HG.out hg)
            have HTn := hide (box_grown HT.out hg (by simp))
            have HJn := hide (box_grown HJ.out hg (by simp))
            clear HG HT HJ
            have HG := HGn
            have HT := HTn
            have HJ := HJn
            clear HGn HTn HJn
            clear hg
            have HA := HAq
            clear HAq
            have HV := HVq
            clear HVq
            have HOA : Hid (w4.heap.size < w4.heap.size + 1) := hide (by omega)
            generalize hWx : ((w4.alloc (.cells #[.int .i64 0, .int .i64 0, .int .i64 0, .int .i64 0, .int .i64 1, .int .i64 d, .int .i64 k] 23)).alloc (.cells #[.bool false, .bool true, .bool false] 27)) = w5 at *
            clear hWx
            generalize hBx : w4.heap.size + 1 = BV at *
            clear hBx
            generalize hBx : w4.heap.size = BA at *
            clear hBx
            have cA6 : w5.cell? ⟨BA, 6, none⟩ = some (.int .i64 k) := blk_cell HA.out 6
            have cV0 : w5.cell? ⟨BV, 0, none⟩ = some (.bool false) := blk_cell HV.out 0
            have cV1 : w5.cell? ⟨BV, 1, none⟩ = some (.bool true) := blk_cell HV.out 1
            have cV2 : w5.cell? ⟨BV, 2, none⟩ = some (.bool false) := blk_cell HV.out 2
            have cT3 : w5.cell? ⟨BT, 3, none⟩ = some (.int .i64 x3) := blk_cell HT.out 3
            go_wp2_with (first | (go_at_call 9; refine (NUM.out _ _).mono ?_; rintro e wn ⟨rfl, rfl⟩) | fail)
            clear cA6 cV0 cV1 cV2 cT3
            go_ret
            exact ⟨rfl, HG.out⟩
#print axioms runHigh
end Go.Proofs.Ytabnkmghgkmbmaa
