/- The walk of the statement Tasks: any task, turns, tick: every call, and what is handed in stays; proved over the translation. -/
import Derived.Test.YtephnppanbckkaaRefLaw
namespace Go.Proofs.Ytephnppanbckkaa
open Go.RowKit
attribute [local go_sem] alloc_drewN setCell_drewN

set_option maxRecDepth 100000 in
set_option maxHeartbeats 40000000 in
theorem tasks_from (t : TaskV) (L : Int) (a : Option Addr) (n cap : Nat) (zs : List Int) (dem now : Int) (w w0 : World) (hg0 : w.grownBy w0 none) (hv : RowAt shN 0 w (.slice a n cap) zs) (hz : n ≤ 17592186043904) : Calls Try.prog 3 #[taskVal t, .agg #[.int .i64 L, .slice a n cap], .int .i64 dem, .int .i64 now] w0 fun e w' => e = .returned (.bool true) ∧ w.grownBy w' none := by
  have hn : zs.length = n := by obtain ⟨-, a2, c2, e, -⟩ := hv; simp only [Value.slice.injEq] at e; exact e.2.1.symm
  obtain ⟨⟨PL, PZ⟩, hP⟩ : ∃ P, pickS t ⟨L, zs⟩ dem = P := ⟨_, rfl⟩
  obtain ⟨E, hE⟩ : ∃ E, pickE t ⟨L, zs⟩ dem = E := ⟨_, rfl⟩
  obtain ⟨M, hM⟩ : ∃ M, PZ.length = M := ⟨_, rfl⟩
  obtain ⟨⟨AL, AZ⟩, hA⟩ : ∃ A, relS t ⟨L, zs⟩ now = A := ⟨_, rfl⟩
  obtain ⟨D, hD⟩ : ∃ D, relD t ⟨L, zs⟩ now = D := ⟨_, rfl⟩
  obtain ⟨B, hB⟩ : ∃ B, isB t ⟨L, zs⟩ now = B := ⟨_, rfl⟩
  obtain ⟨M2, hM2⟩ : ∃ M, AZ.length = M := ⟨_, rfl⟩
  obtain ⟨LQ, hLQ⟩ : ∃ b, lateB t ⟨L, zs⟩ now = b := ⟨_, rfl⟩
  obtain ⟨TM, hTM⟩ : ∃ b, taskMay t = b := ⟨_, rfl⟩
  have CP := hide (fun (lo : Nat) v W (h : RowAt shN lo W v zs) => pick_at W h hP hE hM)
  have CRP := hide (fun (lo : Nat) v W (h : RowAt shN lo W v zs) => rpick_at W h hP hE hM)
  have CR := hide (fun (lo : Nat) v W (h : RowAt shN lo W v zs) => rel_at W h hA hD hB hM2)
  have CRR := hide (fun (lo : Nat) v W (h : RowAt shN lo W v zs) => rrel_at W h hA hD hB hM2)
  have CL := hide (fun (lo : Nat) (u : Option Addr) (k c : Nat) W (h : RowAt shN lo W (.slice u k c) zs) => late_at W h hLQ)
  have CRL := hide (fun (lo : Nat) (u : Option Addr) (k c : Nat) W (h : RowAt shN lo W (.slice u k c) zs) => rlate_at W h hLQ)
  have CM := hide (fun W => may_at (t := t) W hTM)
  have CRM := hide (fun W => rmayT_at (t := t) W hTM)
  have RV0 := hide (fun W (hg : w.grownBy W none) => hv.grown hg)
  have HNAT := hide hn
  have HM := hide hM
  have HM2 := hide hM2
  have NUM := hide num_to
  have HG0 := hide hg0
  clear hg0 hv hn hP hE hM hA hD hB hM2 hLQ hTM
  obtain ⟨x0, x1, x2, x3, x4, x5⟩ := t
  go_enter Try.func3, Try.ntmps3
  go_upto_region 1 with (first | fail)
  have HG := hide (grownBy_trans HG0.out (grownBy_trans (World.grownBy_alloc w0 (.cells #[.int .i64 x0, .int .i64 x1, .int .i64 x2, .int .i64 x3, .int .i64 x4, .int .i64 x5] 23) none) (World.grownBy_alloc _ (.cells #[.int .i64 L, .slice a n cap] 26) none)))
  have HT := hide (hp_up (heap_alloc_new w0 (.cells #[.int .i64 x0, .int .i64 x1, .int .i64 x2, .int .i64 x3, .int .i64 x4, .int .i64 x5] 23)) (.cells #[.int .i64 L, .slice a n cap] 26))
  have HS := hide (alloc_next w0 (.cells #[.int .i64 x0, .int .i64 x1, .int .i64 x2, .int .i64 x3, .int .i64 x4, .int .i64 x5] 23) (.cells #[.int .i64 L, .slice a n cap] 26))
  generalize hWx : (w0.alloc (.cells #[.int .i64 x0, .int .i64 x1, .int .i64 x2, .int .i64 x3, .int .i64 x4, .int .i64 x5] 23)).alloc (.cells #[.int .i64 L, .slice a n cap] 26) = w1 at *
  clear hWx HG0
  have NTS : Hid (w0.heap.size < w0.heap.size + 1) := hide (Nat.lt_succ_self _)
  generalize hBx : w0.heap.size + 1 = BS at *
  clear hBx
  generalize hBx : w0.heap.size = BT at *
  clear hBx
  go_cut [9] (fun p wx => ∃ X g cx, p = .pointer (some ⟨X, 0, none⟩) ∧ Hid (n + 2 ≤ cx) ∧ Hid (wx.heap[X]? = some (.cells #[.int .i64 L, .slice (some ⟨g, 0, none⟩) n cx] 26 (0, 0))) ∧ Hid (RowAt shN 0 wx (.slice (some ⟨g, 0, none⟩) (n + 2) cx) (zs ++ Nn.mark)) ∧ Hid (w.grownBy wx none) ∧ Hid (wx.heap[BT]? = some (.cells #[.int .i64 x0, .int .i64 x1, .int .i64 x2, .int .i64 x3, .int .i64 x4, .int .i64 x5] 23 (0, 0))) ∧ Hid (wx.heap[BS]? = some (.cells #[.int .i64 L, .slice a n cap] 26 (0, 0))))
  case first =>
    refine wp_region_held_drew (S := fun W => W.heap[BS]? = some (.cells #[.int .i64 L, .slice a n cap] 26 (0, 0))) (by kernel_rfl) HS.out (fun hHeld => ?_)
    have HGn : Hid (w.grownBy w1.drew none) := hide (grownBy_trans HG.out (grownBy_draws w1 1 none))
    have HTn : Hid (w1.drew.heap[BT]? = some (.cells #[.int .i64 x0, .int .i64 x1, .int .i64 x2, .int .i64 x3, .int .i64 x4, .int .i64 x5] 23 (0, 0))) := hide HT.out
    have HSn : Hid (w1.drew.heap[BS]? = some (.cells #[.int .i64 L, .slice a n cap] 26 (0, 0))) := hide HS.out
    clear HG HT HS
    generalize w1.drew = W at *
    have HG := HGn
    have HT := HTn
    have HS := HSn
    clear HGn HTn HSn
    refine take_put (i := 0) (v := .pointer (some ⟨BS, 0, none⟩)) 20 rfl rfl (by kernel_rfl) (by kernel_rfl) (by kernel_rfl) (fun _ _ _ h => h) (Or.inl ⟨by rfl, by intro Wy hSW; go_simp⟩) (by assumption) ?_
    (try simp only [Act.put, List.setIfInBounds_toArray, List.set_cons_zero, List.set_cons_succ])
    refine take_put (i := 1) (v := .int .i64 L) 21 rfl rfl (by kernel_rfl) (by kernel_rfl) (by kernel_rfl) (fun _ _ _ h => h) (Or.inl ⟨by rfl, by intro Wy hSW; have hc := blk_cell hSW 0; go_simp⟩) (by assumption) ?_
    (try simp only [Act.put, List.setIfInBounds_toArray, List.set_cons_zero, List.set_cons_succ])
    refine take_put (i := 2) (v := .pointer (some ⟨BS, 1, none⟩)) 22 rfl rfl (by kernel_rfl) (by kernel_rfl) (by kernel_rfl) (fun _ _ _ h => h) (Or.inl ⟨by rfl, by intro Wy hSW; go_simp⟩) (by assumption) ?_
    (try simp only [Act.put, List.setIfInBounds_toArray, List.set_cons_zero, List.set_cons_succ])
    refine take_put (i := 3) (v := .slice a n cap) 23 rfl rfl (by kernel_rfl) (by kernel_rfl) (by kernel_rfl) (fun _ _ _ h => h) (Or.inl ⟨by rfl, by intro Wy hSW; have hc := blk_cell hSW 1; go_simp⟩) (by assumption) ?_
    (try simp only [Act.put, List.setIfInBounds_toArray, List.set_cons_zero, List.set_cons_succ])
    refine wpAnyH_ready (rs := [4, 6]) (by kernel_rfl) (by simp) ?_
    refine AllReadyH.cons rfl (fun Kx hKx => ?_) (AllReadyH.cons rfl (fun Kx hKx => ?_) AllReadyH.nil)
    · skip
      go_simp
      refine (lend_at (.slice a n cap) zs HNAT.out hz _ (RV0.out _ HG.out)).mono ?_; rintro e W1 ⟨g, cx, rfl, hcx, hr, hg⟩
      have HGn := hide (grownBy_trans HG.out hg)
      have HTn := hide (box_grown HT.out hg (by simp))
      have HSn := hide (box_grown HS.out hg (by simp))
      clear HG HT HS
      have HG := HGn
      have HT := HTn
      have HS := HSn
      clear HGn HTn HSn
      have HRL := hide hr
      have HCX := hide hcx
      clear hr hcx hg hHeld
      refine hKx.out _ _ HS.out (fun hHeld => ?_)
      clear hKx Kx
      (try simp only [Act.put])
      refine take_put (i := 5) (v := .agg #[.int .i64 L, .slice (some ⟨g, 0, none⟩) n cx]) 25 rfl rfl (by kernel_rfl) (by kernel_rfl) (by kernel_rfl) (fun _ _ _ h => h) (Or.inl ⟨by rfl, by intro Wy hSW; go_simp⟩) (by assumption) ?_
      (try simp only [Act.put, List.setIfInBounds_toArray, List.set_cons_zero, List.set_cons_succ])
      refine wpAnyH_ready (rs := [6]) (by kernel_rfl) (by simp) ?_
      refine AllReadyH.cons rfl (fun Kx hKx => ?_) AllReadyH.nil
      go_simp
      have hg := World.grownBy_alloc W1 (.cells #[.int .i64 0, .slice none 0 0] 26) none
      have HXq := hide (heap_alloc_new W1 (.cells #[.int .i64 0, .slice none 0 0] 26))
      have NX : Hid (w.heap.size ≤ W1.heap.size) := hide HG.out.size
      have NXT := hide (box_lt HT.out)
      have NXS := hide (box_lt HS.out)
      have HRF := hide (fun V (hg : W1.grownBy V none) => HRL.out.grown hg)
      have HG1 := hide hg
      clear HRL
      have HGn := hide (grownBy_trans HG.out hg)
      have HTn := hide (box_grown HT.out hg (by simp))
      have HSn := hide (box_grown HS.out hg (by simp))
      clear HG HT HS
      have HG := HGn
      have HT := HTn
      have HS := HSn
      clear HGn HTn HSn
      clear hg hHeld
      have HX := HXq
      clear HXq
      refine hKx.out _ _ HS.out (fun hHeld => ?_)
      clear hKx Kx
      (try simp only [Act.put])
      generalize W1.alloc (.cells #[.int .i64 0, .slice none 0 0] 26) = W2 at *
      generalize hXx : W1.heap.size = X at *
      have HXX := hide hXx
      clear hXx
      refine wpAnyH_ready (rs := [7]) (by kernel_rfl) (by simp) ?_
      refine AllReadyH.cons rfl (fun Kx hKx => ?_) AllReadyH.nil
      refine step_store 26 (.tmp 9) (.tmp 25) X #[.int .i64 L, .slice (some ⟨g, 0, none⟩) n cx] 26 #[.int .i64 0, .slice none 0 0] rfl rfl HX.out sizeU rfl (by simp [Value.oneCell']) ?_
      intro W3 h1 e1 g1
      have HGn := hide (grown_spoil HG.out NX.out g1)
      have HTn := hide ((e1 BT (by have := NXT.out; omega)).trans HT.out)
      have HSn := hide ((e1 BS (by have := NXS.out; omega)).trans HS.out)
      have HXn := hide (h1)
      have HG1n := hide (grown_spoil HG1.out (by rw [HXX.out]; exact Nat.le_refl _) g1)
      clear HG HT HS HX HG1
      have HG := HGn
      have HT := HTn
      have HS := HSn
      have HX := HXn
      have HG1 := HG1n
      clear HGn HTn HSn HXn HG1n
      clear hHeld h1 e1 g1
      refine hKx.out _ _ HS.out (fun hHeld => ?_)
      clear hKx Kx
      (try simp only [Act.put])
      refine wpAnyH_done (by kernel_rfl) ?_ _
      clear hHeld
      go_wp2
      go_meet
      case rel => exact ⟨X, g, cx, rfl, HCX, HX, hide ((HRF.out _ HG1.out).mono (Nat.zero_le _)), HG, HT, HS⟩
    · skip
      go_simp
      have hg := World.grownBy_alloc W (.cells #[.int .i64 0, .slice none 0 0] 26) none
      have HXq := hide (heap_alloc_new W (.cells #[.int .i64 0, .slice none 0 0] 26))
      have NX : Hid (w.heap.size ≤ W.heap.size) := hide HG.out.size
      have NXT := hide (box_lt HT.out)
      have NXS := hide (box_lt HS.out)
      have HGn := hide (grownBy_trans HG.out hg)
      have HTn := hide (box_grown HT.out hg (by simp))
      have HSn := hide (box_grown HS.out hg (by simp))
      clear HG HT HS
      have HG := HGn
      have HT := HTn
      have HS := HSn
      clear HGn HTn HSn
      clear hg hHeld
      have HX := HXq
      clear HXq
      refine hKx.out _ _ HS.out (fun hHeld => ?_)
      clear hKx Kx
      (try simp only [Act.put])
      generalize W.alloc (.cells #[.int .i64 0, .slice none 0 0] 26) = W4 at *
      generalize hXx : W.heap.size = X at *
      have HXX := hide hXx
      clear hXx
      refine wpAnyH_ready (rs := [4]) (by kernel_rfl) (by simp) ?_
      refine AllReadyH.cons rfl (fun Kx hKx => ?_) AllReadyH.nil
      go_simp
      refine (lend_at (.slice a n cap) zs HNAT.out hz _ (RV0.out _ HG.out)).mono ?_; rintro e W5 ⟨g, cx, rfl, hcx, hr, hg⟩
      have NXL := hide (box_lt HX.out)
      have HGn := hide (grownBy_trans HG.out hg)
      have HTn := hide (box_grown HT.out hg (by simp))
      have HSn := hide (box_grown HS.out hg (by simp))
      have HXn := hide (box_grown HX.out hg (by simp))
      clear HG HT HS HX
      have HG := HGn
      have HT := HTn
      have HS := HSn
      have HX := HXn
      clear HGn HTn HSn HXn
      have HRL := hide hr
      have HCX := hide hcx
      clear hr hcx hg hHeld
      refine hKx.out _ _ HS.out (fun hHeld => ?_)
      clear hKx Kx
      (try simp only [Act.put])
      refine take_put (i := 5) (v := .agg #[.int .i64 L, .slice (some ⟨g, 0, none⟩) n cx]) 25 rfl rfl (by kernel_rfl) (by kernel_rfl) (by kernel_rfl) (fun _ _ _ h => h) (Or.inl ⟨by rfl, by intro Wy hSW; go_simp⟩) (by assumption) ?_
      (try simp only [Act.put, List.setIfInBounds_toArray, List.set_cons_zero, List.set_cons_succ])
      refine wpAnyH_ready (rs := [7]) (by kernel_rfl) (by simp) ?_
      refine AllReadyH.cons rfl (fun Kx hKx => ?_) AllReadyH.nil
      refine step_store 26 (.tmp 9) (.tmp 25) X #[.int .i64 L, .slice (some ⟨g, 0, none⟩) n cx] 26 #[.int .i64 0, .slice none 0 0] rfl rfl HX.out sizeU rfl (by simp [Value.oneCell']) ?_
      intro W6 h1 e1 g1
      have HGn := hide (grown_spoil HG.out NX.out g1)
      have HTn := hide ((e1 BT (by have := NXT.out; omega)).trans HT.out)
      have HSn := hide ((e1 BS (by have := NXS.out; omega)).trans HS.out)
      have HXn := hide (h1)
      have HRLn := hide (HRL.out.off g1 NXL.out)
      clear HG HT HS HX HRL
      have HG := HGn
      have HT := HTn
      have HS := HSn
      have HX := HXn
      have HRL := HRLn
      clear HGn HTn HSn HXn HRLn
      clear hHeld h1 e1 g1
      refine hKx.out _ _ HS.out (fun hHeld => ?_)
      clear hKx Kx
      (try simp only [Act.put])
      refine wpAnyH_done (by kernel_rfl) ?_ _
      clear hHeld
      go_wp2
      go_meet
      case rel => exact ⟨X, g, cx, rfl, HCX, HX, hide (HRL.out.mono (Nat.zero_le _)), HG, HT, HS⟩
  case rest =>
    obtain ⟨BX, g, cx, rfl, HCX, HX, hrl, HGW, HT, HS⟩ := hcut
    obtain ⟨wp, hwp⟩ : ∃ y, y = wc := ⟨_, rfl⟩
    subst hwp
    have RX := hide (fun W (hg : wp.grownBy W none) => hrl.out.grown hg)
    have RV := hide (fun W (hg : wp.grownBy W none) => RV0.out W (grownBy_trans HGW.out hg))
    clear hrl RV0
    have HG := hide (grownBy_refl wp none)
    obtain ⟨w2, hw2⟩ : ∃ y, y = wp := ⟨_, rfl⟩
    rw [← hw2] at HX HT HS
    have HG : Hid (wp.grownBy w2 none) := hide (by rw [hw2]; exact grownBy_refl _ _)
    rw [← hw2]
    clear hw2
    go_upto_region 2 with (first | fail)
    have cT0 : w2.cell? ⟨BT, 0, none⟩ = some (.int .i64 x0) := blk_cell HT.out 0
    have cT1 : w2.cell? ⟨BT, 1, none⟩ = some (.int .i64 x1) := blk_cell HT.out 1
    have cT2 : w2.cell? ⟨BT, 2, none⟩ = some (.int .i64 x2) := blk_cell HT.out 2
    have cT3 : w2.cell? ⟨BT, 3, none⟩ = some (.int .i64 x3) := blk_cell HT.out 3
    have cT4 : w2.cell? ⟨BT, 4, none⟩ = some (.int .i64 x4) := blk_cell HT.out 4
    have cT5 : w2.cell? ⟨BT, 5, none⟩ = some (.int .i64 x5) := blk_cell HT.out 5
    have cX0 : w2.cell? ⟨BX, 0, none⟩ = some (.int .i64 L) := blk_cell HX.out 0
    have cX1 : w2.cell? ⟨BX, 1, none⟩ = some (.slice (some ⟨g, 0, none⟩) n cx) := blk_cell HX.out 1
    go_wp2_with (first | fail)
    have HSZ := hide HG.out.size
    refine (CP.out _ _ _ (lent_at HNAT.out (RX.out _ HG.out))).mono ?_; rintro e w3 ⟨u1, c1, rfl, ho, hg⟩
    clear cT0 cT1 cT2 cT3 cT4 cT5 cX0 cX1
    have HGn := hide (grownBy_trans HG.out hg)
    have HTn := hide (box_grown HT.out hg (by simp))
    have HSn := hide (box_grown HS.out hg (by simp))
    have HXn := hide (box_grown HX.out hg (by simp))
    clear HG HT HS HX
    have HG := HGn
    have HT := HTn
    have HS := HSn
    have HX := HXn
    clear HGn HTn HSn HXn
    clear hg
    have OA := hide (ho.base HSZ.out)
    clear ho HSZ
    go_upto_region 3 with (first | fail)
    have hg := World.grownBy_alloc w3 (.cells #[.int .i64 PL, .slice u1 M c1] 26) none
    have HAq := hide (heap_alloc_new w3 (.cells #[.int .i64 PL, .slice u1 M c1] 26))
    have LA := hide HG.out.size
    have HGn := hide (grownBy_trans HG.out hg)
    have HTn := hide (box_grown HT.out hg (by simp))
    have HSn := hide (box_grown HS.out hg (by simp))
    have HXn := hide (box_grown HX.out hg (by simp))
    have OAn := hide (OA.out.grown hg)
    clear HG HT HS HX OA
    have HG := HGn
    have HT := HTn
    have HS := HSn
    have HX := HXn
    have OA := OAn
    clear HGn HTn HSn HXn OAn
    clear hg
    have HA := HAq
    clear HAq
    generalize hWx : w3.alloc (.cells #[.int .i64 PL, .slice u1 M c1] 26) = w4 at *
    generalize hBx : w3.heap.size = BA at *
    clear hWx hBx
    have cT0 : w4.cell? ⟨BT, 0, none⟩ = some (.int .i64 x0) := blk_cell HT.out 0
    have cT1 : w4.cell? ⟨BT, 1, none⟩ = some (.int .i64 x1) := blk_cell HT.out 1
    have cT2 : w4.cell? ⟨BT, 2, none⟩ = some (.int .i64 x2) := blk_cell HT.out 2
    have cT3 : w4.cell? ⟨BT, 3, none⟩ = some (.int .i64 x3) := blk_cell HT.out 3
    have cT4 : w4.cell? ⟨BT, 4, none⟩ = some (.int .i64 x4) := blk_cell HT.out 4
    have cT5 : w4.cell? ⟨BT, 5, none⟩ = some (.int .i64 x5) := blk_cell HT.out 5
    have cS0 : w4.cell? ⟨BS, 0, none⟩ = some (.int .i64 L) := blk_cell HS.out 0
    have cS1 : w4.cell? ⟨BS, 1, none⟩ = some (.slice a n cap) := blk_cell HS.out 1
    go_wp2_with (first | fail)
    refine (CRP.out _ _ _ (RV.out _ HG.out)).mono ?_; rintro e w5 ⟨u2, c2, rfl, ho, hg⟩
    clear cT0 cT1 cT2 cT3 cT4 cT5 cS0 cS1
    have HGn := hide (grownBy_trans HG.out hg)
    have HTn := hide (box_grown HT.out hg (by simp))
    have HSn := hide (box_grown HS.out hg (by simp))
    have HXn := hide (box_grown HX.out hg (by simp))
    have HAn := hide (box_grown HA.out hg (by simp))
    have OAn := hide (OA.out.grown hg)
    clear HG HT HS HX HA OA
    have HG := HGn
    have HT := HTn
    have HS := HSn
    have HX := HXn
    have HA := HAn
    have OA := OAn
    clear HGn HTn HSn HXn HAn OAn
    clear hg
    have OB := hide (ho.base (Nat.zero_le _))
    clear ho
    go_upto_region 4 with (first | fail)
    have hg := World.grownBy_alloc w5 (.cells #[.int .i64 PL, .slice u2 M c2] 26) none
    have HBq := hide (heap_alloc_new w5 (.cells #[.int .i64 PL, .slice u2 M c2] 26))
    have LB := hide HG.out.size
    have HGn := hide (grownBy_trans HG.out hg)
    have HTn := hide (box_grown HT.out hg (by simp))
    have HSn := hide (box_grown HS.out hg (by simp))
    have HXn := hide (box_grown HX.out hg (by simp))
    have HAn := hide (box_grown HA.out hg (by simp))
    have OAn := hide (OA.out.grown hg)
    have OBn := hide (OB.out.grown hg)
    clear HG HT HS HX HA OA OB
    have HG := HGn
    have HT := HTn
    have HS := HSn
    have HX := HXn
    have HA := HAn
    have OA := OAn
    have OB := OBn
    clear HGn HTn HSn HXn HAn OAn OBn
    clear hg
    have HB := HBq
    clear HBq
    generalize hWx : w5.alloc (.cells #[.int .i64 PL, .slice u2 M c2] 26) = w6 at *
    generalize hBx : w5.heap.size = BB at *
    clear hWx hBx
    have cT0 : w6.cell? ⟨BT, 0, none⟩ = some (.int .i64 x0) := blk_cell HT.out 0
    have cT1 : w6.cell? ⟨BT, 1, none⟩ = some (.int .i64 x1) := blk_cell HT.out 1
    have cT2 : w6.cell? ⟨BT, 2, none⟩ = some (.int .i64 x2) := blk_cell HT.out 2
    have cT3 : w6.cell? ⟨BT, 3, none⟩ = some (.int .i64 x3) := blk_cell HT.out 3
    have cT4 : w6.cell? ⟨BT, 4, none⟩ = some (.int .i64 x4) := blk_cell HT.out 4
    have cT5 : w6.cell? ⟨BT, 5, none⟩ = some (.int .i64 x5) := blk_cell HT.out 5
    have cX0 : w6.cell? ⟨BX, 0, none⟩ = some (.int .i64 L) := blk_cell HX.out 0
    have cX1 : w6.cell? ⟨BX, 1, none⟩ = some (.slice (some ⟨g, 0, none⟩) n cx) := blk_cell HX.out 1
    have HAC : Hid (∀ k, (Value.slice u1 M c1).ownBlock = some k → k < w6.heap.size) := hide (fun k h => (World.ownsRow.lt OA.out k h).2)
    go_wp2_with (first | fail)
    have HSZ := hide HG.out.size
    refine (CR.out _ _ _ (lent_at HNAT.out (RX.out _ HG.out))).mono ?_; rintro e w7 ⟨u3, c3, rfl, ho, hg⟩
    clear cT0 cT1 cT2 cT3 cT4 cT5 cX0 cX1
    have HGn := hide (grownBy_trans HG.out hg)
    have HTn := hide (box_grown HT.out hg (by simp))
    have HSn := hide (box_grown HS.out hg (by simp))
    have HXn := hide (box_grown HX.out hg (by simp))
    have HAn := hide (box_grown HA.out hg (by simp))
    have HBn := hide (box_grown HB.out hg (by simp))
    have OAn := hide (OA.out.grown hg)
    have OBn := hide (OB.out.grown hg)
    clear HG HT HS HX HA HB OA OB
    have HG := HGn
    have HT := HTn
    have HS := HSn
    have HX := HXn
    have HA := HAn
    have HB := HBn
    have OA := OAn
    have OB := OBn
    clear HGn HTn HSn HXn HAn HBn OAn OBn
    clear hg
    have HWC := HSZ
    clear HSZ
    have OC := hide ho
    clear ho
    generalize w6.heap.size = BC at *
    go_upto_region 5 with (first | fail)
    have hg := World.grownBy_alloc w7 (.cells #[.int .i64 AL, .slice u3 M2 c3] 26) none
    have HCq := hide (heap_alloc_new w7 (.cells #[.int .i64 AL, .slice u3 M2 c3] 26))
    have LC := hide HG.out.size
    have HGn := hide (grownBy_trans HG.out hg)
    have HTn := hide (box_grown HT.out hg (by simp))
    have HSn := hide (box_grown HS.out hg (by simp))
    have HXn := hide (box_grown HX.out hg (by simp))
    have HAn := hide (box_grown HA.out hg (by simp))
    have HBn := hide (box_grown HB.out hg (by simp))
    have OAn := hide (OA.out.grown hg)
    have OBn := hide (OB.out.grown hg)
    have OCn := hide (OC.out.grown hg)
    clear HG HT HS HX HA HB OA OB OC
    have HG := HGn
    have HT := HTn
    have HS := HSn
    have HX := HXn
    have HA := HAn
    have HB := HBn
    have OA := OAn
    have OB := OBn
    have OC := OCn
    clear HGn HTn HSn HXn HAn HBn OAn OBn OCn
    clear hg
    have HC := HCq
    clear HCq
    generalize hWx : w7.alloc (.cells #[.int .i64 AL, .slice u3 M2 c3] 26) = w8 at *
    generalize hBx : w7.heap.size = BC at *
    clear hWx hBx
    have cT0 : w8.cell? ⟨BT, 0, none⟩ = some (.int .i64 x0) := blk_cell HT.out 0
    have cT1 : w8.cell? ⟨BT, 1, none⟩ = some (.int .i64 x1) := blk_cell HT.out 1
    have cT2 : w8.cell? ⟨BT, 2, none⟩ = some (.int .i64 x2) := blk_cell HT.out 2
    have cT3 : w8.cell? ⟨BT, 3, none⟩ = some (.int .i64 x3) := blk_cell HT.out 3
    have cT4 : w8.cell? ⟨BT, 4, none⟩ = some (.int .i64 x4) := blk_cell HT.out 4
    have cT5 : w8.cell? ⟨BT, 5, none⟩ = some (.int .i64 x5) := blk_cell HT.out 5
    have cS0 : w8.cell? ⟨BS, 0, none⟩ = some (.int .i64 L) := blk_cell HS.out 0
    have cS1 : w8.cell? ⟨BS, 1, none⟩ = some (.slice a n cap) := blk_cell HS.out 1
    go_wp2_with (first | fail)
    refine (CRR.out _ _ _ (RV.out _ HG.out)).mono ?_; rintro e w9 ⟨u4, c4, rfl, ho, hg⟩
    clear cT0 cT1 cT2 cT3 cT4 cT5 cS0 cS1
    have HGn := hide (grownBy_trans HG.out hg)
    have HTn := hide (box_grown HT.out hg (by simp))
    have HSn := hide (box_grown HS.out hg (by simp))
    have HXn := hide (box_grown HX.out hg (by simp))
    have HAn := hide (box_grown HA.out hg (by simp))
    have HBn := hide (box_grown HB.out hg (by simp))
    have HCn := hide (box_grown HC.out hg (by simp))
    have OAn := hide (OA.out.grown hg)
    have OBn := hide (OB.out.grown hg)
    have OCn := hide (OC.out.grown hg)
    clear HG HT HS HX HA HB HC OA OB OC
    have HG := HGn
    have HT := HTn
    have HS := HSn
    have HX := HXn
    have HA := HAn
    have HB := HBn
    have HC := HCn
    have OA := OAn
    have OB := OBn
    have OC := OCn
    clear HGn HTn HSn HXn HAn HBn HCn OAn OBn OCn
    clear hg
    have OD := hide (ho.base (Nat.zero_le _))
    clear ho
    go_upto_region 6 with (first | fail)
    have hg := World.grownBy_alloc w9 (.cells #[.int .i64 AL, .slice u4 M2 c4] 26) none
    have HDq := hide (heap_alloc_new w9 (.cells #[.int .i64 AL, .slice u4 M2 c4] 26))
    have LD := hide HG.out.size
    have HGn := hide (grownBy_trans HG.out hg)
    have HTn := hide (box_grown HT.out hg (by simp))
    have HSn := hide (box_grown HS.out hg (by simp))
    have HXn := hide (box_grown HX.out hg (by simp))
    have HAn := hide (box_grown HA.out hg (by simp))
    have HBn := hide (box_grown HB.out hg (by simp))
    have HCn := hide (box_grown HC.out hg (by simp))
    have OAn := hide (OA.out.grown hg)
    have OBn := hide (OB.out.grown hg)
    have OCn := hide (OC.out.grown hg)
    have ODn := hide (OD.out.grown hg)
    clear HG HT HS HX HA HB HC OA OB OC OD
    have HG := HGn
    have HT := HTn
    have HS := HSn
    have HX := HXn
    have HA := HAn
    have HB := HBn
    have HC := HCn
    have OA := OAn
    have OB := OBn
    have OC := OCn
    have OD := ODn
    clear HGn HTn HSn HXn HAn HBn HCn OAn OBn OCn ODn
    clear hg
    have HD := HDq
    clear HDq
    generalize hWx : w9.alloc (.cells #[.int .i64 AL, .slice u4 M2 c4] 26) = w10 at *
    generalize hBx : w9.heap.size = BD at *
    clear hWx hBx
    have cA0 : w10.cell? ⟨BA, 0, none⟩ = some (.int .i64 PL) := blk_cell HA.out 0
    have cA1 : w10.cell? ⟨BA, 1, none⟩ = some (.slice u1 M c1) := blk_cell HA.out 1
    have cB0 : w10.cell? ⟨BB, 0, none⟩ = some (.int .i64 PL) := blk_cell HB.out 0
    have cB1 : w10.cell? ⟨BB, 1, none⟩ = some (.slice u2 M c2) := blk_cell HB.out 1
    go_wp2_with (first | fail)
    refine (sameT_any PL u1 u2 M M c1 c2 PZ _ OA.out.row OB.out.row).mono ?_; rintro e w11 ⟨rfl, hg⟩
    clear cA0 cA1 cB0 cB1
    have HGn := hide (grownBy_trans HG.out hg)
    have HTn := hide (box_grown HT.out hg (by simp))
    have HSn := hide (box_grown HS.out hg (by simp))
    have HXn := hide (box_grown HX.out hg (by simp))
    have HAn := hide (box_grown HA.out hg (by simp))
    have HBn := hide (box_grown HB.out hg (by simp))
    have HCn := hide (box_grown HC.out hg (by simp))
    have HDn := hide (box_grown HD.out hg (by simp))
    have OAn := hide (OA.out.grown hg)
    have OBn := hide (OB.out.grown hg)
    have OCn := hide (OC.out.grown hg)
    have ODn := hide (OD.out.grown hg)
    clear HG HT HS HX HA HB HC HD OA OB OC OD
    have HG := HGn
    have HT := HTn
    have HS := HSn
    have HX := HXn
    have HA := HAn
    have HB := HBn
    have HC := HCn
    have HD := HDn
    have OA := OAn
    have OB := OBn
    have OC := OCn
    have OD := ODn
    clear HGn HTn HSn HXn HAn HBn HCn HDn OAn OBn OCn ODn
    clear hg
    have cC0 : w11.cell? ⟨BC, 0, none⟩ = some (.int .i64 AL) := blk_cell HC.out 0
    have cC1 : w11.cell? ⟨BC, 1, none⟩ = some (.slice u3 M2 c3) := blk_cell HC.out 1
    have cD0 : w11.cell? ⟨BD, 0, none⟩ = some (.int .i64 AL) := blk_cell HD.out 0
    have cD1 : w11.cell? ⟨BD, 1, none⟩ = some (.slice u4 M2 c4) := blk_cell HD.out 1
    go_wp2_with (first | (go_at_call 14; refine (NUM.out _ _).mono ?_; rintro e wn ⟨rfl, rfl⟩) | fail)
    refine (sameT_any AL u3 u4 M2 M2 c3 c4 AZ _ OC.out.row OD.out.row).mono ?_; rintro e w12 ⟨rfl, hg⟩
    clear cC0 cC1 cD0 cD1
    have HGn := hide (grownBy_trans HG.out hg)
    have HTn := hide (box_grown HT.out hg (by simp))
    have HSn := hide (box_grown HS.out hg (by simp))
    have HXn := hide (box_grown HX.out hg (by simp))
    have HAn := hide (box_grown HA.out hg (by simp))
    have HBn := hide (box_grown HB.out hg (by simp))
    have HCn := hide (box_grown HC.out hg (by simp))
    have HDn := hide (box_grown HD.out hg (by simp))
    have OAn := hide (OA.out.grown hg)
    have OBn := hide (OB.out.grown hg)
    have OCn := hide (OC.out.grown hg)
    have ODn := hide (OD.out.grown hg)
    clear HG HT HS HX HA HB HC HD OA OB OC OD
    have HG := HGn
    have HT := HTn
    have HS := HSn
    have HX := HXn
    have HA := HAn
    have HB := HBn
    have HC := HCn
    have HD := HDn
    have OA := OAn
    have OB := OBn
    have OC := OCn
    have OD := ODn
    clear HGn HTn HSn HXn HAn HBn HCn HDn OAn OBn OCn ODn
    clear hg
    clear OB OD HB HD
    have cA0 : w12.cell? ⟨BA, 0, none⟩ = some (.int .i64 PL) := blk_cell HA.out 0
    have cA1 : w12.cell? ⟨BA, 1, none⟩ = some (.slice u1 M c1) := blk_cell HA.out 1
    go_wp2_with (first | fail)
    refine (spoil_own u1 c1 PZ _ HM.out OA.out).mono ?_; rintro e w13 ⟨rfl, hg⟩
    clear cA0 cA1
    have HGn := hide (grown_app HG.out OA.out (Nat.le_refl _) hg)
    have HTn := hide (box_app HT.out OA.out hg (by decide))
    have HSn := hide (box_app HS.out OA.out hg (by decide))
    have HXn := hide (box_app HX.out OA.out hg (by decide))
    have HAn := hide (box_app HA.out OA.out hg (by decide))
    have HCn := hide (box_app HC.out OA.out hg (by decide))
    have OCn := hide (OC.out.kept hg HAC.out)
    clear HG HT HS HX HA HC OC
    have HG := HGn
    have HT := HTn
    have HS := HSn
    have HX := HXn
    have HA := HAn
    have HC := HCn
    have OC := OCn
    clear HGn HTn HSn HXn HAn HCn OCn
    clear hg
    clear OA HA HAC
    have cC0 : w13.cell? ⟨BC, 0, none⟩ = some (.int .i64 AL) := blk_cell HC.out 0
    have cC1 : w13.cell? ⟨BC, 1, none⟩ = some (.slice u3 M2 c3) := blk_cell HC.out 1
    go_wp2_with (first | fail)
    refine (spoil_own u3 c3 AZ _ HM2.out OC.out).mono ?_; rintro e w14 ⟨rfl, hg⟩
    clear cC0 cC1
    have HGn := hide (grown_app HG.out OC.out HWC.out hg)
    have HTn := hide (box_app HT.out OC.out hg (by decide))
    have HSn := hide (box_app HS.out OC.out hg (by decide))
    have HXn := hide (box_app HX.out OC.out hg (by decide))
    have HCn := hide (box_app HC.out OC.out hg (by decide))
    clear HG HT HS HX HC
    have HG := HGn
    have HT := HTn
    have HS := HSn
    have HX := HXn
    have HC := HCn
    clear HGn HTn HSn HXn HCn
    clear hg
    clear OC HC
    go_upto_region 10 with (first | fail)
    refine wp_region_held_drew (S := fun W => W.heap[BT]? = some (.cells #[.int .i64 x0, .int .i64 x1, .int .i64 x2, .int .i64 x3, .int .i64 x4, .int .i64 x5] 23 (0, 0)) ∧ W.heap[BS]? = some (.cells #[.int .i64 L, .slice a n cap] 26 (0, 0)) ∧ W.heap[BX]? = some (.cells #[.int .i64 L, .slice (some ⟨g, 0, none⟩) n cx] 26 (0, 0))) (by kernel_rfl) ⟨HT.out, HS.out, HX.out⟩ (fun hHeld => ?_)
    have HGd : Hid (wp.grownBy w14.drew none) := hide (grownBy_trans HG.out (grownBy_draws w14 1 none))
    have HTd : Hid (w14.drew.heap[BT]? = some (.cells #[.int .i64 x0, .int .i64 x1, .int .i64 x2, .int .i64 x3, .int .i64 x4, .int .i64 x5] 23 (0, 0))) := hide HT.out
    have HSd : Hid (w14.drew.heap[BS]? = some (.cells #[.int .i64 L, .slice a n cap] 26 (0, 0))) := hide HS.out
    have HXd : Hid (w14.drew.heap[BX]? = some (.cells #[.int .i64 L, .slice (some ⟨g, 0, none⟩) n cx] 26 (0, 0))) := hide HX.out
    clear HG HT HS HX
    generalize w14.drew = W at *
    have HG := HGd
    have HT := HTd
    have HS := HSd
    have HX := HXd
    clear HGd HTd HSd HXd
    have hTM : (TM == TM) = true := by simp
    have hLQ : (LQ == LQ) = true := by simp
    refine take_put (i := 0) (v := .agg #[.int .i64 x0, .int .i64 x1, .int .i64 x2, .int .i64 x3, .int .i64 x4, .int .i64 x5]) 88 rfl rfl (by kernel_rfl) (by kernel_rfl) (by kernel_rfl) (fun _ _ _ h => h) (Or.inl ⟨by rfl, by intro Wy hSW; have hc := blk_cell hSW.1 0; have hc1 := blk_cell hSW.1 1; have hc2 := blk_cell hSW.1 2; have hc3 := blk_cell hSW.1 3; have hc4 := blk_cell hSW.1 4; have hc5 := blk_cell hSW.1 5; go_simp⟩) (by assumption) ?_
    (try simp only [Act.put, List.setIfInBounds_toArray, List.set_cons_zero, List.set_cons_succ])
    refine take_put (i := 2) (v := .agg #[.int .i64 x0, .int .i64 x1, .int .i64 x2, .int .i64 x3, .int .i64 x4, .int .i64 x5]) 90 rfl rfl (by kernel_rfl) (by kernel_rfl) (by kernel_rfl) (fun _ _ _ h => h) (Or.inl ⟨by rfl, by intro Wy hSW; have hc := blk_cell hSW.1 0; have hc1 := blk_cell hSW.1 1; have hc2 := blk_cell hSW.1 2; have hc3 := blk_cell hSW.1 3; have hc4 := blk_cell hSW.1 4; have hc5 := blk_cell hSW.1 5; go_simp⟩) (by assumption) ?_
    (try simp only [Act.put, List.setIfInBounds_toArray, List.set_cons_zero, List.set_cons_succ])
    refine wpAnyH_ready (rs := [1]) (by kernel_rfl) (by simp) ?_
    refine AllReadyH.cons rfl (fun Kx hKx => ?_) AllReadyH.nil
    go_simp
    refine (CM.out _).mono ?_; rintro e W1 ⟨rfl, hg⟩
    have HGn := hide (grownBy_trans HG.out hg)
    have HTn := hide (box_grown HT.out hg (by simp))
    have HSn := hide (box_grown HS.out hg (by simp))
    have HXn := hide (box_grown HX.out hg (by simp))
    clear HG HT HS HX
    have HG := HGn
    have HT := HTn
    have HS := HSn
    have HX := HXn
    clear HGn HTn HSn HXn
    clear hg hHeld
    refine hKx.out _ _ ⟨HT.out, HS.out, HX.out⟩ (fun hHeld => ?_)
    clear hKx Kx
    (try simp only [Act.put])
    refine wpAnyH_ready (rs := [3]) (by kernel_rfl) (by simp) ?_
    refine AllReadyH.cons rfl (fun Kx hKx => ?_) AllReadyH.nil
    go_simp
    refine (CRM.out _).mono ?_; rintro e W2 ⟨rfl, hg⟩
    have HGn := hide (grownBy_trans HG.out hg)
    have HTn := hide (box_grown HT.out hg (by simp))
    have HSn := hide (box_grown HS.out hg (by simp))
    have HXn := hide (box_grown HX.out hg (by simp))
    clear HG HT HS HX
    have HG := HGn
    have HT := HTn
    have HS := HSn
    have HX := HXn
    clear HGn HTn HSn HXn
    clear hg hHeld
    refine hKx.out _ _ ⟨HT.out, HS.out, HX.out⟩ (fun hHeld => ?_)
    clear hKx Kx
    (try simp only [Act.put])
    refine take_put (i := 4) (v := .bool true) 92 rfl rfl (by kernel_rfl) (by kernel_rfl) (by kernel_rfl) (fun _ _ _ h => h) (Or.inl ⟨by rfl, by intro Wy hSW; have hc := hTM; go_simp⟩) (by assumption) ?_
    (try simp only [Act.put, List.setIfInBounds_toArray, List.set_cons_zero, List.set_cons_succ])
    refine take_put (i := 5) (v := .bool true) 93 rfl rfl (by kernel_rfl) (by kernel_rfl) (by kernel_rfl) (fun _ _ _ h => h) (Or.inl ⟨by rfl, by intro Wy hSW; go_simp⟩) (by assumption) ?_
    (try simp only [Act.put, List.setIfInBounds_toArray, List.set_cons_zero, List.set_cons_succ])
    refine take_put (i := 6) (v := .agg #[.int .i64 x0, .int .i64 x1, .int .i64 x2, .int .i64 x3, .int .i64 x4, .int .i64 x5]) 94 rfl rfl (by kernel_rfl) (by kernel_rfl) (by kernel_rfl) (fun _ _ _ h => h) (Or.inl ⟨by rfl, by intro Wy hSW; have hc := blk_cell hSW.1 0; have hc1 := blk_cell hSW.1 1; have hc2 := blk_cell hSW.1 2; have hc3 := blk_cell hSW.1 3; have hc4 := blk_cell hSW.1 4; have hc5 := blk_cell hSW.1 5; go_simp⟩) (by assumption) ?_
    (try simp only [Act.put, List.setIfInBounds_toArray, List.set_cons_zero, List.set_cons_succ])
    refine take_put (i := 7) (v := .agg #[.int .i64 L, .slice (some ⟨g, 0, none⟩) n cx]) 95 rfl rfl (by kernel_rfl) (by kernel_rfl) (by kernel_rfl) (fun _ _ _ h => h) (Or.inl ⟨by rfl, by intro Wy hSW; have hc := blk_cell hSW.2.2 0; have hc1 := blk_cell hSW.2.2 1; go_simp⟩) (by assumption) ?_
    (try simp only [Act.put, List.setIfInBounds_toArray, List.set_cons_zero, List.set_cons_succ])
    refine take_put (i := 8) (v := .int .i64 now) 96 rfl rfl (by kernel_rfl) (by kernel_rfl) (by kernel_rfl) (fun _ _ _ h => h) (Or.inl ⟨by rfl, by intro Wy hSW; go_simp⟩) (by assumption) ?_
    (try simp only [Act.put, List.setIfInBounds_toArray, List.set_cons_zero, List.set_cons_succ])
    refine take_put (i := 10) (v := .agg #[.int .i64 x0, .int .i64 x1, .int .i64 x2, .int .i64 x3, .int .i64 x4, .int .i64 x5]) 98 rfl rfl (by kernel_rfl) (by kernel_rfl) (by kernel_rfl) (fun _ _ _ h => h) (Or.inl ⟨by rfl, by intro Wy hSW; have hc := blk_cell hSW.1 0; have hc1 := blk_cell hSW.1 1; have hc2 := blk_cell hSW.1 2; have hc3 := blk_cell hSW.1 3; have hc4 := blk_cell hSW.1 4; have hc5 := blk_cell hSW.1 5; go_simp⟩) (by assumption) ?_
    (try simp only [Act.put, List.setIfInBounds_toArray, List.set_cons_zero, List.set_cons_succ])
    refine take_put (i := 11) (v := .agg #[.int .i64 L, .slice a n cap]) 99 rfl rfl (by kernel_rfl) (by kernel_rfl) (by kernel_rfl) (fun _ _ _ h => h) (Or.inl ⟨by rfl, by intro Wy hSW; have hc := blk_cell hSW.2.1 0; have hc1 := blk_cell hSW.2.1 1; go_simp⟩) (by assumption) ?_
    (try simp only [Act.put, List.setIfInBounds_toArray, List.set_cons_zero, List.set_cons_succ])
    refine take_put (i := 12) (v := .int .i64 now) 100 rfl rfl (by kernel_rfl) (by kernel_rfl) (by kernel_rfl) (fun _ _ _ h => h) (Or.inl ⟨by rfl, by intro Wy hSW; go_simp⟩) (by assumption) ?_
    (try simp only [Act.put, List.setIfInBounds_toArray, List.set_cons_zero, List.set_cons_succ])
    refine wpAnyH_ready (rs := [9]) (by kernel_rfl) (by simp) ?_
    refine AllReadyH.cons rfl (fun Kx hKx => ?_) AllReadyH.nil
    go_simp
    refine (CL.out _ _ _ _ _ (lent_at HNAT.out (RX.out _ HG.out))).mono ?_; rintro e W3 ⟨rfl, hg⟩
    have HGn := hide (grownBy_trans HG.out hg)
    have HTn := hide (box_grown HT.out hg (by simp))
    have HSn := hide (box_grown HS.out hg (by simp))
    have HXn := hide (box_grown HX.out hg (by simp))
    clear HG HT HS HX
    have HG := HGn
    have HT := HTn
    have HS := HSn
    have HX := HXn
    clear HGn HTn HSn HXn
    clear hg hHeld
    refine hKx.out _ _ ⟨HT.out, HS.out, HX.out⟩ (fun hHeld => ?_)
    clear hKx Kx
    (try simp only [Act.put])
    refine wpAnyH_ready (rs := [13]) (by kernel_rfl) (by simp) ?_
    refine AllReadyH.cons rfl (fun Kx hKx => ?_) AllReadyH.nil
    go_simp
    refine (CRL.out _ _ _ _ _ (RV.out _ HG.out)).mono ?_; rintro e W4 ⟨rfl, hg⟩
    have HGn := hide (grownBy_trans HG.out hg)
    have HTn := hide (box_grown HT.out hg (by simp))
    have HSn := hide (box_grown HS.out hg (by simp))
    have HXn := hide (box_grown HX.out hg (by simp))
    clear HG HT HS HX
    have HG := HGn
    have HT := HTn
    have HS := HSn
    have HX := HXn
    clear HGn HTn HSn HXn
    clear hg hHeld
    refine hKx.out _ _ ⟨HT.out, HS.out, HX.out⟩ (fun hHeld => ?_)
    clear hKx Kx
    (try simp only [Act.put])
    refine take_put (i := 14) (v := .bool true) 102 rfl rfl (by kernel_rfl) (by kernel_rfl) (by kernel_rfl) (fun _ _ _ h => h) (Or.inl ⟨by rfl, by intro Wy hSW; have hc := hLQ; go_simp⟩) (by assumption) ?_
    (try simp only [Act.put, List.setIfInBounds_toArray, List.set_cons_zero, List.set_cons_succ])
    refine take_put (i := 15) (v := .bool true) 103 rfl rfl (by kernel_rfl) (by kernel_rfl) (by kernel_rfl) (fun _ _ _ h => h) (Or.inl ⟨by rfl, by intro Wy hSW; go_simp⟩) (by assumption) ?_
    (try simp only [Act.put, List.setIfInBounds_toArray, List.set_cons_zero, List.set_cons_succ])
    refine take_put (i := 16) (v := .bool true) 104 rfl rfl (by kernel_rfl) (by kernel_rfl) (by kernel_rfl) (fun _ _ _ h => h) (Or.inl ⟨by rfl, by intro Wy hSW; go_simp⟩) (by assumption) ?_
    (try simp only [Act.put, List.setIfInBounds_toArray, List.set_cons_zero, List.set_cons_succ])
    refine take_put (i := 17) (v := .pointer (some ⟨BX, 1, none⟩)) 105 rfl rfl (by kernel_rfl) (by kernel_rfl) (by kernel_rfl) (fun _ _ _ h => h) (Or.inl ⟨by rfl, by intro Wy hSW; go_simp⟩) (by assumption) ?_
    (try simp only [Act.put, List.setIfInBounds_toArray, List.set_cons_zero, List.set_cons_succ])
    refine take_put (i := 18) (v := .slice (some ⟨g, 0, none⟩) n cx) 106 rfl rfl (by kernel_rfl) (by kernel_rfl) (by kernel_rfl) (fun _ _ _ h => h) (Or.inl ⟨by rfl, by intro Wy hSW; have hc := blk_cell hSW.2.2 1; go_simp⟩) (by assumption) ?_
    (try simp only [Act.put, List.setIfInBounds_toArray, List.set_cons_zero, List.set_cons_succ])
    refine take_put (i := 19) (v := .pointer (some ⟨BS, 1, none⟩)) 107 rfl rfl (by kernel_rfl) (by kernel_rfl) (by kernel_rfl) (fun _ _ _ h => h) (Or.inl ⟨by rfl, by intro Wy hSW; go_simp⟩) (by assumption) ?_
    (try simp only [Act.put, List.setIfInBounds_toArray, List.set_cons_zero, List.set_cons_succ])
    refine take_put (i := 20) (v := .slice a n cap) 108 rfl rfl (by kernel_rfl) (by kernel_rfl) (by kernel_rfl) (fun _ _ _ h => h) (Or.inl ⟨by rfl, by intro Wy hSW; have hc := blk_cell hSW.2.1 1; go_simp⟩) (by assumption) ?_
    (try simp only [Act.put, List.setIfInBounds_toArray, List.set_cons_zero, List.set_cons_succ])
    refine wpAnyH_ready (rs := [21]) (by kernel_rfl) (by simp) ?_
    refine AllReadyH.cons rfl (fun Kx hKx => ?_) AllReadyH.nil
    go_simp
    refine (kept_at g cx (.slice a n cap) zs HNAT.out hz HCX.out _ (RX.out _ HG.out) (RV.out _ HG.out)).mono ?_; rintro e W5 ⟨rfl, hg⟩
    have HGn := hide (grownBy_trans HG.out hg)
    have HTn := hide (box_grown HT.out hg (by simp))
    have HSn := hide (box_grown HS.out hg (by simp))
    have HXn := hide (box_grown HX.out hg (by simp))
    clear HG HT HS HX
    have HG := HGn
    have HT := HTn
    have HS := HSn
    have HX := HXn
    clear HGn HTn HSn HXn
    clear hg hHeld
    refine hKx.out _ _ ⟨HT.out, HS.out, HX.out⟩ (fun hHeld => ?_)
    clear hKx Kx
    (try simp only [Act.put])
    refine take_put (i := 22) (v := .bool true) 110 rfl rfl (by kernel_rfl) (by kernel_rfl) (by kernel_rfl) (fun _ _ _ h => h) (Or.inl ⟨by rfl, by intro Wy hSW; go_simp⟩) (by assumption) ?_
    (try simp only [Act.put, List.setIfInBounds_toArray, List.set_cons_zero, List.set_cons_succ])
    refine take_put (i := 23) (v := .bool true) 111 rfl rfl (by kernel_rfl) (by kernel_rfl) (by kernel_rfl) (fun _ _ _ h => h) (Or.inl ⟨by rfl, by intro Wy hSW; go_simp⟩) (by assumption) ?_
    (try simp only [Act.put, List.setIfInBounds_toArray, List.set_cons_zero, List.set_cons_succ])
    refine wpAnyH_ready (rs := [24]) (by kernel_rfl) (by simp) ?_
    refine AllReadyH.cons rfl (fun Kx hKx => ?_) AllReadyH.nil
    go_simp
    refine (awake_any _).mono ?_; rintro e W6 ⟨rfl, hg⟩
    have HGn := hide (grownBy_trans HG.out hg)
    have HTn := hide (box_grown HT.out hg (by simp))
    have HSn := hide (box_grown HS.out hg (by simp))
    have HXn := hide (box_grown HX.out hg (by simp))
    clear HG HT HS HX
    have HG := HGn
    have HT := HTn
    have HS := HSn
    have HX := HXn
    clear HGn HTn HSn HXn
    clear hg hHeld
    refine hKx.out _ _ ⟨HT.out, HS.out, HX.out⟩ (fun hHeld => ?_)
    clear hKx Kx
    (try simp only [Act.put])
    refine take_put (i := 25) (v := .bool true) 113 rfl rfl (by kernel_rfl) (by kernel_rfl) (by kernel_rfl) (fun _ _ _ h => h) (Or.inl ⟨by rfl, by intro Wy hSW; go_simp⟩) (by assumption) ?_
    (try simp only [Act.put, List.setIfInBounds_toArray, List.set_cons_zero, List.set_cons_succ])
    refine take_put (i := 26) (v := .bool true) 8 rfl rfl (by kernel_rfl) (by kernel_rfl) (by kernel_rfl) (fun _ _ _ h => h) (Or.inl ⟨by rfl, by intro Wy hSW; go_simp⟩) (by assumption) ?_
    (try simp only [Act.put, List.setIfInBounds_toArray, List.set_cons_zero, List.set_cons_succ])
    refine wpAnyH_done (by kernel_rfl) ?_ _
    clear hHeld
    go_wp2
    go_ret
    exact ⟨rfl, grownBy_trans HGW.out HG.out⟩
theorem tasks_any (t : TaskV) (L : Int) (a : Option Addr) (n cap : Nat) (zs : List Int) (dem now : Int) (w : World) (hv : RowAt shN 0 w (.slice a n cap) zs) (hz : n ≤ 17592186043904) : Calls Try.prog 3 #[taskVal t, .agg #[.int .i64 L, .slice a n cap], .int .i64 dem, .int .i64 now] w fun e w' => e = .returned (.bool true) ∧ w.grownBy w' none := tasks_from t L a n cap zs dem now w w (grownBy_refl _ _) hv hz
#print axioms tasks_any
end Go.Proofs.Ytephnppanbckkaa
