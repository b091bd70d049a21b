/- The contract of the document's own Release, proved over the translation: it answers as the program's. -/
import Derived.Test.YtephnppanbckkaaRefL
namespace Go.Proofs.Ytephnppanbckkaa
open Go.RowKit
attribute [local go_sem] alloc_drewN setCell_drewN

set_option maxRecDepth 100000 in
set_option maxHeartbeats 8000000 in
theorem rrel_no {lo : Nat} (t : TaskV) (L : Int) (a : Option Addr) (n cap : Nat) (zs : List Int) (now : Int) (w : World) (hv : RowAt shN lo w (.slice a n cap) zs) (hm : atMay t ⟨L, zs⟩ now = false) :
    Calls Try.prog 12 #[taskVal t, .agg #[.int .i64 L, .slice a n cap], .int .i64 now] w fun e w' => ∃ v', e = .returned (.tuple #[.agg #[.int .i64 0, v'], .int .i64 0, .bool false]) ∧ Own w.heap.size w' v' [] ∧ w.grownBy w' none := by
  have CM := hide (fun W (hg : w.grownBy W none) => rmay_any t L (.slice a n cap) zs now W (hv.grown hg))
  rw [hm] at CM
  clear hv hm
  obtain ⟨x0, x1, x2, x3, x4, x5⟩ := t
  go_enter Try.func12, Try.ntmps12
  go_wp2_with (first | fail)
  refine (CM.out _ (grownBy_trans (grownBy_trans (World.grownBy_alloc _ _ _) (World.grownBy_alloc _ _ _)) (World.grownBy_alloc _ _ _))).mono ?_; rintro e w1 ⟨rfl, hg⟩
  have HG := hide (grownBy_trans (grownBy_trans (grownBy_trans (World.grownBy_alloc _ _ _) (World.grownBy_alloc _ _ _)) (World.grownBy_alloc _ _ _)) hg)
  have HR := hide (box_grown (alloc_third w _ _ (.cells #[.int .i64 0, .slice none 0 0] 26)) hg (by simp))
  clear hg CM
  go_wp2_with (first | ((with_reducible refine list_store 26 (.tmp 6) (.tmp 15) (w.heap.size + 1 + 1) #[.int .i64 0, .slice none 0 0] 26 #[.int .i64 0, .slice none 0 0] ?hx ?hy ?hg ?hi ?ho ?h1 ?_); (case hx => rfl); (case hy => rfl); (case hg => exact HR.out); (case hi => exact sizeU); (case ho => rfl); (case h1 => simp [Value.oneCell']); intro w8 h1 e1 g1; have HRn := hide h1; have HGn := hide (grown_spoil HG.out (Nat.le_trans (Nat.le_succ _) (Nat.le_succ _)) g1); clear h1 e1 g1 HG HR) | fail)
  refine bodyPost_ret (results_rtt rfl _ _ (w.heap.size + 1 + 1) 26 #[.int .i64 0, .slice none 0 0] (0, 0) _ rfl HRn.out Try.underlying26 rfl sizeU) rfl ?_
  exact ⟨_, rfl, own_nil _ _, HGn.out⟩

set_option maxRecDepth 100000 in
set_option maxHeartbeats 8000000 in
theorem rrel_yes {lo : Nat} (t : TaskV) (L : Int) (a : Option Addr) (n cap : Nat) (zs : List Int) (now : Int) (w : World) (hv : RowAt shN lo w (.slice a n cap) zs) (hm : atMay t ⟨L, zs⟩ now = true) :
    Calls Try.prog 12 #[taskVal t, .agg #[.int .i64 L, .slice a n cap], .int .i64 now] w fun e w' => ∃ v', e = .returned (.tuple #[.agg #[.int .i64 (if comesB t ⟨L, zs⟩ now = true then now else L), v'], .int .i64 (if comesB t ⟨L, zs⟩ now = true then jobD t ⟨L, zs⟩ else 0), .bool (comesB t ⟨L, zs⟩ now)]) ∧ Own w.heap.size w' v' (if comesB t ⟨L, zs⟩ now = true then zs.drop 1 else zs) ∧ w.grownBy w' none := by
  have hn : zs.length = n := by obtain ⟨-, a2, c2, e, -⟩ := hv; simp only [Value.slice.injEq] at e; exact e.2.1.symm
  have CM := hide (fun W (hg : w.grownBy W none) => rmay_any t L (.slice a n cap) zs now W (hv.grown hg))
  rw [hm] at CM
  have CL := hide (fun W (hg : w.grownBy W none) => rlate_any t L a n cap zs now W (hv.grown hg))
  have hlate : lateB t ⟨L, zs⟩ now = (decide (t.kind = 1) && waitsB t ⟨L, zs⟩ now) := by unfold lateB; rw [hm, Bool.true_and]
  rw [hlate] at CL
  obtain ⟨hm1, -, hm2, hm3, hm4, hm5, hm6⟩ := at_parts hm
  have hp := (may_parts hm1).2.1
  have hk01 := (may_parts hm1).1
  have HC1 := hide (fun (h : t.kind = 1) => (show comesB t ⟨L, zs⟩ now = (decide (0 < n) && !waitsB t ⟨L, zs⟩ now) by unfold comesB; rw [if_pos h]; dsimp only; rw [hn]))
  have HC0 := hide (fun (h : ¬ t.kind = 1) => (show comesB t ⟨L, zs⟩ now = decide (now % t.period = 0) by unfold comesB; rw [if_neg h]))
  have RV := hide (fun W (hg : w.grownBy W none) => hv.grown hg)
  dsimp only at hm4
  rw [hn] at hm4
  have HNAT := hide hn
  obtain ⟨C, hC⟩ : ∃ C, comesB t ⟨L, zs⟩ now = C := ⟨_, rfl⟩
  obtain ⟨Wt, hWt⟩ : ∃ b, waitsB t ⟨L, zs⟩ now = b := ⟨_, rfl⟩
  obtain ⟨D, hD⟩ : ∃ D, jobD t ⟨L, zs⟩ = D := ⟨_, rfl⟩
  have HD := hide hD
  rw [hC, hD]
  rw [hC] at HC1 HC0
  rw [hWt] at HC1 CL
  unfold jobD at HD
  clear hv hm hlate hm1 hm2 hm3 hm6 hn hC hWt hD
  obtain ⟨x0, x1, x2, x3, x4, x5⟩ := t
  dsimp only at hp hk01 HC1 HC0 CL HD
  go_enter Try.func12, Try.ntmps12
  go_wp2_with (first | fail)
  refine (CM.out _ (grownBy_trans (grownBy_trans (World.grownBy_alloc _ _ _) (World.grownBy_alloc _ _ _)) (World.grownBy_alloc _ _ _))).mono ?_; rintro e w1 ⟨rfl, hg⟩
  have HG := hide (grownBy_trans (grownBy_trans (grownBy_trans (World.grownBy_alloc _ _ _) (World.grownBy_alloc _ _ _)) (World.grownBy_alloc _ _ _)) hg)
  have HR := hide (box_grown (alloc_third w _ _ (.cells #[.int .i64 0, .slice none 0 0] 26)) hg (by simp))
  have HT := hide (box_grown (hp_up (hp_up (heap_alloc_new w (.cells #[.int .i64 x0, .int .i64 x1, .int .i64 x2, .int .i64 x3, .int .i64 x4, .int .i64 x5] 23)) _) _) hg (by simp))
  have HS := hide (box_grown (hp_up (alloc_next w _ (.cells #[.int .i64 L, .slice a n cap] 26)) _) hg (by simp))
  clear hg CM
  have HL : Hid (w.heap.size + 1 + 1 + 1 ≤ w1.heap.size) := hide (box_lt HR.out)
  have HH : Hid (∀ W, w.grownBy W none → W.heap[w.heap.size + 1]? = some (.cells #[.int .i64 L, .slice a n cap] 26 (0, 0)) → (fun W => W.heap[w.heap.size + 1]? = some (.cells #[.int .i64 L, .slice a n cap] 26 (0, 0))) W) := hide (fun W _ hb => hb)
  go_upto_region 3 with (first | fail)
  go_cut [9] (fun p wx => ∃ Y u c, p = .pointer (some ⟨Y, 0, none⟩) ∧ Hid (wx.heap[Y]? = some (.cells #[.int .i64 L, .slice u n c] 26 (0, 0))) ∧ Hid (wx.ownsRow (w.heap.size + 1 + 1 + 1) 3 1 (.slice u n c) n (shN.cells zs)) ∧ Hid (w.grownBy wx none) ∧ Hid (wx.heap[w.heap.size]? = some (.cells #[.int .i64 x0, .int .i64 x1, .int .i64 x2, .int .i64 x3, .int .i64 x4, .int .i64 x5] 23 (0, 0))) ∧ Hid (wx.heap[w.heap.size + 1]? = some (.cells #[.int .i64 L, .slice a n cap] 26 (0, 0))) ∧ Hid (wx.heap[w.heap.size + 1 + 1]? = some (.cells #[.int .i64 0, .slice none 0 0] 26 (0, 0))) ∧ Hid (w.heap.size + 1 + 1 + 1 ≤ wx.heap.size) ∧ Hid (w.heap.size + 1 + 1 + 1 ≤ Y))
  case first =>
    refine wp_region_held_drew (S := fun W => W.heap[w.heap.size + 1]? = some (.cells #[.int .i64 L, .slice a n cap] 26 (0, 0))) (by kernel_rfl) (HH.out _ (grownBy_trans HG.out (grownBy_draws w1 1 none)) HS.out) (fun hHeld => ?_)
    have HGd : Hid (w.grownBy w1.drew none) := hide (grownBy_trans HG.out (grownBy_draws w1 1 none))
    have HTd : Hid (w1.drew.heap[w.heap.size]? = some (.cells #[.int .i64 x0, .int .i64 x1, .int .i64 x2, .int .i64 x3, .int .i64 x4, .int .i64 x5] 23 (0, 0))) := hide HT.out
    have HSd : Hid (w1.drew.heap[w.heap.size + 1]? = some (.cells #[.int .i64 L, .slice a n cap] 26 (0, 0))) := hide HS.out
    have HRd : Hid (w1.drew.heap[w.heap.size + 1 + 1]? = some (.cells #[.int .i64 0, .slice none 0 0] 26 (0, 0))) := hide HR.out
    have HLd : Hid (w.heap.size + 1 + 1 + 1 ≤ (w1.drew).heap.size) := hide HL.out
    clear HG HT HS HR HL
    generalize w1.drew = W at *
    have HG := HGd
    have HT := HTd
    have HS := HSd
    have HR := HRd
    have HL := HLd
    clear HGd HTd HSd HRd HLd
    refine take_put (i := 0) (v := .pointer (some ⟨w.heap.size + 1, 0, none⟩)) 16 rfl rfl (by kernel_rfl) (by kernel_rfl) (by kernel_rfl) (fun _ _ _ h => h) (Or.inl ⟨by rfl, by intro Wy hSW; go_simp⟩) (by assumption) ?_
    (try simp only [Act.put, List.setIfInBounds_toArray, List.set_cons_zero, List.set_cons_succ])
    refine take_put (i := 1) (v := .int .i64 L) 17 rfl rfl (by kernel_rfl) (by kernel_rfl) (by kernel_rfl) (fun _ _ _ h => h) (Or.inl ⟨by rfl, by intro Wy hSW; have hc := blk_cell hSW 0; go_simp⟩) (by assumption) ?_
    (try simp only [Act.put, List.setIfInBounds_toArray, List.set_cons_zero, List.set_cons_succ])
    refine take_put (i := 3) (v := .pointer (some ⟨w.heap.size + 1, 1, none⟩)) 19 rfl rfl (by kernel_rfl) (by kernel_rfl) (by kernel_rfl) (fun _ _ _ h => h) (Or.inl ⟨by rfl, by intro Wy hSW; go_simp⟩) (by assumption) ?_
    (try simp only [Act.put, List.setIfInBounds_toArray, List.set_cons_zero, List.set_cons_succ])
    refine take_put (i := 4) (v := .slice a n cap) 20 rfl rfl (by kernel_rfl) (by kernel_rfl) (by kernel_rfl) (fun _ _ _ h => h) (Or.inl ⟨by rfl, by intro Wy hSW; have hc := blk_cell hSW 1; go_simp⟩) (by assumption) ?_
    (try simp only [Act.put, List.setIfInBounds_toArray, List.set_cons_zero, List.set_cons_succ])
    refine wpAnyH_ready (rs := [2, 7]) (by kernel_rfl) (by simp) ?_
    refine AllReadyH.cons rfl (fun Kx hKx => ?_) (AllReadyH.cons rfl (fun Kx hKx => ?_) AllReadyH.nil)
    · skip
      go_simp
      have hg := World.grownBy_alloc W (.cells #[] 3) none
      have HMq := hide (own_mono (lit_own W 3 1) HL.out)
      have HGn := hide (grownBy_trans HG.out hg)
      have HTn := hide (box_grown HT.out hg (by simp))
      have HSn := hide (box_grown HS.out hg (by simp))
      have HRn := hide (box_grown HR.out hg (by simp))
      have HLn := hide (Nat.le_trans HL.out hg.size)
      clear HG HT HS HR HL
      have HG := HGn
      have HT := HTn
      have HS := HSn
      have HR := HRn
      have HL := HLn
      clear HGn HTn HSn HRn HLn
      clear hg hHeld
      have HM := HMq
      clear HMq
      refine hKx.out _ _ (HH.out _ HG.out HS.out) (fun hHeld => ?_)
      clear hKx Kx
      (try simp only [Act.put])
      generalize W.alloc (.cells #[] 3) = W1 at *
      generalize W.heap.size = gx at *
      refine wpAnyH_ready (rs := [5, 7]) (by kernel_rfl) (by simp) ?_
      refine AllReadyH.cons rfl (fun Kx hKx => ?_) (AllReadyH.cons rfl (fun Kx hKx => ?_) AllReadyH.nil)
      · skip
        refine step_copyn (S := shN) _ rfl _ _ 24 rfl 3 _ 8 Try.underlying24 infoN rfl (w.heap.size + 1 + 1 + 1) gx rfl HM.out _ zs rfl (RV.out _ HG.out) n HNAT.out (by omega) HL.out 21 rfl ?_
        intro u c W2 ho hgw
        have T := hide (type_own HM.out)
        have HGB := hide (HM.out.lt gx rfl).1
        have HGn := hide (grown_spoil HG.out (Nat.le_trans (by omega) HGB.out) hgw)
        have HTn := hide (box_type HT.out hgw T.out (by decide))
        have HSn := hide (box_type HS.out hgw T.out (by decide))
        have HRn := hide (box_type HR.out hgw T.out (by decide))
        have HLn := hide (Nat.le_trans HL.out hgw.size)
        clear HG HT HS HR HL
        have HG := HGn
        have HT := HTn
        have HS := HSn
        have HR := HRn
        have HL := HLn
        clear HGn HTn HSn HRn HLn
        have HO := hide ho
        clear hHeld ho hgw T HGB HM
        refine hKx.out _ _ (HH.out _ HG.out HS.out) (fun hHeld => ?_)
        clear hKx Kx
        (try simp only [Act.put])
        refine take_put (i := 6) (v := .agg #[.int .i64 L, .slice u n c]) 22 rfl rfl (by kernel_rfl) (by kernel_rfl) (by kernel_rfl) (fun _ _ _ h => h) (Or.inl ⟨by rfl, by intro Wy hSW; go_simp⟩) (by assumption) ?_
        (try simp only [Act.put, List.setIfInBounds_toArray, List.set_cons_zero, List.set_cons_succ])
        refine wpAnyH_ready (rs := [7]) (by kernel_rfl) (by simp) ?_
        refine AllReadyH.cons rfl (fun Kx hKx => ?_) AllReadyH.nil
        go_simp
        have hg := World.grownBy_alloc W2 (.cells #[.int .i64 0, .slice none 0 0] 26) none
        have HYq := hide (heap_alloc_new W2 (.cells #[.int .i64 0, .slice none 0 0] 26))
        have NY := HL
        have HGn := hide (grownBy_trans HG.out hg)
        have HTn := hide (box_grown HT.out hg (by simp))
        have HSn := hide (box_grown HS.out hg (by simp))
        have HRn := hide (box_grown HR.out hg (by simp))
        have HLn := hide (Nat.le_trans HL.out hg.size)
        have HOn := hide (own_kept HO.out hg)
        clear HG HT HS HR HL HO
        have HG := HGn
        have HT := HTn
        have HS := HSn
        have HR := HRn
        have HL := HLn
        have HO := HOn
        clear HGn HTn HSn HRn HLn HOn
        clear hg hHeld
        have HY := HYq
        clear HYq
        refine hKx.out _ _ (HH.out _ HG.out HS.out) (fun hHeld => ?_)
        clear hKx Kx
        (try simp only [Act.put])
        generalize W2.alloc (.cells #[.int .i64 0, .slice none 0 0] 26) = W3 at *
        generalize W2.heap.size = Y at *
        refine wpAnyH_ready (rs := [8]) (by kernel_rfl) (by simp) ?_
        refine AllReadyH.cons rfl (fun Kx hKx => ?_) AllReadyH.nil
        refine step_store 26 (.tmp 9) (.tmp 22) Y #[.int .i64 L, .slice u n c] 26 #[.int .i64 0, .slice none 0 0] rfl rfl HY.out sizeU rfl (by simp [Value.oneCell']) ?_
        intro W4 h1 e1 g1
        have T := hide (type_box HY.out)
        have HGn := hide (grown_spoil HG.out (Nat.le_trans (by omega) NY.out) g1)
        have HTn := hide ((e1 w.heap.size (by have := NY.out; omega)).trans HT.out)
        have HSn := hide ((e1 (w.heap.size + 1) (by have := NY.out; omega)).trans HS.out)
        have HRn := hide ((e1 (w.heap.size + 1 + 1) (by have := NY.out; omega)).trans HR.out)
        have HLn := hide (Nat.le_trans HL.out g1.size)
        have HOn := hide (own_type HO.out g1 T.out (by decide))
        have HYn := hide (h1)
        clear HG HT HS HR HL HO HY
        have HG := HGn
        have HT := HTn
        have HS := HSn
        have HR := HRn
        have HL := HLn
        have HO := HOn
        have HY := HYn
        clear HGn HTn HSn HRn HLn HOn HYn
        clear hHeld h1 e1 g1 T
        refine hKx.out _ _ (HH.out _ HG.out HS.out) (fun hHeld => ?_)
        clear hKx Kx
        (try simp only [Act.put])
        refine wpAnyH_done (by kernel_rfl) ?_ _
        clear hHeld
        go_wp2
        go_meet
        case rel => exact ⟨Y, u, c, rfl, HY, HO, HG, HT, HS, HR, HL, NY⟩
      · skip
        go_simp
        have hg := World.grownBy_alloc W1 (.cells #[.int .i64 0, .slice none 0 0] 26) none
        have HYq := hide (heap_alloc_new W1 (.cells #[.int .i64 0, .slice none 0 0] 26))
        have NY := HL
        have HGn := hide (grownBy_trans HG.out hg)
        have HTn := hide (box_grown HT.out hg (by simp))
        have HSn := hide (box_grown HS.out hg (by simp))
        have HRn := hide (box_grown HR.out hg (by simp))
        have HLn := hide (Nat.le_trans HL.out hg.size)
        have HMn := hide (own_kept HM.out hg)
        clear HG HT HS HR HL HM
        have HG := HGn
        have HT := HTn
        have HS := HSn
        have HR := HRn
        have HL := HLn
        have HM := HMn
        clear HGn HTn HSn HRn HLn HMn
        clear hg hHeld
        have HY := HYq
        clear HYq
        refine hKx.out _ _ (HH.out _ HG.out HS.out) (fun hHeld => ?_)
        clear hKx Kx
        (try simp only [Act.put])
        generalize W1.alloc (.cells #[.int .i64 0, .slice none 0 0] 26) = W5 at *
        generalize W1.heap.size = Y at *
        refine wpAnyH_ready (rs := [5]) (by kernel_rfl) (by simp) ?_
        refine AllReadyH.cons rfl (fun Kx hKx => ?_) AllReadyH.nil
        refine step_copyn (S := shN) _ rfl _ _ 24 rfl 3 _ 8 Try.underlying24 infoN rfl (w.heap.size + 1 + 1 + 1) gx rfl HM.out _ zs rfl (RV.out _ HG.out) n HNAT.out (by omega) HL.out 21 rfl ?_
        intro u c W6 ho hgw
        have T := hide (type_own HM.out)
        have HGB := hide (HM.out.lt gx rfl).1
        have HGn := hide (grown_spoil HG.out (Nat.le_trans (by omega) HGB.out) hgw)
        have HTn := hide (box_type HT.out hgw T.out (by decide))
        have HSn := hide (box_type HS.out hgw T.out (by decide))
        have HRn := hide (box_type HR.out hgw T.out (by decide))
        have HYn := hide (box_type HY.out hgw T.out (by decide))
        have HLn := hide (Nat.le_trans HL.out hgw.size)
        clear HG HT HS HR HY HL
        have HG := HGn
        have HT := HTn
        have HS := HSn
        have HR := HRn
        have HY := HYn
        have HL := HLn
        clear HGn HTn HSn HRn HYn HLn
        have HO := hide ho
        clear hHeld ho hgw T HGB HM
        refine hKx.out _ _ (HH.out _ HG.out HS.out) (fun hHeld => ?_)
        clear hKx Kx
        (try simp only [Act.put])
        refine take_put (i := 6) (v := .agg #[.int .i64 L, .slice u n c]) 22 rfl rfl (by kernel_rfl) (by kernel_rfl) (by kernel_rfl) (fun _ _ _ h => h) (Or.inl ⟨by rfl, by intro Wy hSW; go_simp⟩) (by assumption) ?_
        (try simp only [Act.put, List.setIfInBounds_toArray, List.set_cons_zero, List.set_cons_succ])
        refine wpAnyH_ready (rs := [8]) (by kernel_rfl) (by simp) ?_
        refine AllReadyH.cons rfl (fun Kx hKx => ?_) AllReadyH.nil
        refine step_store 26 (.tmp 9) (.tmp 22) Y #[.int .i64 L, .slice u n c] 26 #[.int .i64 0, .slice none 0 0] rfl rfl HY.out sizeU rfl (by simp [Value.oneCell']) ?_
        intro W7 h1 e1 g1
        have T := hide (type_box HY.out)
        have HGn := hide (grown_spoil HG.out (Nat.le_trans (by omega) NY.out) g1)
        have HTn := hide ((e1 w.heap.size (by have := NY.out; omega)).trans HT.out)
        have HSn := hide ((e1 (w.heap.size + 1) (by have := NY.out; omega)).trans HS.out)
        have HRn := hide ((e1 (w.heap.size + 1 + 1) (by have := NY.out; omega)).trans HR.out)
        have HLn := hide (Nat.le_trans HL.out g1.size)
        have HOn := hide (own_type HO.out g1 T.out (by decide))
        have HYn := hide (h1)
        clear HG HT HS HR HL HO HY
        have HG := HGn
        have HT := HTn
        have HS := HSn
        have HR := HRn
        have HL := HLn
        have HO := HOn
        have HY := HYn
        clear HGn HTn HSn HRn HLn HOn HYn
        clear hHeld h1 e1 g1 T
        refine hKx.out _ _ (HH.out _ HG.out HS.out) (fun hHeld => ?_)
        clear hKx Kx
        (try simp only [Act.put])
        refine wpAnyH_done (by kernel_rfl) ?_ _
        clear hHeld
        go_wp2
        go_meet
        case rel => exact ⟨Y, u, c, rfl, HY, HO, HG, HT, HS, HR, HL, NY⟩
    · skip
      go_simp
      have hg := World.grownBy_alloc W (.cells #[.int .i64 0, .slice none 0 0] 26) none
      have HYq := hide (heap_alloc_new W (.cells #[.int .i64 0, .slice none 0 0] 26))
      have NY := HL
      have HGn := hide (grownBy_trans HG.out hg)
      have HTn := hide (box_grown HT.out hg (by simp))
      have HSn := hide (box_grown HS.out hg (by simp))
      have HRn := hide (box_grown HR.out hg (by simp))
      have HLn := hide (Nat.le_trans HL.out hg.size)
      clear HG HT HS HR HL
      have HG := HGn
      have HT := HTn
      have HS := HSn
      have HR := HRn
      have HL := HLn
      clear HGn HTn HSn HRn HLn
      clear hg hHeld
      have HY := HYq
      clear HYq
      refine hKx.out _ _ (HH.out _ HG.out HS.out) (fun hHeld => ?_)
      clear hKx Kx
      (try simp only [Act.put])
      generalize W.alloc (.cells #[.int .i64 0, .slice none 0 0] 26) = W8 at *
      generalize W.heap.size = Y at *
      refine wpAnyH_ready (rs := [2]) (by kernel_rfl) (by simp) ?_
      refine AllReadyH.cons rfl (fun Kx hKx => ?_) AllReadyH.nil
      go_simp
      have hg := World.grownBy_alloc W8 (.cells #[] 3) none
      have HMq := hide (own_mono (lit_own W8 3 1) HL.out)
      have HGn := hide (grownBy_trans HG.out hg)
      have HTn := hide (box_grown HT.out hg (by simp))
      have HSn := hide (box_grown HS.out hg (by simp))
      have HRn := hide (box_grown HR.out hg (by simp))
      have HYn := hide (box_grown HY.out hg (by simp))
      have HLn := hide (Nat.le_trans HL.out hg.size)
      clear HG HT HS HR HY HL
      have HG := HGn
      have HT := HTn
      have HS := HSn
      have HR := HRn
      have HY := HYn
      have HL := HLn
      clear HGn HTn HSn HRn HYn HLn
      clear hg hHeld
      have HM := HMq
      clear HMq
      refine hKx.out _ _ (HH.out _ HG.out HS.out) (fun hHeld => ?_)
      clear hKx Kx
      (try simp only [Act.put])
      generalize W8.alloc (.cells #[] 3) = W9 at *
      generalize W8.heap.size = gx at *
      refine wpAnyH_ready (rs := [5]) (by kernel_rfl) (by simp) ?_
      refine AllReadyH.cons rfl (fun Kx hKx => ?_) AllReadyH.nil
      refine step_copyn (S := shN) _ rfl _ _ 24 rfl 3 _ 8 Try.underlying24 infoN rfl (w.heap.size + 1 + 1 + 1) gx rfl HM.out _ zs rfl (RV.out _ HG.out) n HNAT.out (by omega) HL.out 21 rfl ?_
      intro u c W10 ho hgw
      have T := hide (type_own HM.out)
      have HGB := hide (HM.out.lt gx rfl).1
      have HGn := hide (grown_spoil HG.out (Nat.le_trans (by omega) HGB.out) hgw)
      have HTn := hide (box_type HT.out hgw T.out (by decide))
      have HSn := hide (box_type HS.out hgw T.out (by decide))
      have HRn := hide (box_type HR.out hgw T.out (by decide))
      have HYn := hide (box_type HY.out hgw T.out (by decide))
      have HLn := hide (Nat.le_trans HL.out hgw.size)
      clear HG HT HS HR HY HL
      have HG := HGn
      have HT := HTn
      have HS := HSn
      have HR := HRn
      have HY := HYn
      have HL := HLn
      clear HGn HTn HSn HRn HYn HLn
      have HO := hide ho
      clear hHeld ho hgw T HGB HM
      refine hKx.out _ _ (HH.out _ HG.out HS.out) (fun hHeld => ?_)
      clear hKx Kx
      (try simp only [Act.put])
      refine take_put (i := 6) (v := .agg #[.int .i64 L, .slice u n c]) 22 rfl rfl (by kernel_rfl) (by kernel_rfl) (by kernel_rfl) (fun _ _ _ h => h) (Or.inl ⟨by rfl, by intro Wy hSW; go_simp⟩) (by assumption) ?_
      (try simp only [Act.put, List.setIfInBounds_toArray, List.set_cons_zero, List.set_cons_succ])
      refine wpAnyH_ready (rs := [8]) (by kernel_rfl) (by simp) ?_
      refine AllReadyH.cons rfl (fun Kx hKx => ?_) AllReadyH.nil
      refine step_store 26 (.tmp 9) (.tmp 22) Y #[.int .i64 L, .slice u n c] 26 #[.int .i64 0, .slice none 0 0] rfl rfl HY.out sizeU rfl (by simp [Value.oneCell']) ?_
      intro W11 h1 e1 g1
      have T := hide (type_box HY.out)
      have HGn := hide (grown_spoil HG.out (Nat.le_trans (by omega) NY.out) g1)
      have HTn := hide ((e1 w.heap.size (by have := NY.out; omega)).trans HT.out)
      have HSn := hide ((e1 (w.heap.size + 1) (by have := NY.out; omega)).trans HS.out)
      have HRn := hide ((e1 (w.heap.size + 1 + 1) (by have := NY.out; omega)).trans HR.out)
      have HLn := hide (Nat.le_trans HL.out g1.size)
      have HOn := hide (own_type HO.out g1 T.out (by decide))
      have HYn := hide (h1)
      clear HG HT HS HR HL HO HY
      have HG := HGn
      have HT := HTn
      have HS := HSn
      have HR := HRn
      have HL := HLn
      have HO := HOn
      have HY := HYn
      clear HGn HTn HSn HRn HLn HOn HYn
      clear hHeld h1 e1 g1 T
      refine hKx.out _ _ (HH.out _ HG.out HS.out) (fun hHeld => ?_)
      clear hKx Kx
      (try simp only [Act.put])
      refine wpAnyH_done (by kernel_rfl) ?_ _
      clear hHeld
      go_wp2
      go_meet
      case rel => exact ⟨Y, u, c, rfl, HY, HO, HG, HT, HS, HR, HL, NY⟩
  case rest =>
    obtain ⟨Y, u, c, rfl, HY, HO, HG, HT, HS, HR, HL, NY⟩ := hcut
    obtain ⟨w2, hw2⟩ : ∃ y, y = wc := ⟨_, rfl⟩
    subst hw2
    go_upto_region 4 with (first | fail)
    go_cut [49] (fun b wx => b = .bool (!C) ∧ Hid (w.grownBy wx none) ∧ Hid (w2.grownBy wx none))
    case first =>
      have c0 : w2.cell? ⟨w.heap.size, 0, none⟩ = some (.int .i64 x0) := blk_cell HT.out 0
      have c1 : w2.cell? ⟨w.heap.size, 1, none⟩ = some (.int .i64 x1) := blk_cell HT.out 1
      have c2 : w2.cell? ⟨w.heap.size, 2, none⟩ = some (.int .i64 x2) := blk_cell HT.out 2
      have c3 : w2.cell? ⟨w.heap.size, 3, none⟩ = some (.int .i64 x3) := blk_cell HT.out 3
      have c4 : w2.cell? ⟨w.heap.size, 4, none⟩ = some (.int .i64 x4) := blk_cell HT.out 4
      have c5 : w2.cell? ⟨w.heap.size, 5, none⟩ = some (.int .i64 x5) := blk_cell HT.out 5
      have d0 : w2.cell? ⟨w.heap.size + 1, 0, none⟩ = some (.int .i64 L) := blk_cell HS.out 0
      have d1 : w2.cell? ⟨w.heap.size + 1, 1, none⟩ = some (.slice a n cap) := blk_cell HS.out 1
      by_cases hk : x0 = 1
      · subst hk
        rw [decide_eq_true rfl, Bool.true_and] at CL
        have HC := hide (HC1.out rfl)
        clear HC0 HC1 hk01
        by_cases hz : n = 0
        · have hC : C = false := by rw [HC.out, decide_eq_false (by omega)]; rfl
          subst hz
          subst hC
          clear HC
          go_wp2
          go_meet
          case rel => exact ⟨by first | rfl | simp, HG, hide (grownBy_refl _ _)⟩
        · have hzz : ((n : Int) == 0) = false := by simp; omega
          have hC : C = !Wt := by rw [HC.out, decide_eq_true (by omega), Bool.true_and]
          subst hC
          clear HC
          go_wp2_with (first | fail)
          refine (CL.out _ HG.out).mono ?_; rintro e w3 ⟨rfl, hg⟩
          have HGm := hide (grownBy_trans HG.out hg)
          have HGw := hide hg
          clear hg c0 c1 c2 c3 c4 c5 d0 d1
          go_wp2
          go_meet
          case rel => exact ⟨by cases Wt <;> rfl, HGm, HGw⟩
      · have HC := hide (HC0.out hk)
        obtain rfl : x0 = 0 := by omega
        clear HC0 HC1 hk01 CL
        by_cases hz : now % x1 = 0
        · have hC : C = true := by rw [HC.out, decide_eq_true hz]
          subst hC
          clear HC
          go_wp2
          go_meet
          case rel => exact ⟨by first | rfl | simp, HG, hide (grownBy_refl _ _)⟩
        · have hzz : (now % x1 == 0) = false := by simpa using hz
          have hC : C = false := by rw [HC.out, decide_eq_false hz]
          subst hC
          clear HC
          go_wp2
          go_meet
          case rel => exact ⟨by first | rfl | simp, HG, hide (grownBy_refl _ _)⟩
    case rest =>
      obtain ⟨rfl, HG2, HGw⟩ := hcut
      obtain ⟨w3, hw3⟩ : ∃ y, y = wc := ⟨_, rfl⟩
      subst hw3
      have HT := hide (box_grown HT.out HGw.out (by simp))
      have HS := hide (box_grown HS.out HGw.out (by simp))
      have HR := hide (box_grown HR.out HGw.out (by simp))
      have HY := hide (box_grown HY.out HGw.out (by simp))
      have HO := hide (own_kept HO.out HGw.out)
      have HL := hide (Nat.le_trans HL.out HGw.out.size)
      have HG := HG2
      clear HG2 HGw HC0 HC1 CL
      cases C with
      | false =>
        have y0 : w3.cell? ⟨Y, 0, none⟩ = some (.int .i64 L) := blk_cell HY.out 0
        have y1 : w3.cell? ⟨Y, 1, none⟩ = some (.slice u n c) := blk_cell HY.out 1
        go_wp2_with (first | ((with_reducible refine list_store 26 (.tmp 6) (.tmp 50) (w.heap.size + 1 + 1) #[.int .i64 L, .slice u n c] 26 #[.int .i64 0, .slice none 0 0] ?hx ?hy ?hg ?hi ?ho ?h1 ?_); (case hx => rfl); (case hy => rfl); (case hg => exact HR.out); (case hi => exact sizeU); (case ho => rfl); (case h1 => simp [Value.oneCell']); intro w8 h1 e1 g1; have HRn := hide h1; have HGn := hide (grown_spoil HG.out (Nat.le_trans (Nat.le_succ _) (Nat.le_succ _)) g1); have HOn := hide (own_off HO.out g1 (by omega)); clear h1 e1 g1 HG HR HO) | fail)
        refine bodyPost_ret (results_rtt rfl _ _ (w.heap.size + 1 + 1) 26 #[.int .i64 L, .slice u n c] (0, 0) _ rfl HRn.out Try.underlying26 rfl sizeU) rfl ?_
        refine ⟨_, rfl, ?_, HGn.out⟩
        show Own w.heap.size _ (.slice u n c) zs
        unfold Own
        rw [HNAT.out]
        exact own_mono HOn.out (by omega)
      | true =>
        clear HY HO NY
        have d1 : w3.cell? ⟨w.heap.size + 1, 1, none⟩ = some (.slice a n cap) := blk_cell HS.out 1
        by_cases hz : n = 0
        · obtain rfl : zs = [] := List.length_eq_zero_iff.1 (by have := HNAT.out; omega)
          subst hz
          have hDx : D = x3 := HD.out.symm
          clear HD
          have HDX := hide hDx
          clear hDx
          go_upto_region 7 with (first | fail)
          clear d1
          refine wp_region_held_drew (S := fun W => W.heap[w.heap.size]? = some (.cells #[.int .i64 x0, .int .i64 x1, .int .i64 x2, .int .i64 x3, .int .i64 x4, .int .i64 x5] 23 (0, 0))) (by kernel_rfl) HT.out (fun hHeld => ?_)
          clear HH
          have HH : Hid (∀ W, w.grownBy W none → W.heap[w.heap.size]? = some (.cells #[.int .i64 x0, .int .i64 x1, .int .i64 x2, .int .i64 x3, .int .i64 x4, .int .i64 x5] 23 (0, 0)) → (fun W => W.heap[w.heap.size]? = some (.cells #[.int .i64 x0, .int .i64 x1, .int .i64 x2, .int .i64 x3, .int .i64 x4, .int .i64 x5] 23 (0, 0))) W) := hide (fun W _ hb => hb)
          have HGd : Hid (w.grownBy w3.drew none) := hide (grownBy_trans HG.out (grownBy_draws w3 1 none))
          have HTd : Hid (w3.drew.heap[w.heap.size]? = some (.cells #[.int .i64 x0, .int .i64 x1, .int .i64 x2, .int .i64 x3, .int .i64 x4, .int .i64 x5] 23 (0, 0))) := hide HT.out
          have HSd : Hid (w3.drew.heap[w.heap.size + 1]? = some (.cells #[.int .i64 L, .slice a 0 cap] 26 (0, 0))) := hide HS.out
          have HRd : Hid (w3.drew.heap[w.heap.size + 1 + 1]? = some (.cells #[.int .i64 0, .slice none 0 0] 26 (0, 0))) := hide HR.out
          have HLd : Hid (w.heap.size + 1 + 1 + 1 ≤ (w3.drew).heap.size) := hide HL.out
          clear HG HT HS HR HL
          generalize w3.drew = W at *
          have HG := HGd
          have HT := HTd
          have HS := HSd
          have HR := HRd
          have HL := HLd
          clear HGd HTd HSd HRd HLd
          refine take_put (i := 0) (v := .int .i64 now) 55 rfl rfl (by kernel_rfl) (by kernel_rfl) (by kernel_rfl) (fun _ _ _ h => h) (Or.inl ⟨by rfl, by intro Wy hSW; go_simp⟩) (by assumption) ?_
          (try simp only [Act.put, List.setIfInBounds_toArray, List.set_cons_zero, List.set_cons_succ])
          refine take_put (i := 1) (v := .agg #[.int .i64 now, .slice none 0 0]) 56 rfl rfl (by kernel_rfl) (by kernel_rfl) (by kernel_rfl) (fun _ _ _ h => h) (Or.inl ⟨by rfl, by intro Wy hSW; go_simp⟩) (by assumption) ?_
          (try simp only [Act.put, List.setIfInBounds_toArray, List.set_cons_zero, List.set_cons_succ])
          refine take_put (i := 2) (v := .pointer (some ⟨w.heap.size, 3, none⟩)) 57 rfl rfl (by kernel_rfl) (by kernel_rfl) (by kernel_rfl) (fun _ _ _ h => h) (Or.inl ⟨by rfl, by intro Wy hSW; go_simp⟩) (by assumption) ?_
          (try simp only [Act.put, List.setIfInBounds_toArray, List.set_cons_zero, List.set_cons_succ])
          refine take_put (i := 3) (v := .int .i64 x3) 58 rfl rfl (by kernel_rfl) (by kernel_rfl) (by kernel_rfl) (fun _ _ _ h => h) (Or.inl ⟨by rfl, by intro Wy hSW; have hc := blk_cell hSW 3; go_simp⟩) (by assumption) ?_
          (try simp only [Act.put, List.setIfInBounds_toArray, List.set_cons_zero, List.set_cons_succ])
          refine wpAnyH_ready (rs := [4]) (by kernel_rfl) (by simp) ?_
          refine AllReadyH.cons rfl (fun Kx hKx => ?_) AllReadyH.nil
          refine step_store 26 (.tmp 6) (.tmp 56) (w.heap.size + 1 + 1) #[.int .i64 now, .slice none 0 0] 26 #[.int .i64 0, .slice none 0 0] rfl rfl HR.out sizeU rfl (by simp [Value.oneCell']) ?_
          intro W1 h1 e1 g1
          have HGn := hide (grown_spoil HG.out (Nat.le_trans (Nat.le_succ _) (Nat.le_succ _)) g1)
          have HTn := hide ((e1 w.heap.size (by omega)).trans HT.out)
          have HSn := hide ((e1 (w.heap.size + 1) (by omega)).trans HS.out)
          have HRn := hide (h1)
          clear HG HT HS HR
          have HG := HGn
          have HT := HTn
          have HS := HSn
          have HR := HRn
          clear HGn HTn HSn HRn
          clear hHeld h1 e1 g1
          refine hKx.out _ _ HT.out (fun hHeld => ?_)
          clear hKx Kx
          (try simp only [Act.put])
          refine take_put (i := 5) (v := .int .i64 x3) 7 rfl rfl (by kernel_rfl) (by kernel_rfl) (by kernel_rfl) (fun _ _ _ h => h) (Or.inl ⟨by rfl, by intro Wy hSW; go_simp⟩) (by assumption) ?_
          (try simp only [Act.put, List.setIfInBounds_toArray, List.set_cons_zero, List.set_cons_succ])
          refine take_put (i := 6) (v := .bool true) 8 rfl rfl (by kernel_rfl) (by kernel_rfl) (by kernel_rfl) (fun _ _ _ h => h) (Or.inl ⟨by rfl, by intro Wy hSW; go_simp⟩) (by assumption) ?_
          (try simp only [Act.put, List.setIfInBounds_toArray, List.set_cons_zero, List.set_cons_succ])
          refine wpAnyH_done (by kernel_rfl) ?_ _
          clear hHeld
          go_wp2
          refine bodyPost_ret (results_rtt rfl _ _ (w.heap.size + 1 + 1) 26 #[.int .i64 now, .slice none 0 0] (0, 0) _ rfl HR.out Try.underlying26 rfl sizeU) rfl ?_
          exact ⟨_, by rw [HDX.out]; rfl, own_nil _ _, HG.out⟩
        · obtain ⟨q, rest, rfl⟩ : ∃ q rest, zs = q :: rest := by
            cases zs with
            | nil => exact absurd HNAT.out.symm hz
            | cons q rest => exact ⟨q, rest, rfl⟩
          have hDx : D = q := HD.out.symm
          subst hDx
          clear HD
          obtain ⟨M, hM⟩ : ∃ M, rest.length = M := ⟨_, rfl⟩
          have HM2 := hide hM
          have HNM : Hid (n = M + 1) := hide (by have h1 := HNAT.out; simp only [List.length_cons] at h1; omega)
          have hM4 : M ≤ 4 := by have := HNM.out; omega
          clear hM
          obtain ⟨g, oo, rfl⟩ : ∃ g oo, a = some ⟨g, oo, none⟩ := by
            obtain ⟨-, a2, c2, e, ha⟩ := RV.out _ HG.out
            simp only [Value.slice.injEq] at e
            obtain ⟨rfl, -, rfl⟩ := e
            obtain ⟨g, oo, e, -⟩ := ha (by simp)
            exact ⟨g, oo, e⟩
          have HCQ : Hid (∀ W, w.grownBy W none → W.cell? ⟨g, oo, none⟩ = some (.int .i64 D)) := hide (fun W hg => by
            obtain ⟨-, a2, c2, e, ha⟩ := RV.out W hg
            simp only [Value.slice.injEq] at e
            obtain ⟨rfl, -, rfl⟩ := e
            obtain ⟨g', o', e, -, hc⟩ := ha (by simp)
            simp only [Option.some.injEq, Addr.mk.injEq, and_true] at e
            obtain ⟨rfl, rfl⟩ := e
            have := hc 0 D rfl 0 _ rfl
            simpa using this)
          have hnn : ¬ ((n : Int) < 1) := by omega
          have hnz : ((n : Int) == 0) = false := by simp; omega
          go_upto_region 8 with (first | fail)
          clear d1 HH
          by_cases hcap : cap = 1
          · skip
            subst hcap
            obtain rfl : n = 1 := by
              obtain ⟨-, a2, c2, e, ha⟩ := RV.out _ HG.out
              simp only [Value.slice.injEq] at e
              obtain ⟨rfl, -, rfl⟩ := e
              obtain ⟨g', o', e, hlo, -⟩ := ha (by simp)
              have h1 := hlo.2
              have h2 := HNAT.out
              simp only [List.length_cons] at h1 h2
              omega
            have HH : Hid (∀ W, w.grownBy W none → W.heap[w.heap.size + 1]? = some (.cells #[.int .i64 L, .slice (some ⟨g, oo, none⟩) 1 1] 26 (0, 0)) → (fun W => W.heap[w.heap.size + 1]? = some (.cells #[.int .i64 L, .slice (some ⟨g, oo, none⟩) 1 1] 26 (0, 0)) ∧ W.cell? ⟨g, oo, none⟩ = some (.int .i64 D)) W) := hide (fun W hg hb => ⟨hb, HCQ.out W hg⟩)
            refine wp_region_held_drew (S := fun W => W.heap[w.heap.size + 1]? = some (.cells #[.int .i64 L, .slice (some ⟨g, oo, none⟩) 1 1] 26 (0, 0)) ∧ W.cell? ⟨g, oo, none⟩ = some (.int .i64 D)) (by kernel_rfl) (HH.out _ (grownBy_trans HG.out (grownBy_draws w3 1 none)) HS.out) (fun hHeld => ?_)
            have HGd : Hid (w.grownBy w3.drew none) := hide (grownBy_trans HG.out (grownBy_draws w3 1 none))
            have HTd : Hid (w3.drew.heap[w.heap.size]? = some (.cells #[.int .i64 x0, .int .i64 x1, .int .i64 x2, .int .i64 x3, .int .i64 x4, .int .i64 x5] 23 (0, 0))) := hide HT.out
            have HSd : Hid (w3.drew.heap[w.heap.size + 1]? = some (.cells #[.int .i64 L, .slice (some ⟨g, oo, none⟩) 1 1] 26 (0, 0))) := hide HS.out
            have HRd : Hid (w3.drew.heap[w.heap.size + 1 + 1]? = some (.cells #[.int .i64 0, .slice none 0 0] 26 (0, 0))) := hide HR.out
            have HLd : Hid (w.heap.size + 1 + 1 + 1 ≤ (w3.drew).heap.size) := hide HL.out
            clear HG HT HS HR HL
            generalize w3.drew = W at *
            have HG := HGd
            have HT := HTd
            have HS := HSd
            have HR := HRd
            have HL := HLd
            clear HGd HTd HSd HRd HLd
            refine take_put (i := 0) (v := .int .i64 now) 59 rfl rfl (by kernel_rfl) (by kernel_rfl) (by kernel_rfl) (fun _ _ _ h => h) (Or.inl ⟨by rfl, by intro Wy hSW; go_simp⟩) (by assumption) ?_
            (try simp only [Act.put, List.setIfInBounds_toArray, List.set_cons_zero, List.set_cons_succ])
            refine take_put (i := 2) (v := .pointer (some ⟨w.heap.size + 1, 1, none⟩)) 61 rfl rfl (by kernel_rfl) (by kernel_rfl) (by kernel_rfl) (fun _ _ _ h => h) (Or.inl ⟨by rfl, by intro Wy hSW; go_simp⟩) (by assumption) ?_
            (try simp only [Act.put, List.setIfInBounds_toArray, List.set_cons_zero, List.set_cons_succ])
            refine take_put (i := 3) (v := .slice (some ⟨g, oo, none⟩) 1 1) 62 rfl rfl (by kernel_rfl) (by kernel_rfl) (by kernel_rfl) (fun _ _ _ h => h) (Or.inl ⟨by rfl, by intro Wy hSW; have hc := blk_cell hSW.1 1; go_simp⟩) (by assumption) ?_
            (try simp only [Act.put, List.setIfInBounds_toArray, List.set_cons_zero, List.set_cons_succ])
            refine take_put (i := 4) (v := .slice (some ⟨g, oo, none⟩) 0 0) 63 rfl rfl (by kernel_rfl) (by kernel_rfl) (by kernel_rfl) (fun _ _ _ h => h) (Or.inl ⟨by rfl, by intro Wy hSW; have hc := hnn; go_simp⟩) (by assumption) ?_
            (try simp only [Act.put, List.setIfInBounds_toArray, List.set_cons_zero, List.set_cons_succ])
            refine take_put (i := 7) (v := .pointer (some ⟨w.heap.size + 1, 1, none⟩)) 66 rfl rfl (by kernel_rfl) (by kernel_rfl) (by kernel_rfl) (fun _ _ _ h => h) (Or.inl ⟨by rfl, by intro Wy hSW; go_simp⟩) (by assumption) ?_
            (try simp only [Act.put, List.setIfInBounds_toArray, List.set_cons_zero, List.set_cons_succ])
            refine take_put (i := 8) (v := .slice (some ⟨g, oo, none⟩) 1 1) 67 rfl rfl (by kernel_rfl) (by kernel_rfl) (by kernel_rfl) (fun _ _ _ h => h) (Or.inl ⟨by rfl, by intro Wy hSW; have hc := blk_cell hSW.1 1; go_simp⟩) (by assumption) ?_
            (try simp only [Act.put, List.setIfInBounds_toArray, List.set_cons_zero, List.set_cons_succ])
            refine take_put (i := 9) (v := .pointer (some ⟨g, oo, none⟩)) 68 rfl rfl (by kernel_rfl) (by kernel_rfl) (by kernel_rfl) (fun _ _ _ h => h) (Or.inl ⟨by rfl, by intro Wy hSW; have hc := hnn; go_simp⟩) (by assumption) ?_
            (try simp only [Act.put, List.setIfInBounds_toArray, List.set_cons_zero, List.set_cons_succ])
            refine take_put (i := 10) (v := .int .i64 D) 69 rfl rfl (by kernel_rfl) (by kernel_rfl) (by kernel_rfl) (fun _ _ _ h => h) (Or.inl ⟨by rfl, by intro Wy hSW; have hc := hSW.2; go_simp⟩) (by assumption) ?_
            (try simp only [Act.put, List.setIfInBounds_toArray, List.set_cons_zero, List.set_cons_succ])
            refine wpAnyH_ready (rs := [1]) (by kernel_rfl) (by simp) ?_
            refine AllReadyH.cons rfl (fun Kx hKx => ?_) AllReadyH.nil
            go_simp
            have hg := World.grownBy_alloc W (.cells #[] 3) none
            have HMq := hide (own_mono (lit_own W 3 1) HL.out)
            have HGn := hide (grownBy_trans HG.out hg)
            have HTn := hide (box_grown HT.out hg (by simp))
            have HSn := hide (box_grown HS.out hg (by simp))
            have HRn := hide (box_grown HR.out hg (by simp))
            have HLn := hide (Nat.le_trans HL.out hg.size)
            clear HG HT HS HR HL
            have HG := HGn
            have HT := HTn
            have HS := HSn
            have HR := HRn
            have HL := HLn
            clear HGn HTn HSn HRn HLn
            clear hg hHeld
            have HM := HMq
            clear HMq
            refine hKx.out _ _ (HH.out _ HG.out HS.out) (fun hHeld => ?_)
            clear hKx Kx
            (try simp only [Act.put])
            generalize W.alloc (.cells #[] 3) = W1 at *
            generalize W.heap.size = gx at *
            refine wpAnyH_ready (rs := [5]) (by kernel_rfl) (by simp) ?_
            refine AllReadyH.cons rfl (fun Kx hKx => ?_) AllReadyH.nil
            refine step_copyn (S := shN) _ rfl _ _ 24 rfl 3 _ 8 Try.underlying24 infoN rfl (w.heap.size + 1 + 1 + 1) gx rfl HM.out _ rest rfl (row_tail1 (RV.out _ HG.out)) M HM2.out (by omega) HL.out 64 rfl ?_
            intro u c W2 ho hgw
            have T := hide (type_own HM.out)
            have HGB := hide (HM.out.lt gx rfl).1
            have HGn := hide (grown_spoil HG.out (Nat.le_trans (by omega) HGB.out) hgw)
            have HTn := hide (box_type HT.out hgw T.out (by decide))
            have HSn := hide (box_type HS.out hgw T.out (by decide))
            have HRn := hide (box_type HR.out hgw T.out (by decide))
            have HLn := hide (Nat.le_trans HL.out hgw.size)
            clear HG HT HS HR HL
            have HG := HGn
            have HT := HTn
            have HS := HSn
            have HR := HRn
            have HL := HLn
            clear HGn HTn HSn HRn HLn
            have HO := hide ho
            clear hHeld ho hgw T HGB HM
            refine hKx.out _ _ (HH.out _ HG.out HS.out) (fun hHeld => ?_)
            clear hKx Kx
            (try simp only [Act.put])
            refine take_put (i := 6) (v := .agg #[.int .i64 now, .slice u M c]) 65 rfl rfl (by kernel_rfl) (by kernel_rfl) (by kernel_rfl) (fun _ _ _ h => h) (Or.inl ⟨by rfl, by intro Wy hSW; go_simp⟩) (by assumption) ?_
            (try simp only [Act.put, List.setIfInBounds_toArray, List.set_cons_zero, List.set_cons_succ])
            refine wpAnyH_ready (rs := [11]) (by kernel_rfl) (by simp) ?_
            refine AllReadyH.cons rfl (fun Kx hKx => ?_) AllReadyH.nil
            refine step_store 26 (.tmp 6) (.tmp 65) (w.heap.size + 1 + 1) #[.int .i64 now, .slice u M c] 26 #[.int .i64 0, .slice none 0 0] rfl rfl HR.out sizeU rfl (by simp [Value.oneCell']) ?_
            intro W3 h1 e1 g1
            have HGn := hide (grown_spoil HG.out (Nat.le_trans (Nat.le_succ _) (Nat.le_succ _)) g1)
            have HTn := hide ((e1 w.heap.size (by omega)).trans HT.out)
            have HSn := hide ((e1 (w.heap.size + 1) (by omega)).trans HS.out)
            have HRn := hide (h1)
            have HOn := hide (own_off HO.out g1 (by omega))
            clear HG HT HS HR HO
            have HG := HGn
            have HT := HTn
            have HS := HSn
            have HR := HRn
            have HO := HOn
            clear HGn HTn HSn HRn HOn
            clear hHeld h1 e1 g1
            refine hKx.out _ _ (HH.out _ HG.out HS.out) (fun hHeld => ?_)
            clear hKx Kx
            (try simp only [Act.put])
            refine take_put (i := 12) (v := .int .i64 D) 7 rfl rfl (by kernel_rfl) (by kernel_rfl) (by kernel_rfl) (fun _ _ _ h => h) (Or.inl ⟨by rfl, by intro Wy hSW; go_simp⟩) (by assumption) ?_
            (try simp only [Act.put, List.setIfInBounds_toArray, List.set_cons_zero, List.set_cons_succ])
            refine take_put (i := 13) (v := .bool true) 8 rfl rfl (by kernel_rfl) (by kernel_rfl) (by kernel_rfl) (fun _ _ _ h => h) (Or.inl ⟨by rfl, by intro Wy hSW; go_simp⟩) (by assumption) ?_
            (try simp only [Act.put, List.setIfInBounds_toArray, List.set_cons_zero, List.set_cons_succ])
            refine wpAnyH_done (by kernel_rfl) ?_ _
            clear hHeld
            go_wp2
            refine bodyPost_ret (results_rtt rfl _ _ (w.heap.size + 1 + 1) 26 #[.int .i64 now, .slice u M c] (0, 0) _ rfl HR.out Try.underlying26 rfl sizeU) rfl ?_
            refine ⟨_, rfl, ?_, HG.out⟩
            show Own w.heap.size _ (.slice u M c) rest
            unfold Own
            rw [HM2.out]
            exact own_mono HO.out (by omega)
          · skip
            have hcc : n ≤ cap ∧ cap ≠ 1 := ⟨by
              obtain ⟨-, a2, c2, e, ha⟩ := RV.out _ HG.out
              simp only [Value.slice.injEq] at e
              obtain ⟨rfl, -, rfl⟩ := e
              obtain ⟨g', o', e, hlo, -⟩ := ha (by simp)
              have h1 := hlo.2
              have h2 := HNAT.out
              simp only [List.length_cons] at h1 h2
              omega, hcap⟩
            have HH : Hid (∀ W, w.grownBy W none → W.heap[w.heap.size + 1]? = some (.cells #[.int .i64 L, .slice (some ⟨g, oo, none⟩) n cap] 26 (0, 0)) → (fun W => W.heap[w.heap.size + 1]? = some (.cells #[.int .i64 L, .slice (some ⟨g, oo, none⟩) n cap] 26 (0, 0)) ∧ W.cell? ⟨g, oo, none⟩ = some (.int .i64 D)) W) := hide (fun W hg hb => ⟨hb, HCQ.out W hg⟩)
            refine wp_region_held_drew (S := fun W => W.heap[w.heap.size + 1]? = some (.cells #[.int .i64 L, .slice (some ⟨g, oo, none⟩) n cap] 26 (0, 0)) ∧ W.cell? ⟨g, oo, none⟩ = some (.int .i64 D)) (by kernel_rfl) (HH.out _ (grownBy_trans HG.out (grownBy_draws w3 1 none)) HS.out) (fun hHeld => ?_)
            have HGd : Hid (w.grownBy w3.drew none) := hide (grownBy_trans HG.out (grownBy_draws w3 1 none))
            have HTd : Hid (w3.drew.heap[w.heap.size]? = some (.cells #[.int .i64 x0, .int .i64 x1, .int .i64 x2, .int .i64 x3, .int .i64 x4, .int .i64 x5] 23 (0, 0))) := hide HT.out
            have HSd : Hid (w3.drew.heap[w.heap.size + 1]? = some (.cells #[.int .i64 L, .slice (some ⟨g, oo, none⟩) n cap] 26 (0, 0))) := hide HS.out
            have HRd : Hid (w3.drew.heap[w.heap.size + 1 + 1]? = some (.cells #[.int .i64 0, .slice none 0 0] 26 (0, 0))) := hide HR.out
            have HLd : Hid (w.heap.size + 1 + 1 + 1 ≤ (w3.drew).heap.size) := hide HL.out
            clear HG HT HS HR HL
            generalize w3.drew = W at *
            have HG := HGd
            have HT := HTd
            have HS := HSd
            have HR := HRd
            have HL := HLd
            clear HGd HTd HSd HRd HLd
            refine take_put (i := 0) (v := .int .i64 now) 59 rfl rfl (by kernel_rfl) (by kernel_rfl) (by kernel_rfl) (fun _ _ _ h => h) (Or.inl ⟨by rfl, by intro Wy hSW; go_simp⟩) (by assumption) ?_
            (try simp only [Act.put, List.setIfInBounds_toArray, List.set_cons_zero, List.set_cons_succ])
            refine take_put (i := 2) (v := .pointer (some ⟨w.heap.size + 1, 1, none⟩)) 61 rfl rfl (by kernel_rfl) (by kernel_rfl) (by kernel_rfl) (fun _ _ _ h => h) (Or.inl ⟨by rfl, by intro Wy hSW; go_simp⟩) (by assumption) ?_
            (try simp only [Act.put, List.setIfInBounds_toArray, List.set_cons_zero, List.set_cons_succ])
            refine take_put (i := 3) (v := .slice (some ⟨g, oo, none⟩) n cap) 62 rfl rfl (by kernel_rfl) (by kernel_rfl) (by kernel_rfl) (fun _ _ _ h => h) (Or.inl ⟨by rfl, by intro Wy hSW; have hc := blk_cell hSW.1 1; go_simp⟩) (by assumption) ?_
            (try simp only [Act.put, List.setIfInBounds_toArray, List.set_cons_zero, List.set_cons_succ])
            refine take_put (i := 4) (v := .slice (some ⟨g, oo + 1, none⟩) (n - 1) (cap - 1)) 63 rfl rfl (by kernel_rfl) (by kernel_rfl) (by kernel_rfl) (fun _ _ _ h => h) (Or.inl ⟨by rfl, by intro Wy hSW; have hc := hnn; go_simp⟩) (by assumption) ?_
            (try simp only [Act.put, List.setIfInBounds_toArray, List.set_cons_zero, List.set_cons_succ])
            refine take_put (i := 7) (v := .pointer (some ⟨w.heap.size + 1, 1, none⟩)) 66 rfl rfl (by kernel_rfl) (by kernel_rfl) (by kernel_rfl) (fun _ _ _ h => h) (Or.inl ⟨by rfl, by intro Wy hSW; go_simp⟩) (by assumption) ?_
            (try simp only [Act.put, List.setIfInBounds_toArray, List.set_cons_zero, List.set_cons_succ])
            refine take_put (i := 8) (v := .slice (some ⟨g, oo, none⟩) n cap) 67 rfl rfl (by kernel_rfl) (by kernel_rfl) (by kernel_rfl) (fun _ _ _ h => h) (Or.inl ⟨by rfl, by intro Wy hSW; have hc := blk_cell hSW.1 1; go_simp⟩) (by assumption) ?_
            (try simp only [Act.put, List.setIfInBounds_toArray, List.set_cons_zero, List.set_cons_succ])
            refine take_put (i := 9) (v := .pointer (some ⟨g, oo, none⟩)) 68 rfl rfl (by kernel_rfl) (by kernel_rfl) (by kernel_rfl) (fun _ _ _ h => h) (Or.inl ⟨by rfl, by intro Wy hSW; have hc := hnn; go_simp⟩) (by assumption) ?_
            (try simp only [Act.put, List.setIfInBounds_toArray, List.set_cons_zero, List.set_cons_succ])
            refine take_put (i := 10) (v := .int .i64 D) 69 rfl rfl (by kernel_rfl) (by kernel_rfl) (by kernel_rfl) (fun _ _ _ h => h) (Or.inl ⟨by rfl, by intro Wy hSW; have hc := hSW.2; go_simp⟩) (by assumption) ?_
            (try simp only [Act.put, List.setIfInBounds_toArray, List.set_cons_zero, List.set_cons_succ])
            refine wpAnyH_ready (rs := [1]) (by kernel_rfl) (by simp) ?_
            refine AllReadyH.cons rfl (fun Kx hKx => ?_) AllReadyH.nil
            go_simp
            have hg := World.grownBy_alloc W (.cells #[] 3) none
            have HMq := hide (own_mono (lit_own W 3 1) HL.out)
            have HGn := hide (grownBy_trans HG.out hg)
            have HTn := hide (box_grown HT.out hg (by simp))
            have HSn := hide (box_grown HS.out hg (by simp))
            have HRn := hide (box_grown HR.out hg (by simp))
            have HLn := hide (Nat.le_trans HL.out hg.size)
            clear HG HT HS HR HL
            have HG := HGn
            have HT := HTn
            have HS := HSn
            have HR := HRn
            have HL := HLn
            clear HGn HTn HSn HRn HLn
            clear hg hHeld
            have HM := HMq
            clear HMq
            refine hKx.out _ _ (HH.out _ HG.out HS.out) (fun hHeld => ?_)
            clear hKx Kx
            (try simp only [Act.put])
            generalize W.alloc (.cells #[] 3) = W1 at *
            generalize W.heap.size = gx at *
            refine wpAnyH_ready (rs := [5]) (by kernel_rfl) (by simp) ?_
            refine AllReadyH.cons rfl (fun Kx hKx => ?_) AllReadyH.nil
            refine step_copyn (S := shN) _ rfl _ _ 24 rfl 3 _ 8 Try.underlying24 infoN rfl (w.heap.size + 1 + 1 + 1) gx rfl HM.out _ rest rfl (row_tail (RV.out _ HG.out)) M HM2.out (by omega) HL.out 64 rfl ?_
            intro u c W2 ho hgw
            have T := hide (type_own HM.out)
            have HGB := hide (HM.out.lt gx rfl).1
            have HGn := hide (grown_spoil HG.out (Nat.le_trans (by omega) HGB.out) hgw)
            have HTn := hide (box_type HT.out hgw T.out (by decide))
            have HSn := hide (box_type HS.out hgw T.out (by decide))
            have HRn := hide (box_type HR.out hgw T.out (by decide))
            have HLn := hide (Nat.le_trans HL.out hgw.size)
            clear HG HT HS HR HL
            have HG := HGn
            have HT := HTn
            have HS := HSn
            have HR := HRn
            have HL := HLn
            clear HGn HTn HSn HRn HLn
            have HO := hide ho
            clear hHeld ho hgw T HGB HM
            refine hKx.out _ _ (HH.out _ HG.out HS.out) (fun hHeld => ?_)
            clear hKx Kx
            (try simp only [Act.put])
            refine take_put (i := 6) (v := .agg #[.int .i64 now, .slice u M c]) 65 rfl rfl (by kernel_rfl) (by kernel_rfl) (by kernel_rfl) (fun _ _ _ h => h) (Or.inl ⟨by rfl, by intro Wy hSW; go_simp⟩) (by assumption) ?_
            (try simp only [Act.put, List.setIfInBounds_toArray, List.set_cons_zero, List.set_cons_succ])
            refine wpAnyH_ready (rs := [11]) (by kernel_rfl) (by simp) ?_
            refine AllReadyH.cons rfl (fun Kx hKx => ?_) AllReadyH.nil
            refine step_store 26 (.tmp 6) (.tmp 65) (w.heap.size + 1 + 1) #[.int .i64 now, .slice u M c] 26 #[.int .i64 0, .slice none 0 0] rfl rfl HR.out sizeU rfl (by simp [Value.oneCell']) ?_
            intro W3 h1 e1 g1
            have HGn := hide (grown_spoil HG.out (Nat.le_trans (Nat.le_succ _) (Nat.le_succ _)) g1)
            have HTn := hide ((e1 w.heap.size (by omega)).trans HT.out)
            have HSn := hide ((e1 (w.heap.size + 1) (by omega)).trans HS.out)
            have HRn := hide (h1)
            have HOn := hide (own_off HO.out g1 (by omega))
            clear HG HT HS HR HO
            have HG := HGn
            have HT := HTn
            have HS := HSn
            have HR := HRn
            have HO := HOn
            clear HGn HTn HSn HRn HOn
            clear hHeld h1 e1 g1
            refine hKx.out _ _ (HH.out _ HG.out HS.out) (fun hHeld => ?_)
            clear hKx Kx
            (try simp only [Act.put])
            refine take_put (i := 12) (v := .int .i64 D) 7 rfl rfl (by kernel_rfl) (by kernel_rfl) (by kernel_rfl) (fun _ _ _ h => h) (Or.inl ⟨by rfl, by intro Wy hSW; go_simp⟩) (by assumption) ?_
            (try simp only [Act.put, List.setIfInBounds_toArray, List.set_cons_zero, List.set_cons_succ])
            refine take_put (i := 13) (v := .bool true) 8 rfl rfl (by kernel_rfl) (by kernel_rfl) (by kernel_rfl) (fun _ _ _ h => h) (Or.inl ⟨by rfl, by intro Wy hSW; go_simp⟩) (by assumption) ?_
            (try simp only [Act.put, List.setIfInBounds_toArray, List.set_cons_zero, List.set_cons_succ])
            refine wpAnyH_done (by kernel_rfl) ?_ _
            clear hHeld
            go_wp2
            refine bodyPost_ret (results_rtt rfl _ _ (w.heap.size + 1 + 1) 26 #[.int .i64 now, .slice u M c] (0, 0) _ rfl HR.out Try.underlying26 rfl sizeU) rfl ?_
            refine ⟨_, rfl, ?_, HG.out⟩
            show Own w.heap.size _ (.slice u M c) rest
            unfold Own
            rw [HM2.out]
            exact own_mono HO.out (by omega)

theorem rrel_any {lo : Nat} (t : TaskV) (L : Int) (v : Value) (zs : List Int) (now : Int) (w : World) (hv : RowAt shN lo w v zs) :
    Calls Try.prog 12 #[taskVal t, .agg #[.int .i64 L, v], .int .i64 now] w fun e w' => ∃ v', e = .returned (.tuple #[.agg #[.int .i64 (relS t ⟨L, zs⟩ now).last, v'], .int .i64 (relD t ⟨L, zs⟩ now), .bool (isB t ⟨L, zs⟩ now)]) ∧ Own w.heap.size w' v' (relS t ⟨L, zs⟩ now).picks ∧ w.grownBy w' none := by
  have hv0 := hv
  obtain ⟨-, a, cap, rfl, -⟩ := hv0
  unfold relD isB relS
  cases hm : atMay t ⟨L, zs⟩ now with
  | false => exact rrel_no t L a _ cap zs now w hv hm
  | true =>
    rw [Bool.true_and]
    have h := rrel_yes t L a _ cap zs now w hv hm
    cases hc : comesB t ⟨L, zs⟩ now with
    | false => rw [hc] at h; exact h
    | true => rw [hc] at h; exact h
#print axioms rrel_any
end Go.Proofs.Ytephnppanbckkaa
