/- The contract of package task's Pick, proved over the translation. -/
import Derived.Test.YtlppfocoonnpjaaGreatDoorQd
namespace Go.Proofs.YtlppfocoonnpjaaGreatDoor.U
open Go.RowKit
attribute [local go_sem] alloc_drewN setCell_drewN

set_option maxRecDepth 100000 in
set_option maxHeartbeats 2000000 in
theorem pick_bad {lo : Nat} (t : TaskV) (L : Int) (a : Option Addr) (n cap : Nat) (zs : List Int) (d : Int) (w : World) (hv : RowAt shN lo w (.slice a n cap) zs) (hm : (taskMay t && (turnsMay ⟨L, zs⟩ && demMay d)) = false) :
    Calls Tryz.prog 60 #[taskVal t, .agg #[.int .i64 L, .slice a n cap], .int .i64 d] w fun e w' => ∃ v', e = .returned (.tuple #[.agg #[.int .i64 0, v'], .int .i64 1100]) ∧ Own w.heap.size w' v' [] ∧ w.grownBy w' none := by
  have CT := hide (fun W => task_any t W)
  have CU := hide (fun W (hg : w.grownBy W none) => mayTurns_any L (.slice a n cap) zs W (hv.grown hg))
  have CD := hide (fun W => demand_any d W)
  clear hv
  generalize taskMay t = b1 at *
  generalize turnsMay ⟨L, zs⟩ = b2 at *
  generalize demMay d = b3 at *
  obtain ⟨x0, x1, x2, x3, x4, x5⟩ := t
  cases b1 with
  | false =>
    clear hm
    go_enter Tryz.func60, Tryz.ntmps60
    go_wp2_with (first | fail)
    refine (CT.out _).mono ?_; rintro e w1 ⟨rfl, hg⟩
    have HG := hide (grownBy_trans (grownBy_trans (grownBy_trans (World.grownBy_alloc _ _ _) (World.grownBy_alloc _ _ _)) (World.grownBy_alloc _ _ _)) hg)
    have HB := hide (box_grown (hp_up (alloc_next w _ (.cells #[.int .i64 L, .slice a n cap] 93)) _) hg (by simp))
    have HR := hide (box_grown (alloc_third w _ _ (.cells #[.int .i64 0, .slice none 0 0] 93)) hg (by simp))
    clear hg CT
    go_wp2_with (first | ((with_reducible refine list_store 93 (.tmp 6) (.tmp 21) (w.heap.size + 1 + 1) #[.int .i64 0, .slice none 0 0] 93 #[.int .i64 0, .slice none 0 0] ?hx ?hy ?hg ?hi ?ho ?h1 ?_); (case hx => rfl); (case hy => rfl); (case hg => exact HR.out); (case hi => exact sizeU); (case ho => rfl); (case h1 => simp [Value.oneCell']); intro w8 h1 e1 g1; have HRn := hide h1; have HGn := hide (grown_spoil HG.out (Nat.le_trans (Nat.le_succ _) (Nat.le_succ _)) g1); clear h1 e1 g1 HG HR) | fail)
    refine bodyPost_ret (results_row_tmp rfl _ _ (w.heap.size + 1 + 1) 93 #[.int .i64 0, .slice none 0 0] (0, 0) _ rfl HRn.out Tryz.underlying93 rfl sizeU) rfl ?_
    exact ⟨_, rfl, own_nil _ _, HGn.out⟩
  | true =>
    rw [Bool.true_and] at hm
    cases b2 with
    | false =>
      clear hm
      go_enter Tryz.func60, Tryz.ntmps60
      go_wp2_with (first | fail)
      refine (CT.out _).mono ?_; rintro e w1 ⟨rfl, hg⟩
      have HG := hide (grownBy_trans (grownBy_trans (grownBy_trans (World.grownBy_alloc _ _ _) (World.grownBy_alloc _ _ _)) (World.grownBy_alloc _ _ _)) hg)
      have HB := hide (box_grown (hp_up (alloc_next w _ (.cells #[.int .i64 L, .slice a n cap] 93)) _) hg (by simp))
      have HR := hide (box_grown (alloc_third w _ _ (.cells #[.int .i64 0, .slice none 0 0] 93)) hg (by simp))
      clear hg CT
      have d0 := blk_cell HB.out 0
      have d1 := blk_cell HB.out 1
      go_wp2_with (first | fail)
      refine (CU.out _ HG.out).mono ?_; rintro e w2 ⟨rfl, hg⟩
      have HGn := hide (grownBy_trans HG.out hg)
      have HBn := hide (box_grown HB.out hg (by simp))
      have HRn := hide (box_grown HR.out hg (by simp))
      clear hg HG HB HR d0 d1 CU
      have HG := HGn
      have HB := HBn
      have HR := HRn
      clear HGn HBn HRn
      go_wp2_with (first | ((with_reducible refine list_store 93 (.tmp 6) (.tmp 21) (w.heap.size + 1 + 1) #[.int .i64 0, .slice none 0 0] 93 #[.int .i64 0, .slice none 0 0] ?hx ?hy ?hg ?hi ?ho ?h1 ?_); (case hx => rfl); (case hy => rfl); (case hg => exact HR.out); (case hi => exact sizeU); (case ho => rfl); (case h1 => simp [Value.oneCell']); intro w8 h1 e1 g1; have HRn := hide h1; have HGn := hide (grown_spoil HG.out (Nat.le_trans (Nat.le_succ _) (Nat.le_succ _)) g1); clear h1 e1 g1 HG HR) | fail)
      refine bodyPost_ret (results_row_tmp rfl _ _ (w.heap.size + 1 + 1) 93 #[.int .i64 0, .slice none 0 0] (0, 0) _ rfl HRn.out Tryz.underlying93 rfl sizeU) rfl ?_
      exact ⟨_, rfl, own_nil _ _, HGn.out⟩
    | true =>
      rw [Bool.true_and] at hm
      subst hm
      go_enter Tryz.func60, Tryz.ntmps60
      go_wp2_with (first | fail)
      refine (CT.out _).mono ?_; rintro e w1 ⟨rfl, hg⟩
      have HG := hide (grownBy_trans (grownBy_trans (grownBy_trans (World.grownBy_alloc _ _ _) (World.grownBy_alloc _ _ _)) (World.grownBy_alloc _ _ _)) hg)
      have HB := hide (box_grown (hp_up (alloc_next w _ (.cells #[.int .i64 L, .slice a n cap] 93)) _) hg (by simp))
      have HR := hide (box_grown (alloc_third w _ _ (.cells #[.int .i64 0, .slice none 0 0] 93)) hg (by simp))
      clear hg CT
      have d0 := blk_cell HB.out 0
      have d1 := blk_cell HB.out 1
      go_wp2_with (first | fail)
      refine (CU.out _ HG.out).mono ?_; rintro e w2 ⟨rfl, hg⟩
      have HGn := hide (grownBy_trans HG.out hg)
      have HBn := hide (box_grown HB.out hg (by simp))
      have HRn := hide (box_grown HR.out hg (by simp))
      clear hg HG HB HR d0 d1 CU
      have HG := HGn
      have HB := HBn
      have HR := HRn
      clear HGn HBn HRn
      go_wp2_with (first | fail)
      refine (CD.out _).mono ?_; rintro e w' ⟨rfl, rfl⟩
      go_wp2_with (first | ((with_reducible refine list_store 93 (.tmp 6) (.tmp 21) (w.heap.size + 1 + 1) #[.int .i64 0, .slice none 0 0] 93 #[.int .i64 0, .slice none 0 0] ?hx ?hy ?hg ?hi ?ho ?h1 ?_); (case hx => rfl); (case hy => rfl); (case hg => exact HR.out); (case hi => exact sizeU); (case ho => rfl); (case h1 => simp [Value.oneCell']); intro w8 h1 e1 g1; have HRn := hide h1; have HGn := hide (grown_spoil HG.out (Nat.le_trans (Nat.le_succ _) (Nat.le_succ _)) g1); clear h1 e1 g1 HG HR) | fail)
      refine bodyPost_ret (results_row_tmp rfl _ _ (w.heap.size + 1 + 1) 93 #[.int .i64 0, .slice none 0 0] (0, 0) _ rfl HRn.out Tryz.underlying93 rfl sizeU) rfl ?_
      exact ⟨_, rfl, own_nil _ _, HGn.out⟩
set_option maxRecDepth 100000 in
set_option maxHeartbeats 2000000 in
theorem pick_full {lo : Nat} (t : TaskV) (L : Int) (a : Option Addr) (n cap : Nat) (zs : List Int) (d : Int) (w : World) (hv : RowAt shN lo w (.slice a n cap) zs) (h1 : taskMay t = true) (h2 : turnsMay ⟨L, zs⟩ = true) (h3 : demMay d = true) (hn : n = 4) :
    Calls Tryz.prog 60 #[taskVal t, .agg #[.int .i64 L, .slice a n cap], .int .i64 d] w fun e w' => ∃ v', e = .returned (.tuple #[.agg #[.int .i64 0, v'], .int .i64 1101]) ∧ Own w.heap.size w' v' [] ∧ w.grownBy w' none := by
  have CT := hide (fun W => task_any t W)
  have CU := hide (fun W (hg : w.grownBy W none) => mayTurns_any L (.slice a n cap) zs W (hv.grown hg))
  have CD := hide (fun W => demand_any d W)
  rw [h1] at CT
  rw [h2] at CU
  rw [h3] at CD
  clear hv h1 h2 h3
  subst hn
  obtain ⟨x0, x1, x2, x3, x4, x5⟩ := t
  go_enter Tryz.func60, Tryz.ntmps60
  go_wp2_with (first | fail)
  refine (CT.out _).mono ?_; rintro e w1 ⟨rfl, hg⟩
  have HG := hide (grownBy_trans (grownBy_trans (grownBy_trans (World.grownBy_alloc _ _ _) (World.grownBy_alloc _ _ _)) (World.grownBy_alloc _ _ _)) hg)
  have HB := hide (box_grown (hp_up (alloc_next w _ (.cells #[.int .i64 L, .slice a 4 cap] 93)) _) hg (by simp))
  have HR := hide (box_grown (alloc_third w _ _ (.cells #[.int .i64 0, .slice none 0 0] 93)) hg (by simp))
  clear hg CT
  have d0 := blk_cell HB.out 0
  have d1 := blk_cell HB.out 1
  go_wp2_with (first | fail)
  refine (CU.out _ HG.out).mono ?_; rintro e w2 ⟨rfl, hg⟩
  have HGn := hide (grownBy_trans HG.out hg)
  have HBn := hide (box_grown HB.out hg (by simp))
  have HRn := hide (box_grown HR.out hg (by simp))
  clear hg HG HB HR d0 d1 CU
  have HG := HGn
  have HB := HBn
  have HR := HRn
  clear HGn HBn HRn
  have d1 := blk_cell HB.out 1
  go_wp2_with (first | fail)
  refine (CD.out _).mono ?_; rintro e w' ⟨rfl, rfl⟩
  go_wp2_with (first | ((with_reducible refine list_store 93 (.tmp 6) (.tmp 26) (w.heap.size + 1 + 1) #[.int .i64 0, .slice none 0 0] 93 #[.int .i64 0, .slice none 0 0] ?hx ?hy ?hg ?hi ?ho ?h1 ?_); (case hx => rfl); (case hy => rfl); (case hg => exact HR.out); (case hi => exact sizeU); (case ho => rfl); (case h1 => simp [Value.oneCell']); intro w8 h1 e1 g1; have HRn := hide h1; have HGn := hide (grown_spoil HG.out (Nat.le_trans (Nat.le_succ _) (Nat.le_succ _)) g1); clear h1 e1 g1 HG HR) | fail)
  refine bodyPost_ret (results_row_tmp rfl _ _ (w.heap.size + 1 + 1) 93 #[.int .i64 0, .slice none 0 0] (0, 0) _ rfl HRn.out Tryz.underlying93 rfl sizeU) rfl ?_
  exact ⟨_, rfl, own_nil _ _, HGn.out⟩
set_option maxRecDepth 100000 in
set_option maxHeartbeats 2000000 in
theorem pick_room {lo : Nat} (t : TaskV) (L : Int) (a : Option Addr) (n cap : Nat) (zs : List Int) (d : Int) (w : World) (hv : RowAt shN lo w (.slice a n cap) zs) (h1 : taskMay t = true) (h2 : turnsMay ⟨L, zs⟩ = true) (h3 : demMay d = true) (hn : n ≠ 4) :
    Calls Tryz.prog 60 #[taskVal t, .agg #[.int .i64 L, .slice a n cap], .int .i64 d] w fun e w' => ∃ v', e = .returned (.tuple #[.agg #[.int .i64 L, v'], .int .i64 0]) ∧ Own w.heap.size w' v' (zs ++ [d]) ∧ w.grownBy w' none := by
  have CT := hide (fun W => task_any t W)
  have CU := hide (fun W (hg : w.grownBy W none) => mayTurns_any L (.slice a n cap) zs W (hv.grown hg))
  have CD := hide (fun W => demand_any d W)
  rw [h1] at CT
  rw [h2] at CU
  rw [h3] at CD
  have hN : zs.length = n := by obtain ⟨-, a2, c2, e, -⟩ := hv; simp only [Value.slice.injEq] at e; exact e.2.1.symm
  have h4 : n ≤ 4 := by
    unfold turnsMay at h2
    simp only [Bool.and_eq_true, decide_eq_true_eq] at h2
    have := h2.2.2.1
    omega
  have CC := hide (fun W (hg : w.grownBy W none) => (copied_any (.slice a n cap) zs (by omega) W (hv.grown hg)))
  unfold Own at CC
  rw [hN] at CC
  have HOW : Hid (∀ B W v, W.ownsRow B 3 1 v (n + 1) (shN.cells (zs ++ [d])) → Own B W v (zs ++ [d])) := hide (fun B W v h => by unfold Own; rw [List.length_append, hN]; exact h)
  have hn4 : ((n : Int) == 4) = false := by simp; omega
  clear hv h1 h2 h3 hN hn
  obtain ⟨x0, x1, x2, x3, x4, x5⟩ := t
  go_enter Tryz.func60, Tryz.ntmps60
  go_wp2_with (first | fail)
  refine (CT.out _).mono ?_; rintro e w1 ⟨rfl, hg⟩
  have HG := hide (grownBy_trans (grownBy_trans (grownBy_trans (World.grownBy_alloc _ _ _) (World.grownBy_alloc _ _ _)) (World.grownBy_alloc _ _ _)) hg)
  have HB := hide (box_grown (hp_up (alloc_next w _ (.cells #[.int .i64 L, .slice a n cap] 93)) _) hg (by simp))
  have HR := hide (box_grown (alloc_third w _ _ (.cells #[.int .i64 0, .slice none 0 0] 93)) hg (by simp))
  clear hg CT
  have d0 := blk_cell HB.out 0
  have d1 := blk_cell HB.out 1
  go_wp2_with (first | fail)
  refine (CU.out _ HG.out).mono ?_; rintro e w2 ⟨rfl, hg⟩
  have HGn := hide (grownBy_trans HG.out hg)
  have HBn := hide (box_grown HB.out hg (by simp))
  have HRn := hide (box_grown HR.out hg (by simp))
  clear hg HG HB HR d0 d1 CU
  have HG := HGn
  have HB := HBn
  have HR := HRn
  clear HGn HBn HRn
  have d1 := blk_cell HB.out 1
  go_wp2_with (first | fail)
  refine (CD.out _).mono ?_; rintro e w' ⟨rfl, rfl⟩
  clear CD d1
  have d1 := blk_cell HB.out 1
  go_upto_region 5 with (first | fail)
  clear d1
  refine wp_region_held_drew (S := fun W => W.heap[w.heap.size + 1]? = some (.cells #[.int .i64 L, .slice a n cap] 93 (0, 0))) (by kernel_rfl) HB.out (fun hHeld => ?_)
  have HGn : Hid (w.grownBy w2.drew none) := hide (grownBy_trans HG.out (grownBy_draws w2 1 none))
  have HBn : Hid (w2.drew.heap[w.heap.size + 1]? = some (.cells #[.int .i64 L, .slice a n cap] 93 (0, 0))) := hide HB.out
  have HRn : Hid (w2.drew.heap[w.heap.size + 1 + 1]? = some (.cells #[.int .i64 0, .slice none 0 0] 93 (0, 0))) := hide HR.out
  clear HG HB HR
  generalize w2.drew = W at *
  have HG := HGn
  have HB := HBn
  have HR := HRn
  clear HGn HBn HRn
  have HL : Hid (w.heap.size + 1 + 1 + 1 ≤ W.heap.size) := hide (box_lt HR.out)
  refine take_put (i := 0) (v := .pointer (some ⟨w.heap.size + 1, 0, none⟩)) 27 rfl rfl (by kernel_rfl) (by kernel_rfl) (by kernel_rfl) (fun _ _ _ h => h) (Or.inl ⟨by rfl, by intro Wy hSW; go_simp⟩) (by assumption) ?_
  (try simp only [Act.put, List.setIfInBounds_toArray, List.set_cons_zero, List.set_cons_succ])
  refine take_put (i := 1) (v := .int .i64 L) 28 rfl rfl (by kernel_rfl) (by kernel_rfl) (by kernel_rfl) (fun _ _ _ h => h) (Or.inl ⟨by rfl, by intro Wy hSW; have hc := blk_cell hSW 0; go_simp⟩) (by assumption) ?_
  (try simp only [Act.put, List.setIfInBounds_toArray, List.set_cons_zero, List.set_cons_succ])
  refine take_put (i := 2) (v := .pointer (some ⟨w.heap.size + 1, 1, none⟩)) 29 rfl rfl (by kernel_rfl) (by kernel_rfl) (by kernel_rfl) (fun _ _ _ h => h) (Or.inl ⟨by rfl, by intro Wy hSW; go_simp⟩) (by assumption) ?_
  (try simp only [Act.put, List.setIfInBounds_toArray, List.set_cons_zero, List.set_cons_succ])
  refine take_put (i := 3) (v := .slice a n cap) 30 rfl rfl (by kernel_rfl) (by kernel_rfl) (by kernel_rfl) (fun _ _ _ h => h) (Or.inl ⟨by rfl, by intro Wy hSW; have hc := blk_cell hSW 1; go_simp⟩) (by assumption) ?_
  (try simp only [Act.put, List.setIfInBounds_toArray, List.set_cons_zero, List.set_cons_succ])
  refine take_put (i := 5) (v := .int .i64 d) 32 rfl rfl (by kernel_rfl) (by kernel_rfl) (by kernel_rfl) (fun _ _ _ h => h) (Or.inl ⟨by rfl, by intro Wy hSW; go_simp⟩) (by assumption) ?_
  (try simp only [Act.put, List.setIfInBounds_toArray, List.set_cons_zero, List.set_cons_succ])
  refine wpAnyH_ready (rs := [4, 6]) (by kernel_rfl) (by simp) ?_
  refine AllReadyH.cons rfl (fun K hK => ?_) (AllReadyH.cons rfl (fun K hK => ?_) AllReadyH.nil)
  · skip
    go_simp
    refine (CC.out _ HG.out).mono ?_; rintro e W1 ⟨v1, rfl, ho, hg⟩
    have HO := hide (own_mono ho HL.out)
    obtain ⟨u, c, rfl⟩ := own_form ho
    have HBn := hide (box_grown HB.out hg (by simp))
    have HRn := hide (box_grown HR.out hg (by simp))
    have HGn := hide (grownBy_trans HG.out hg)
    have HLn : Hid (w.heap.size + 1 + 1 + 1 ≤ W1.heap.size) := hide (Nat.le_trans HL.out hg.size)
    clear hHeld ho hg HB HR HG HL
    have HB := HBn
    have HR := HRn
    have HG := HGn
    have HL := HLn
    clear HBn HRn HGn HLn
    refine hK.out _ _ HB.out (fun hHeld => ?_)
    clear hK K
    (try simp only [Act.put])
    refine wpAnyH_ready (rs := [6]) (by kernel_rfl) (by simp) ?_
    refine AllReadyH.cons rfl (fun K hK => ?_) AllReadyH.nil
    go_simp
    have hg := World.grownBy_alloc W1 (.cells #[.int .i64 d] 3) none
    have HX := hide (heap_alloc_new W1 (.cells #[.int .i64 d] 3))
    have HBn := hide (box_grown HB.out hg (by simp))
    have HRn := hide (box_grown HR.out hg (by simp))
    have HGn := hide (grownBy_trans HG.out hg)
    have HLn := hide (Nat.le_trans HL.out hg.size)
    have HOn := hide (own_kept HO.out hg)
    clear hHeld hg HB HR HG HL HO
    have HB := HBn
    have HR := HRn
    have HG := HGn
    have HL := HLn
    clear HBn HRn HGn HLn
    have HO := HOn
    clear HOn
    refine hK.out _ _ HB.out (fun hHeld => ?_)
    clear hK K
    (try simp only [Act.put])
    generalize W1.alloc (.cells #[.int .i64 d] 3) = W2 at *
    generalize W1.heap.size = gx at *
    refine wpAnyH_ready (rs := [7]) (by kernel_rfl) (by simp) ?_
    refine AllReadyH.cons rfl (fun K hK => ?_) AllReadyH.nil
    refine step_appd (S := shN) _ rfl _ _ 61 rfl 3 _ 8 Tryz.underlying61 infoN rfl (w.heap.size + 1 + 1 + 1) (.slice u n c) n zs rfl HO.out ⟨gx, 0, none⟩ 1 1 [d] rfl rfl (one_at shN d HX.out) (by omega) (by omega) HL.out 34 rfl ?_
    intro a2 c2 W3 ho hgw
    have HBn := hide (box_app HB.out HO.out hgw (by decide))
    have HRn := hide (box_app HR.out HO.out hgw (by decide))
    have HGn := hide (grown_app HG.out HO.out (by omega) hgw)
    have HOn := hide ho
    clear hHeld ho hgw HB HR HG HO HX HL
    have HB := HBn
    have HR := HRn
    have HG := HGn
    have HO := HOn
    clear HBn HRn HGn HOn
    refine hK.out _ _ HB.out (fun hHeld => ?_)
    clear hK K
    (try dsimp only [Act.put])
    refine take_put (i := 8) (v := .agg #[.int .i64 L, .slice a2 (n + 1) c2]) 35 rfl rfl (by kernel_rfl) (by kernel_rfl) (by kernel_rfl) (fun _ _ _ h => h) (Or.inl ⟨by rfl, by intro Wy hSW; go_simp⟩) (by assumption) ?_
    (try simp only [Act.put, List.setIfInBounds_toArray, List.set_cons_zero, List.set_cons_succ])
    refine wpAnyH_ready (rs := [9]) (by kernel_rfl) (by simp) ?_
    refine AllReadyH.cons rfl (fun K hK => ?_) AllReadyH.nil
    refine step_store 93 (.tmp 6) (.tmp 35) (w.heap.size + 1 + 1) #[.int .i64 L, .slice a2 (n + 1) c2] 93 #[.int .i64 0, .slice none 0 0] rfl rfl HR.out sizeU rfl (by simp [Value.oneCell']) ?_
    intro W4 h1 e1 g1
    have HBn := hide ((e1 (w.heap.size + 1) (by omega)).trans HB.out)
    have HRn := hide h1
    have HGn := hide (grown_spoil HG.out (Nat.le_trans (Nat.le_succ _) (Nat.le_succ _)) g1)
    have HOn := hide (own_off HO.out g1 (by omega))
    clear hHeld h1 e1 g1 HB HR HG HO
    have HB := HBn
    have HR := HRn
    have HG := HGn
    have HO := HOn
    clear HBn HRn HGn HOn
    refine hK.out _ _ HB.out (fun hHeld => ?_)
    clear hK K
    (try simp only [Act.put])
    refine take_put (i := 10) (v := .int .i64 0) 7 rfl rfl (by kernel_rfl) (by kernel_rfl) (by kernel_rfl) (fun _ _ _ h => h) (Or.inl ⟨by rfl, by intro Wy hSW; go_simp⟩) (by assumption) ?_
    (try simp only [Act.put, List.setIfInBounds_toArray, List.set_cons_zero, List.set_cons_succ])
    refine wpAnyH_done (by kernel_rfl) ?_ _
    clear hHeld
    go_wp2
    refine bodyPost_ret (results_row_tmp rfl _ _ (w.heap.size + 1 + 1) 93 #[.int .i64 L, .slice a2 (n + 1) c2] (0, 0) _ rfl HR.out Tryz.underlying93 rfl sizeU) rfl ?_
    exact ⟨_, rfl, HOW.out _ _ _ (own_mono HO.out (by omega)), HG.out⟩
  · skip
    go_simp
    have hg := World.grownBy_alloc W (.cells #[.int .i64 d] 3) none
    have HX := hide (heap_alloc_new W (.cells #[.int .i64 d] 3))
    have HBn := hide (box_grown HB.out hg (by simp))
    have HRn := hide (box_grown HR.out hg (by simp))
    have HGn := hide (grownBy_trans HG.out hg)
    have HLn := hide (Nat.le_trans HL.out hg.size)
    clear hHeld hg HB HR HG HL
    have HB := HBn
    have HR := HRn
    have HG := HGn
    have HL := HLn
    clear HBn HRn HGn HLn
    refine hK.out _ _ HB.out (fun hHeld => ?_)
    clear hK K
    (try simp only [Act.put])
    generalize W.alloc (.cells #[.int .i64 d] 3) = W5 at *
    generalize W.heap.size = gx at *
    refine wpAnyH_ready (rs := [4]) (by kernel_rfl) (by simp) ?_
    refine AllReadyH.cons rfl (fun K hK => ?_) AllReadyH.nil
    go_simp
    refine (CC.out _ HG.out).mono ?_; rintro e W6 ⟨v1, rfl, ho, hg⟩
    have HO := hide (own_mono ho HL.out)
    obtain ⟨u, c, rfl⟩ := own_form ho
    have HBn := hide (box_grown HB.out hg (by simp))
    have HRn := hide (box_grown HR.out hg (by simp))
    have HGn := hide (grownBy_trans HG.out hg)
    have HXn := hide (box_grown HX.out hg (by simp))
    have HLn : Hid (w.heap.size + 1 + 1 + 1 ≤ W6.heap.size) := hide (Nat.le_trans HL.out hg.size)
    clear hHeld ho hg HB HR HG HL HX
    have HB := HBn
    have HR := HRn
    have HG := HGn
    have HL := HLn
    clear HBn HRn HGn HLn
    have HX := HXn
    clear HXn
    refine hK.out _ _ HB.out (fun hHeld => ?_)
    clear hK K
    (try simp only [Act.put])
    refine wpAnyH_ready (rs := [7]) (by kernel_rfl) (by simp) ?_
    refine AllReadyH.cons rfl (fun K hK => ?_) AllReadyH.nil
    refine step_appd (S := shN) _ rfl _ _ 61 rfl 3 _ 8 Tryz.underlying61 infoN rfl (w.heap.size + 1 + 1 + 1) (.slice u n c) n zs rfl HO.out ⟨gx, 0, none⟩ 1 1 [d] rfl rfl (one_at shN d HX.out) (by omega) (by omega) HL.out 34 rfl ?_
    intro a2 c2 W7 ho hgw
    have HBn := hide (box_app HB.out HO.out hgw (by decide))
    have HRn := hide (box_app HR.out HO.out hgw (by decide))
    have HGn := hide (grown_app HG.out HO.out (by omega) hgw)
    have HOn := hide ho
    clear hHeld ho hgw HB HR HG HO HX HL
    have HB := HBn
    have HR := HRn
    have HG := HGn
    have HO := HOn
    clear HBn HRn HGn HOn
    refine hK.out _ _ HB.out (fun hHeld => ?_)
    clear hK K
    (try dsimp only [Act.put])
    refine take_put (i := 8) (v := .agg #[.int .i64 L, .slice a2 (n + 1) c2]) 35 rfl rfl (by kernel_rfl) (by kernel_rfl) (by kernel_rfl) (fun _ _ _ h => h) (Or.inl ⟨by rfl, by intro Wy hSW; go_simp⟩) (by assumption) ?_
    (try simp only [Act.put, List.setIfInBounds_toArray, List.set_cons_zero, List.set_cons_succ])
    refine wpAnyH_ready (rs := [9]) (by kernel_rfl) (by simp) ?_
    refine AllReadyH.cons rfl (fun K hK => ?_) AllReadyH.nil
    refine step_store 93 (.tmp 6) (.tmp 35) (w.heap.size + 1 + 1) #[.int .i64 L, .slice a2 (n + 1) c2] 93 #[.int .i64 0, .slice none 0 0] rfl rfl HR.out sizeU rfl (by simp [Value.oneCell']) ?_
    intro W8 h1 e1 g1
    have HBn := hide ((e1 (w.heap.size + 1) (by omega)).trans HB.out)
    have HRn := hide h1
    have HGn := hide (grown_spoil HG.out (Nat.le_trans (Nat.le_succ _) (Nat.le_succ _)) g1)
    have HOn := hide (own_off HO.out g1 (by omega))
    clear hHeld h1 e1 g1 HB HR HG HO
    have HB := HBn
    have HR := HRn
    have HG := HGn
    have HO := HOn
    clear HBn HRn HGn HOn
    refine hK.out _ _ HB.out (fun hHeld => ?_)
    clear hK K
    (try simp only [Act.put])
    refine take_put (i := 10) (v := .int .i64 0) 7 rfl rfl (by kernel_rfl) (by kernel_rfl) (by kernel_rfl) (fun _ _ _ h => h) (Or.inl ⟨by rfl, by intro Wy hSW; go_simp⟩) (by assumption) ?_
    (try simp only [Act.put, List.setIfInBounds_toArray, List.set_cons_zero, List.set_cons_succ])
    refine wpAnyH_done (by kernel_rfl) ?_ _
    clear hHeld
    go_wp2
    refine bodyPost_ret (results_row_tmp rfl _ _ (w.heap.size + 1 + 1) 93 #[.int .i64 L, .slice a2 (n + 1) c2] (0, 0) _ rfl HR.out Tryz.underlying93 rfl sizeU) rfl ?_
    exact ⟨_, rfl, HOW.out _ _ _ (own_mono HO.out (by omega)), HG.out⟩

theorem pick_any {lo : Nat} (t : TaskV) (L : Int) (v : Value) (zs : List Int) (d : Int) (w : World) (hv : RowAt shN lo w v zs) :
    Calls Tryz.prog 60 #[taskVal t, .agg #[.int .i64 L, v], .int .i64 d] w fun e w' => ∃ v', e = .returned (.tuple #[.agg #[.int .i64 (pickS t ⟨L, zs⟩ d).last, v'], .int .i64 (pickE t ⟨L, zs⟩ d)]) ∧ Own w.heap.size w' v' (pickS t ⟨L, zs⟩ d).picks ∧ w.grownBy w' none := by
  have hv0 := hv
  obtain ⟨-, a, cap, rfl, -⟩ := hv0
  unfold pickS pickE
  cases hm : (taskMay t && (turnsMay ⟨L, zs⟩ && demMay d)) with
  | false => exact pick_bad t L a _ cap zs d w hv hm
  | true =>
    simp only [Bool.and_eq_true] at hm
    rw [if_pos rfl, if_pos rfl]
    by_cases hn : zs.length = 4
    · rw [if_pos hn, if_pos hn]
      exact pick_full t L a _ cap zs d w hv hm.1 hm.2.1 hm.2.2 hn
    · rw [if_neg hn, if_neg hn]
      exact pick_room t L a _ cap zs d w hv hm.1 hm.2.1 hm.2.2 hn
#print axioms pick_any
end Go.Proofs.YtlppfocoonnpjaaGreatDoor.U
