/- The contract of the document's own Pick, proved over the translation: it answers as the program's. -/
import Derived.Test.YtephnppanbckkaaRefT
namespace Go.Proofs.Ytephnppanbckkaa
open Go.RowKit
attribute [local go_sem] alloc_drewN setCell_drewN

set_option maxRecDepth 100000 in
set_option maxHeartbeats 2000000 in
theorem rpick_bad {lo : Nat} (t : TaskV) (L : Int) (a : Option Addr) (n cap : Nat) (zs : List Int) (d : Int) (w : World) (hv : RowAt shN lo w (.slice a n cap) zs) (hm : (taskMay t && (turnsMay ⟨L, zs⟩ && demMay d)) = false) :
    Calls Try.prog 10 #[taskVal t, .agg #[.int .i64 L, .slice a n cap], .int .i64 d] w fun e w' => ∃ v', e = .returned (.tuple #[.agg #[.int .i64 0, v'], .int .i64 1100]) ∧ Own w.heap.size w' v' [] ∧ w.grownBy w' none := by
  have CT := hide (fun W => rtask_any t W)
  have CU := hide (fun W (hg : w.grownBy W none) => rturns_any L (.slice a n cap) zs W (hv.grown hg))
  clear hv
  generalize taskMay t = b1 at *
  generalize turnsMay ⟨L, zs⟩ = b2 at *
  obtain ⟨x0, x1, x2, x3, x4, x5⟩ := t
  cases b1 with
  | false =>
    clear hm
    go_enter Try.func10, Try.ntmps10
    go_wp2_with (first | fail)
    refine (CT.out _).mono ?_; rintro e w1 ⟨rfl, hg⟩
    have HG := hide (grownBy_trans (grownBy_trans (grownBy_trans (World.grownBy_alloc _ _ _) (World.grownBy_alloc _ _ _)) (World.grownBy_alloc _ _ _)) hg)
    have HB := hide (box_grown (hp_up (alloc_next w _ (.cells #[.int .i64 L, .slice a n cap] 26)) _) hg (by simp))
    have HR := hide (box_grown (alloc_third w _ _ (.cells #[.int .i64 0, .slice none 0 0] 26)) hg (by simp))
    clear hg CT
    go_wp2_with (first | ((with_reducible refine list_store 26 (.tmp 6) (.tmp 25) (w.heap.size + 1 + 1) #[.int .i64 0, .slice none 0 0] 26 #[.int .i64 0, .slice none 0 0] ?hx ?hy ?hg ?hi ?ho ?h1 ?_); (case hx => rfl); (case hy => rfl); (case hg => exact HR.out); (case hi => exact sizeU); (case ho => rfl); (case h1 => simp [Value.oneCell']); intro w8 h1 e1 g1; have HRn := hide h1; have HGn := hide (grown_spoil HG.out (Nat.le_trans (Nat.le_succ _) (Nat.le_succ _)) g1); clear h1 e1 g1 HG HR) | fail)
    refine bodyPost_ret (results_row_tmp rfl _ _ (w.heap.size + 1 + 1) 26 #[.int .i64 0, .slice none 0 0] (0, 0) _ rfl HRn.out Try.underlying26 rfl sizeU) rfl ?_
    exact ⟨_, rfl, own_nil _ _, HGn.out⟩
  | true =>
    rw [Bool.true_and] at hm
    cases b2 with
    | false =>
      clear hm
      go_enter Try.func10, Try.ntmps10
      go_wp2_with (first | fail)
      refine (CT.out _).mono ?_; rintro e w1 ⟨rfl, hg⟩
      have HG := hide (grownBy_trans (grownBy_trans (grownBy_trans (World.grownBy_alloc _ _ _) (World.grownBy_alloc _ _ _)) (World.grownBy_alloc _ _ _)) hg)
      have HB := hide (box_grown (hp_up (alloc_next w _ (.cells #[.int .i64 L, .slice a n cap] 26)) _) hg (by simp))
      have HR := hide (box_grown (alloc_third w _ _ (.cells #[.int .i64 0, .slice none 0 0] 26)) hg (by simp))
      clear hg CT
      have d0 := blk_cell HB.out 0
      have d1 := blk_cell HB.out 1
      go_wp2_with (first | fail)
      refine (CU.out _ HG.out).mono ?_; rintro e w2 ⟨rfl, hg⟩
      have HGn := hide (grownBy_trans HG.out hg)
      have HBn := hide (box_grown HB.out hg (by simp))
      have HRn := hide (box_grown HR.out hg (by simp))
      clear hg HG HB HR d0 d1 CU
      have HG := HGn
      have HB := HBn
      have HR := HRn
      clear HGn HBn HRn
      go_wp2_with (first | ((with_reducible refine list_store 26 (.tmp 6) (.tmp 25) (w.heap.size + 1 + 1) #[.int .i64 0, .slice none 0 0] 26 #[.int .i64 0, .slice none 0 0] ?hx ?hy ?hg ?hi ?ho ?h1 ?_); (case hx => rfl); (case hy => rfl); (case hg => exact HR.out); (case hi => exact sizeU); (case ho => rfl); (case h1 => simp [Value.oneCell']); intro w8 h1 e1 g1; have HRn := hide h1; have HGn := hide (grown_spoil HG.out (Nat.le_trans (Nat.le_succ _) (Nat.le_succ _)) g1); clear h1 e1 g1 HG HR) | fail)
      refine bodyPost_ret (results_row_tmp rfl _ _ (w.heap.size + 1 + 1) 26 #[.int .i64 0, .slice none 0 0] (0, 0) _ rfl HRn.out Try.underlying26 rfl sizeU) rfl ?_
      exact ⟨_, rfl, own_nil _ _, HGn.out⟩
    | true =>
      rw [Bool.true_and] at hm
      have hd2 : d < 1 ∨ 65535 < d := by
        rcases Int.lt_or_le d 1 with h | h
        · exact .inl h
        · rcases Int.lt_or_le 65535 d with h2 | h2
          · exact .inr h2
          · unfold demMay at hm; rw [decide_eq_true h, decide_eq_true h2] at hm; cases hm
      clear hm
      rcases hd2 with hd | hd
      · skip
        go_enter Try.func10, Try.ntmps10
        go_wp2_with (first | fail)
        refine (CT.out _).mono ?_; rintro e w1 ⟨rfl, hg⟩
        have HG := hide (grownBy_trans (grownBy_trans (grownBy_trans (World.grownBy_alloc _ _ _) (World.grownBy_alloc _ _ _)) (World.grownBy_alloc _ _ _)) hg)
        have HB := hide (box_grown (hp_up (alloc_next w _ (.cells #[.int .i64 L, .slice a n cap] 26)) _) hg (by simp))
        have HR := hide (box_grown (alloc_third w _ _ (.cells #[.int .i64 0, .slice none 0 0] 26)) hg (by simp))
        clear hg CT
        have d0 := blk_cell HB.out 0
        have d1 := blk_cell HB.out 1
        go_wp2_with (first | fail)
        refine (CU.out _ HG.out).mono ?_; rintro e w2 ⟨rfl, hg⟩
        have HGn := hide (grownBy_trans HG.out hg)
        have HBn := hide (box_grown HB.out hg (by simp))
        have HRn := hide (box_grown HR.out hg (by simp))
        clear hg HG HB HR d0 d1 CU
        have HG := HGn
        have HB := HBn
        have HR := HRn
        clear HGn HBn HRn
        go_wp2_with (first | ((with_reducible refine list_store 26 (.tmp 6) (.tmp 25) (w.heap.size + 1 + 1) #[.int .i64 0, .slice none 0 0] 26 #[.int .i64 0, .slice none 0 0] ?hx ?hy ?hg ?hi ?ho ?h1 ?_); (case hx => rfl); (case hy => rfl); (case hg => exact HR.out); (case hi => exact sizeU); (case ho => rfl); (case h1 => simp [Value.oneCell']); intro w8 h1 e1 g1; have HRn := hide h1; have HGn := hide (grown_spoil HG.out (Nat.le_trans (Nat.le_succ _) (Nat.le_succ _)) g1); clear h1 e1 g1 HG HR) | fail)
        refine bodyPost_ret (results_row_tmp rfl _ _ (w.heap.size + 1 + 1) 26 #[.int .i64 0, .slice none 0 0] (0, 0) _ rfl HRn.out Try.underlying26 rfl sizeU) rfl ?_
        exact ⟨_, rfl, own_nil _ _, HGn.out⟩
      · have hd1 : ¬ d < 1 := by omega
        go_enter Try.func10, Try.ntmps10
        go_wp2_with (first | fail)
        refine (CT.out _).mono ?_; rintro e w1 ⟨rfl, hg⟩
        have HG := hide (grownBy_trans (grownBy_trans (grownBy_trans (World.grownBy_alloc _ _ _) (World.grownBy_alloc _ _ _)) (World.grownBy_alloc _ _ _)) hg)
        have HB := hide (box_grown (hp_up (alloc_next w _ (.cells #[.int .i64 L, .slice a n cap] 26)) _) hg (by simp))
        have HR := hide (box_grown (alloc_third w _ _ (.cells #[.int .i64 0, .slice none 0 0] 26)) hg (by simp))
        clear hg CT
        have d0 := blk_cell HB.out 0
        have d1 := blk_cell HB.out 1
        go_wp2_with (first | fail)
        refine (CU.out _ HG.out).mono ?_; rintro e w2 ⟨rfl, hg⟩
        have HGn := hide (grownBy_trans HG.out hg)
        have HBn := hide (box_grown HB.out hg (by simp))
        have HRn := hide (box_grown HR.out hg (by simp))
        clear hg HG HB HR d0 d1 CU
        have HG := HGn
        have HB := HBn
        have HR := HRn
        clear HGn HBn HRn
        go_wp2_with (first | ((with_reducible refine list_store 26 (.tmp 6) (.tmp 25) (w.heap.size + 1 + 1) #[.int .i64 0, .slice none 0 0] 26 #[.int .i64 0, .slice none 0 0] ?hx ?hy ?hg ?hi ?ho ?h1 ?_); (case hx => rfl); (case hy => rfl); (case hg => exact HR.out); (case hi => exact sizeU); (case ho => rfl); (case h1 => simp [Value.oneCell']); intro w8 h1 e1 g1; have HRn := hide h1; have HGn := hide (grown_spoil HG.out (Nat.le_trans (Nat.le_succ _) (Nat.le_succ _)) g1); clear h1 e1 g1 HG HR) | fail)
        refine bodyPost_ret (results_row_tmp rfl _ _ (w.heap.size + 1 + 1) 26 #[.int .i64 0, .slice none 0 0] (0, 0) _ rfl HRn.out Try.underlying26 rfl sizeU) rfl ?_
        exact ⟨_, rfl, own_nil _ _, HGn.out⟩
set_option maxRecDepth 100000 in
set_option maxHeartbeats 2000000 in
theorem rpick_full {lo : Nat} (t : TaskV) (L : Int) (a : Option Addr) (n cap : Nat) (zs : List Int) (d : Int) (w : World) (hv : RowAt shN lo w (.slice a n cap) zs) (h1 : taskMay t = true) (h2 : turnsMay ⟨L, zs⟩ = true) (h3 : demMay d = true) (hn : n = 4) :
    Calls Try.prog 10 #[taskVal t, .agg #[.int .i64 L, .slice a n cap], .int .i64 d] w fun e w' => ∃ v', e = .returned (.tuple #[.agg #[.int .i64 0, v'], .int .i64 1101]) ∧ Own w.heap.size w' v' [] ∧ w.grownBy w' none := by
  have CT := hide (fun W => rtask_any t W)
  have CU := hide (fun W (hg : w.grownBy W none) => rturns_any L (.slice a n cap) zs W (hv.grown hg))
  rw [h1] at CT
  rw [h2] at CU
  unfold demMay at h3
  simp only [Bool.and_eq_true, decide_eq_true_eq] at h3
  obtain ⟨h31, h32⟩ := h3
  have h33 : ¬ d < 1 := by omega
  have h34 : ¬ 65535 < d := by omega
  clear hv h1 h2
  subst hn
  obtain ⟨x0, x1, x2, x3, x4, x5⟩ := t
  go_enter Try.func10, Try.ntmps10
  go_wp2_with (first | fail)
  refine (CT.out _).mono ?_; rintro e w1 ⟨rfl, hg⟩
  have HG := hide (grownBy_trans (grownBy_trans (grownBy_trans (World.grownBy_alloc _ _ _) (World.grownBy_alloc _ _ _)) (World.grownBy_alloc _ _ _)) hg)
  have HB := hide (box_grown (hp_up (alloc_next w _ (.cells #[.int .i64 L, .slice a 4 cap] 26)) _) hg (by simp))
  have HR := hide (box_grown (alloc_third w _ _ (.cells #[.int .i64 0, .slice none 0 0] 26)) hg (by simp))
  clear hg CT
  have d0 := blk_cell HB.out 0
  have d1 := blk_cell HB.out 1
  go_wp2_with (first | fail)
  refine (CU.out _ HG.out).mono ?_; rintro e w2 ⟨rfl, hg⟩
  have HGn := hide (grownBy_trans HG.out hg)
  have HBn := hide (box_grown HB.out hg (by simp))
  have HRn := hide (box_grown HR.out hg (by simp))
  clear hg HG HB HR d0 d1 CU
  have HG := HGn
  have HB := HBn
  have HR := HRn
  clear HGn HBn HRn
  have d1 := blk_cell HB.out 1
  go_wp2_with (first | ((with_reducible refine list_store 26 (.tmp 6) (.tmp 30) (w.heap.size + 1 + 1) #[.int .i64 0, .slice none 0 0] 26 #[.int .i64 0, .slice none 0 0] ?hx ?hy ?hg ?hi ?ho ?h1 ?_); (case hx => rfl); (case hy => rfl); (case hg => exact HR.out); (case hi => exact sizeU); (case ho => rfl); (case h1 => simp [Value.oneCell']); intro w8 h1 e1 g1; have HRn := hide h1; have HGn := hide (grown_spoil HG.out (Nat.le_trans (Nat.le_succ _) (Nat.le_succ _)) g1); clear h1 e1 g1 HG HR) | fail)
  refine bodyPost_ret (results_row_tmp rfl _ _ (w.heap.size + 1 + 1) 26 #[.int .i64 0, .slice none 0 0] (0, 0) _ rfl HRn.out Try.underlying26 rfl sizeU) rfl ?_
  exact ⟨_, rfl, own_nil _ _, HGn.out⟩
set_option maxRecDepth 100000 in
set_option maxHeartbeats 2000000 in
theorem rpick_room {lo : Nat} (t : TaskV) (L : Int) (a : Option Addr) (n cap : Nat) (zs : List Int) (d : Int) (w : World) (hv : RowAt shN lo w (.slice a n cap) zs) (h1 : taskMay t = true) (h2 : turnsMay ⟨L, zs⟩ = true) (h3 : demMay d = true) (hn : n ≠ 4) :
    Calls Try.prog 10 #[taskVal t, .agg #[.int .i64 L, .slice a n cap], .int .i64 d] w fun e w' => ∃ v', e = .returned (.tuple #[.agg #[.int .i64 L, v'], .int .i64 0]) ∧ Own w.heap.size w' v' (zs ++ [d]) ∧ w.grownBy w' none := by
  have CT := hide (fun W => rtask_any t W)
  have CU := hide (fun W (hg : w.grownBy W none) => rturns_any L (.slice a n cap) zs W (hv.grown hg))
  rw [h1] at CT
  rw [h2] at CU
  have hN : zs.length = n := by obtain ⟨-, a2, c2, e, -⟩ := hv; simp only [Value.slice.injEq] at e; exact e.2.1.symm
  have h4 : n ≤ 4 := by
    unfold turnsMay at h2
    simp only [Bool.and_eq_true, decide_eq_true_eq] at h2
    have := h2.2.2.1
    omega
  have RV := hide (fun W (hg : w.grownBy W none) => hv.grown hg)
  unfold demMay at h3
  simp only [Bool.and_eq_true, decide_eq_true_eq] at h3
  obtain ⟨h31, h32⟩ := h3
  have h33 : ¬ d < 1 := by omega
  have h34 : ¬ 65535 < d := by omega
  have HNAT := hide hN
  have HOW : Hid (∀ B W v, W.ownsRow B 3 1 v (n + 1) (shN.cells (zs ++ [d])) → Own B W v (zs ++ [d])) := hide (fun B W v h => by unfold Own; rw [List.length_append, hN]; exact h)
  have hn4 : ((n : Int) == 4) = false := by simp; omega
  clear hv h1 h2 hN hn
  obtain ⟨x0, x1, x2, x3, x4, x5⟩ := t
  go_enter Try.func10, Try.ntmps10
  go_wp2_with (first | fail)
  refine (CT.out _).mono ?_; rintro e w1 ⟨rfl, hg⟩
  have HG := hide (grownBy_trans (grownBy_trans (grownBy_trans (World.grownBy_alloc _ _ _) (World.grownBy_alloc _ _ _)) (World.grownBy_alloc _ _ _)) hg)
  have HB := hide (box_grown (hp_up (alloc_next w _ (.cells #[.int .i64 L, .slice a n cap] 26)) _) hg (by simp))
  have HR := hide (box_grown (alloc_third w _ _ (.cells #[.int .i64 0, .slice none 0 0] 26)) hg (by simp))
  clear hg CT
  have d0 := blk_cell HB.out 0
  have d1 := blk_cell HB.out 1
  go_wp2_with (first | fail)
  refine (CU.out _ HG.out).mono ?_; rintro e w2 ⟨rfl, hg⟩
  have HGn := hide (grownBy_trans HG.out hg)
  have HBn := hide (box_grown HB.out hg (by simp))
  have HRn := hide (box_grown HR.out hg (by simp))
  clear hg HG HB HR d0 d1 CU
  have HG := HGn
  have HB := HBn
  have HR := HRn
  clear HGn HBn HRn
  have d1 := blk_cell HB.out 1
  have d2 : (w2.alloc (.cells #[] 3)).cell? ⟨w.heap.size + 1, 1, none⟩ = some (.slice a n cap) := blk_cell (hp_up HB.out _) 1
  have HL : Hid (w.heap.size + 1 + 1 + 1 ≤ w2.heap.size) := hide (box_lt HR.out)
  go_wp2_with (first | (at_builtin; refine wpList_copyn (S := shN) _ rfl _ _ 24 rfl 3 _ 8 Try.underlying24 infoN rfl (w.heap.size + 1 + 1 + 1) w2.heap.size rfl (own_mono (lit_own w2 3 1) HL.out) _ zs rfl (RV.out _ (grownBy_trans HG.out (World.grownBy_alloc _ _ _))) n HNAT.out (by omega) (Nat.le_trans HL.out (by simp)) ?_) | fail)
  intro u c w3 ho hgw
  have T : Hid (TypeAt (w2.alloc (.cells #[] 3)) w2.heap.size 3) := hide (type_box (heap_alloc_new w2 _))
  have HGn := hide (grown_spoil (grownBy_trans HG.out (World.grownBy_alloc w2 (.cells #[] 3) none)) HG.out.size hgw)
  have HBn := hide (box_type (hp_up HB.out (.cells #[] 3)) hgw T.out (by decide))
  have HRn := hide (box_type (hp_up HR.out (.cells #[] 3)) hgw T.out (by decide))
  have HLn : Hid (w.heap.size + 1 + 1 + 1 ≤ w3.heap.size) := hide (box_lt HRn.out)
  have HO := hide ho
  clear ho hgw T HG HB HR HL d1 d2
  have HG := HGn
  have HB := HBn
  have HR := HRn
  have HL := HLn
  clear HGn HBn HRn HLn
  go_wp2_with (first | (at_builtin; refine app_row (S := shN) _ rfl _ _ 24 3 (.int .i64 0) 8 Try.underlying24 infoN rfl rfl (w.heap.size + 1 + 1 + 1) (.slice u n c) n zs rfl ?c0 ⟨w3.heap.size, 0, none⟩ 1 1 [d] rfl rfl ?c1 ?c2 ?c3 ?c4 ?_) | fail)
  case c0 => exact own_kept HO.out (World.grownBy_alloc w3 (.cells #[.int .i64 d] 3) none)
  case c1 => exact one_at shN d (heap_alloc_new w3 (.cells #[.int .i64 d] 3))
  case c2 => omega
  case c3 => omega
  case c4 => exact Nat.le_trans HL.out (by simp)
  intro a2 c2 w4 ho hgw _
  have HO4 := own_kept HO.out (World.grownBy_alloc w3 (.cells #[.int .i64 d] 3) none)
  have HGn := hide (grown_app (grownBy_trans HG.out (World.grownBy_alloc w3 (.cells #[.int .i64 d] 3) none)) HO4 (by omega) hgw)
  have HBn := hide (box_app (hp_up HB.out (.cells #[.int .i64 d] 3)) HO4 hgw (by decide))
  have HRn := hide (box_app (hp_up HR.out (.cells #[.int .i64 d] 3)) HO4 hgw (by decide))
  have HOn := hide ho
  clear ho hgw HG HB HR HL HO4 HO
  have HG := HGn
  have HB := HBn
  have HR := HRn
  have HO := HOn
  clear HGn HBn HRn HOn
  have d0 := blk_cell HB.out 0
  have d1 := blk_cell HB.out 1
  go_wp2_with (first | ((with_reducible refine list_store 26 (.tmp 6) (.tmp 42) (w.heap.size + 1 + 1) #[.int .i64 L, .slice a2 (n + 1) c2] 26 #[.int .i64 0, .slice none 0 0] ?hx ?hy ?hg ?hi ?ho ?h1 ?_); (case hx => rfl); (case hy => rfl); (case hg => exact HR.out); (case hi => exact sizeU); (case ho => rfl); (case h1 => simp [Value.oneCell']); intro w8 h1 e1 g1; have HRn := hide h1; have HGn := hide (grown_spoil HG.out (Nat.le_trans (Nat.le_succ _) (Nat.le_succ _)) g1); have HOn := hide (own_off HO.out g1 (by omega)); clear h1 e1 g1 HG HR HO) | fail)
  refine bodyPost_ret (results_row_tmp rfl _ _ (w.heap.size + 1 + 1) 26 #[.int .i64 L, .slice a2 (n + 1) c2] (0, 0) _ rfl HRn.out Try.underlying26 rfl sizeU) rfl ?_
  exact ⟨_, rfl, HOW.out _ _ _ (own_mono HOn.out (by omega)), HGn.out⟩

theorem rpick_any {lo : Nat} (t : TaskV) (L : Int) (v : Value) (zs : List Int) (d : Int) (w : World) (hv : RowAt shN lo w v zs) :
    Calls Try.prog 10 #[taskVal t, .agg #[.int .i64 L, v], .int .i64 d] w fun e w' => ∃ v', e = .returned (.tuple #[.agg #[.int .i64 (pickS t ⟨L, zs⟩ d).last, v'], .int .i64 (pickE t ⟨L, zs⟩ d)]) ∧ Own w.heap.size w' v' (pickS t ⟨L, zs⟩ d).picks ∧ w.grownBy w' none := by
  have hv0 := hv
  obtain ⟨-, a, cap, rfl, -⟩ := hv0
  unfold pickS pickE
  cases hm : (taskMay t && (turnsMay ⟨L, zs⟩ && demMay d)) with
  | false => exact rpick_bad t L a _ cap zs d w hv hm
  | true =>
    simp only [Bool.and_eq_true] at hm
    rw [if_pos rfl, if_pos rfl]
    by_cases hn : zs.length = 4
    · rw [if_pos hn, if_pos hn]
      exact rpick_full t L a _ cap zs d w hv hm.1 hm.2.1 hm.2.2 hn
    · rw [if_neg hn, if_neg hn]
      exact rpick_room t L a _ cap zs d w hv hm.1 hm.2.1 hm.2.2 hn
#print axioms rpick_any
end Go.Proofs.Ytephnppanbckkaa
