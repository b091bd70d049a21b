/- The contract of package task's Release, proved over the translation. -/
import Derived.Test.YtlppfocoonnpjaaGreatDoorQd
namespace Go.Proofs.YtlppfocoonnpjaaGreatDoor.U
open Go.RowKit
attribute [local go_sem] alloc_drewN setCell_drewN

set_option maxRecDepth 100000 in
set_option maxHeartbeats 2000000 in
theorem rel_no {lo : Nat} (t : TaskV) (L : Int) (a : Option Addr) (n cap : Nat) (zs : List Int) (now : Int) (w : World) (hv : RowAt shN lo w (.slice a n cap) zs) (hm : atMay t ⟨L, zs⟩ now = false) :
    Calls Tryz.prog 110 #[taskVal t, .agg #[.int .i64 L, .slice a n cap], .int .i64 now] w fun e w' => ∃ v', e = .returned (.tuple #[.agg #[.int .i64 0, v'], .int .i64 0, .bool false]) ∧ Own w.heap.size w' v' [] ∧ w.grownBy w' none := by
  have CM := hide (fun W (hg : w.grownBy W none) => mayAt_any t L (.slice a n cap) zs now W (hv.grown hg))
  rw [hm] at CM
  clear hv hm
  obtain ⟨x0, x1, x2, x3, x4, x5⟩ := t
  go_enter Tryz.func110, Tryz.ntmps110
  go_wp2_with (first | fail)
  refine (CM.out _ (grownBy_trans (grownBy_trans (World.grownBy_alloc _ _ _) (World.grownBy_alloc _ _ _)) (World.grownBy_alloc _ _ _))).mono ?_; rintro e w1 ⟨rfl, hg⟩
  have HG := hide (grownBy_trans (grownBy_trans (grownBy_trans (World.grownBy_alloc _ _ _) (World.grownBy_alloc _ _ _)) (World.grownBy_alloc _ _ _)) hg)
  have HR := hide (box_grown (alloc_third w _ _ (.cells #[.int .i64 0, .slice none 0 0] 93)) hg (by simp))
  clear hg CM
  go_wp2_with (first | ((with_reducible refine list_store 93 (.tmp 6) (.tmp 17) (w.heap.size + 1 + 1) #[.int .i64 0, .slice none 0 0] 93 #[.int .i64 0, .slice none 0 0] ?hx ?hy ?hg ?hi ?ho ?h1 ?_); (case hx => rfl); (case hy => rfl); (case hg => exact HR.out); (case hi => exact sizeU); (case ho => rfl); (case h1 => simp [Value.oneCell']); intro w8 h1 e1 g1; have HRn := hide h1; have HGn := hide (grown_spoil HG.out (Nat.le_trans (Nat.le_succ _) (Nat.le_succ _)) g1); clear h1 e1 g1 HG HR) | fail)
  refine bodyPost_ret (results_rtt rfl _ _ (w.heap.size + 1 + 1) 93 #[.int .i64 0, .slice none 0 0] (0, 0) _ rfl HRn.out Tryz.underlying93 rfl sizeU) rfl ?_
  exact ⟨_, rfl, own_nil _ _, HGn.out⟩

set_option maxRecDepth 100000 in
set_option maxHeartbeats 2000000 in
theorem rel_keep {lo : Nat} (t : TaskV) (L : Int) (a : Option Addr) (n cap : Nat) (zs : List Int) (now : Int) (w : World) (hv : RowAt shN lo w (.slice a n cap) zs) (hm : atMay t ⟨L, zs⟩ now = true) (hc : comesB t ⟨L, zs⟩ now = false) :
    Calls Tryz.prog 110 #[taskVal t, .agg #[.int .i64 L, .slice a n cap], .int .i64 now] w fun e w' => ∃ v', e = .returned (.tuple #[.agg #[.int .i64 L, v'], .int .i64 0, .bool false]) ∧ Own w.heap.size w' v' zs ∧ w.grownBy w' none := by
  have hn : zs.length = n := by obtain ⟨-, a2, c2, e, -⟩ := hv; simp only [Value.slice.injEq] at e; exact e.2.1.symm
  have CM := hide (fun W (hg : w.grownBy W none) => mayAt_any t L (.slice a n cap) zs now W (hv.grown hg))
  rw [hm] at CM
  obtain ⟨hm1, -, hm2, hm3, hm4, hm5, hm6⟩ := at_parts hm
  have hp := (may_parts hm1).2.1
  have CK := hide (kindOf_any t L a n cap)
  have CE := hide (fun W (hg : w.grownBy W none) => kept_any t L a n cap zs (by dsimp only at hm4; omega) W (hv.grown hg))
  have HC1 := hide (fun (h : t.kind = 1) W => (show Calls Tryz.prog 160 #[.agg (kindC t L (.slice a n cap)), .int .i64 now] W fun e w' => e = .returned (.bool false) ∧ W.grownBy w' none by
    have := pcomes_any t L a n cap zs hn now W hm2 hm3 hm5 hm6
    unfold comesB at hc
    rw [if_pos h] at hc
    dsimp only at hc
    rw [hn] at hc
    rwa [hc] at this))
  have HC2 := hide (fun (h : ¬ t.kind = 1) W => (show Calls Tryz.prog 162 #[.agg (kindC t L (.slice a n cap)), .int .i64 now] W fun e w' => e = .returned (.bool false) ∧ W.grownBy w' none by
    have := rcomes_any t L a n cap now W hp hm5
    unfold comesB at hc
    rw [if_neg h] at hc
    rwa [hc] at this))
  clear hn hv hm hc hm1 hm2 hm3 hm4 hm5 hm6 hp
  skip
  unfold kindV at CK
  obtain ⟨x0, x1, x2, x3, x4, x5⟩ := t
  dsimp only [kindC] at *
  by_cases hk : x0 = 1
  · subst hk
    rw [if_pos rfl] at CK
    have CC := hide (HC1.out rfl)
    clear HC1 HC2
    go_enter Tryz.func110, Tryz.ntmps110
    go_wp2_with (first | fail)
    refine (CM.out _ (grownBy_trans (grownBy_trans (World.grownBy_alloc _ _ _) (World.grownBy_alloc _ _ _)) (World.grownBy_alloc _ _ _))).mono ?_; rintro e w1 ⟨rfl, hg⟩
    have HG := hide (grownBy_trans (grownBy_trans (grownBy_trans (World.grownBy_alloc _ _ _) (World.grownBy_alloc _ _ _)) (World.grownBy_alloc _ _ _)) hg)
    have HR := hide (box_grown (alloc_third w _ _ (.cells #[.int .i64 0, .slice none 0 0] 93)) hg (by simp))
    have hb := box_grown (hp_up (hp_up (heap_alloc_new w _) _) _) hg (by simp)
    have hu := box_grown (hp_up (alloc_next w _ _) _) hg (by simp)
    have c0 := blk_cell hb 0
    have c1 := blk_cell hb 1
    have c2 := blk_cell hb 2
    have c3 := blk_cell hb 3
    have c4 := blk_cell hb 4
    have c5 := blk_cell hb 5
    have d0 := blk_cell hu 0
    have d1 := blk_cell hu 1
    clear hg hb hu CM
    go_wp2_with (first | fail)
    refine (CK.out _).mono ?_; rintro e w2 ⟨rfl, hg⟩
    have HG2 := hide (grownBy_trans HG.out hg)
    have HR2 := hide (box_grown HR.out hg (by simp))
    clear hg c0 c1 c2 c3 c4 c5 d0 d1 HG HR CK
    have hm1 := m_comes_p (.int .i64 1) (.int .i64 x1) (.int .i64 x2) (.int .i64 x3) (.int .i64 x4) (.int .i64 x5) (.int .i64 L) (.slice a n cap)
    have hm2 := m_kept_p (.int .i64 1) (.int .i64 x1) (.int .i64 x2) (.int .i64 x3) (.int .i64 x4) (.int .i64 x5) (.int .i64 L) (.slice a n cap)
    go_wp2_with (first | fail)
    refine (CC.out _).mono ?_; rintro e w3 ⟨rfl, hg⟩
    have HG3 := hide (grownBy_trans HG2.out hg)
    have HR3 := hide (box_grown HR2.out hg (by simp))
    clear hg HG2 HR2 CC
    go_wp2_with (first | fail)
    refine (CE.out _ HG3.out).mono ?_; rintro e w4 ⟨v1, rfl, ho, hg⟩
    have HG4 := hide (grownBy_trans HG3.out hg)
    have HR4 := hide (box_grown HR3.out hg (by simp))
    have HO := hide (ho.base (base' := w.heap.size + 1 + 1 + 1) (by have := box_lt HR3.out; omega))
    obtain ⟨u, m, c, rfl⟩ : ∃ u m c, v1 = .slice u m c := by obtain ⟨u, c, e⟩ := own_form ho; exact ⟨u, _, c, e⟩
    clear hg ho HG3 HR3 CE
    go_wp2_with (first | ((with_reducible refine list_store 93 (.tmp 6) (.tmp 26) (w.heap.size + 1 + 1) #[.int .i64 L, .slice u m c] 93 #[.int .i64 0, .slice none 0 0] ?hx ?hy ?hg ?hi ?ho ?h1 ?_); (case hx => rfl); (case hy => rfl); (case hg => exact HR4.out); (case hi => exact sizeU); (case ho => rfl); (case h1 => simp [Value.oneCell']); intro w8 h1 e1 g1; have HRn := hide h1; have HGn := hide (grown_spoil HG4.out (Nat.le_trans (Nat.le_succ _) (Nat.le_succ _)) g1); have HOn := hide (HO.out.off g1 (by omega)); clear h1 e1 g1 HG4 HR4 HO) | fail)
    refine bodyPost_ret (results_rtt rfl _ _ (w.heap.size + 1 + 1) 93 #[.int .i64 L, .slice u m c] (0, 0) _ rfl HRn.out Tryz.underlying93 rfl sizeU) rfl ?_
    exact ⟨_, rfl, HOn.out.base (by omega), HGn.out⟩
  · rw [if_neg hk] at CK
    have CC := hide (HC2.out hk)
    clear HC1 HC2
    go_enter Tryz.func110, Tryz.ntmps110
    go_wp2_with (first | fail)
    refine (CM.out _ (grownBy_trans (grownBy_trans (World.grownBy_alloc _ _ _) (World.grownBy_alloc _ _ _)) (World.grownBy_alloc _ _ _))).mono ?_; rintro e w1 ⟨rfl, hg⟩
    have HG := hide (grownBy_trans (grownBy_trans (grownBy_trans (World.grownBy_alloc _ _ _) (World.grownBy_alloc _ _ _)) (World.grownBy_alloc _ _ _)) hg)
    have HR := hide (box_grown (alloc_third w _ _ (.cells #[.int .i64 0, .slice none 0 0] 93)) hg (by simp))
    have hb := box_grown (hp_up (hp_up (heap_alloc_new w _) _) _) hg (by simp)
    have hu := box_grown (hp_up (alloc_next w _ _) _) hg (by simp)
    have c0 := blk_cell hb 0
    have c1 := blk_cell hb 1
    have c2 := blk_cell hb 2
    have c3 := blk_cell hb 3
    have c4 := blk_cell hb 4
    have c5 := blk_cell hb 5
    have d0 := blk_cell hu 0
    have d1 := blk_cell hu 1
    clear hg hb hu CM
    go_wp2_with (first | fail)
    refine (CK.out _).mono ?_; rintro e w2 ⟨rfl, hg⟩
    have HG2 := hide (grownBy_trans HG.out hg)
    have HR2 := hide (box_grown HR.out hg (by simp))
    clear hg c0 c1 c2 c3 c4 c5 d0 d1 HG HR CK
    have hm1 := m_comes_r (.int .i64 x0) (.int .i64 x1) (.int .i64 x2) (.int .i64 x3) (.int .i64 x4) (.int .i64 x5) (.int .i64 L) (.slice a n cap)
    have hm2 := m_kept_r (.int .i64 x0) (.int .i64 x1) (.int .i64 x2) (.int .i64 x3) (.int .i64 x4) (.int .i64 x5) (.int .i64 L) (.slice a n cap)
    go_wp2_with (first | fail)
    refine (CC.out _).mono ?_; rintro e w3 ⟨rfl, hg⟩
    have HG3 := hide (grownBy_trans HG2.out hg)
    have HR3 := hide (box_grown HR2.out hg (by simp))
    clear hg HG2 HR2 CC
    go_wp2_with (first | fail)
    refine (CE.out _ HG3.out).mono ?_; rintro e w4 ⟨v1, rfl, ho, hg⟩
    have HG4 := hide (grownBy_trans HG3.out hg)
    have HR4 := hide (box_grown HR3.out hg (by simp))
    have HO := hide (ho.base (base' := w.heap.size + 1 + 1 + 1) (by have := box_lt HR3.out; omega))
    obtain ⟨u, m, c, rfl⟩ : ∃ u m c, v1 = .slice u m c := by obtain ⟨u, c, e⟩ := own_form ho; exact ⟨u, _, c, e⟩
    clear hg ho HG3 HR3 CE
    go_wp2_with (first | ((with_reducible refine list_store 93 (.tmp 6) (.tmp 26) (w.heap.size + 1 + 1) #[.int .i64 L, .slice u m c] 93 #[.int .i64 0, .slice none 0 0] ?hx ?hy ?hg ?hi ?ho ?h1 ?_); (case hx => rfl); (case hy => rfl); (case hg => exact HR4.out); (case hi => exact sizeU); (case ho => rfl); (case h1 => simp [Value.oneCell']); intro w8 h1 e1 g1; have HRn := hide h1; have HGn := hide (grown_spoil HG4.out (Nat.le_trans (Nat.le_succ _) (Nat.le_succ _)) g1); have HOn := hide (HO.out.off g1 (by omega)); clear h1 e1 g1 HG4 HR4 HO) | fail)
    refine bodyPost_ret (results_rtt rfl _ _ (w.heap.size + 1 + 1) 93 #[.int .i64 L, .slice u m c] (0, 0) _ rfl HRn.out Tryz.underlying93 rfl sizeU) rfl ?_
    exact ⟨_, rfl, HOn.out.base (by omega), HGn.out⟩

set_option maxRecDepth 100000 in
set_option maxHeartbeats 2000000 in
theorem rel_job {lo : Nat} (t : TaskV) (L : Int) (a : Option Addr) (n cap : Nat) (zs : List Int) (now : Int) (w : World) (hv : RowAt shN lo w (.slice a n cap) zs) (hm : atMay t ⟨L, zs⟩ now = true) (hc : comesB t ⟨L, zs⟩ now = true) :
    Calls Tryz.prog 110 #[taskVal t, .agg #[.int .i64 L, .slice a n cap], .int .i64 now] w fun e w' => ∃ v', e = .returned (.tuple #[.agg #[.int .i64 now, v'], .int .i64 (jobD t ⟨L, zs⟩), .bool true]) ∧ Own w.heap.size w' v' (zs.drop 1) ∧ w.grownBy w' none := by
  have hn : zs.length = n := by obtain ⟨-, a2, c2, e, -⟩ := hv; simp only [Value.slice.injEq] at e; exact e.2.1.symm
  have CM := hide (fun W (hg : w.grownBy W none) => mayAt_any t L (.slice a n cap) zs now W (hv.grown hg))
  rw [hm] at CM
  obtain ⟨hm1, -, hm2, hm3, hm4, hm5, hm6⟩ := at_parts hm
  have hp := (may_parts hm1).2.1
  have CK := hide (kindOf_any t L a n cap)
  have CE := hide (fun W (hg : w.grownBy W none) => release_any t L a n cap zs (by dsimp only at hm4; omega) now W (hv.grown hg))
  have HC1 := hide (fun (h : t.kind = 1) W => (show Calls Tryz.prog 160 #[.agg (kindC t L (.slice a n cap)), .int .i64 now] W fun e w' => e = .returned (.bool true) ∧ W.grownBy w' none by
    have := pcomes_any t L a n cap zs hn now W hm2 hm3 hm5 hm6
    unfold comesB at hc
    rw [if_pos h] at hc
    dsimp only at hc
    rw [hn] at hc
    rwa [hc] at this))
  have HC2 := hide (fun (h : ¬ t.kind = 1) W => (show Calls Tryz.prog 162 #[.agg (kindC t L (.slice a n cap)), .int .i64 now] W fun e w' => e = .returned (.bool true) ∧ W.grownBy w' none by
    have := rcomes_any t L a n cap now W hp hm5
    unfold comesB at hc
    rw [if_neg h] at hc
    rwa [hc] at this))
  clear hn hv hm hc hm1 hm2 hm3 hm4 hm5 hm6 hp
  generalize jobD t ⟨L, zs⟩ = D at *
  unfold kindV at CK
  obtain ⟨x0, x1, x2, x3, x4, x5⟩ := t
  dsimp only [kindC] at *
  by_cases hk : x0 = 1
  · subst hk
    rw [if_pos rfl] at CK
    have CC := hide (HC1.out rfl)
    clear HC1 HC2
    go_enter Tryz.func110, Tryz.ntmps110
    go_wp2_with (first | fail)
    refine (CM.out _ (grownBy_trans (grownBy_trans (World.grownBy_alloc _ _ _) (World.grownBy_alloc _ _ _)) (World.grownBy_alloc _ _ _))).mono ?_; rintro e w1 ⟨rfl, hg⟩
    have HG := hide (grownBy_trans (grownBy_trans (grownBy_trans (World.grownBy_alloc _ _ _) (World.grownBy_alloc _ _ _)) (World.grownBy_alloc _ _ _)) hg)
    have HR := hide (box_grown (alloc_third w _ _ (.cells #[.int .i64 0, .slice none 0 0] 93)) hg (by simp))
    have hb := box_grown (hp_up (hp_up (heap_alloc_new w _) _) _) hg (by simp)
    have hu := box_grown (hp_up (alloc_next w _ _) _) hg (by simp)
    have c0 := blk_cell hb 0
    have c1 := blk_cell hb 1
    have c2 := blk_cell hb 2
    have c3 := blk_cell hb 3
    have c4 := blk_cell hb 4
    have c5 := blk_cell hb 5
    have d0 := blk_cell hu 0
    have d1 := blk_cell hu 1
    clear hg hb hu CM
    go_wp2_with (first | fail)
    refine (CK.out _).mono ?_; rintro e w2 ⟨rfl, hg⟩
    have HG2 := hide (grownBy_trans HG.out hg)
    have HR2 := hide (box_grown HR.out hg (by simp))
    clear hg c0 c1 c2 c3 c4 c5 d0 d1 HG HR CK
    have hm1 := m_comes_p (.int .i64 1) (.int .i64 x1) (.int .i64 x2) (.int .i64 x3) (.int .i64 x4) (.int .i64 x5) (.int .i64 L) (.slice a n cap)
    have hm2 := m_release_p (.int .i64 1) (.int .i64 x1) (.int .i64 x2) (.int .i64 x3) (.int .i64 x4) (.int .i64 x5) (.int .i64 L) (.slice a n cap)
    go_wp2_with (first | fail)
    refine (CC.out _).mono ?_; rintro e w3 ⟨rfl, hg⟩
    have HG3 := hide (grownBy_trans HG2.out hg)
    have HR3 := hide (box_grown HR2.out hg (by simp))
    clear hg HG2 HR2 CC
    go_wp2_with (first | fail)
    refine (CE.out _ HG3.out).mono ?_; rintro e w4 ⟨v1, rfl, ho, hg⟩
    have HG4 := hide (grownBy_trans HG3.out hg)
    have HR4 := hide (box_grown HR3.out hg (by simp))
    have HO := hide (ho.base (base' := w.heap.size + 1 + 1 + 1) (by have := box_lt HR3.out; omega))
    obtain ⟨u, m, c, rfl⟩ : ∃ u m c, v1 = .slice u m c := by obtain ⟨u, c, e⟩ := own_form ho; exact ⟨u, _, c, e⟩
    clear hg ho HG3 HR3 CE
    go_wp2_with (first | ((with_reducible refine list_store 93 (.tmp 6) (.tmp 33) (w.heap.size + 1 + 1) #[.int .i64 now, .slice u m c] 93 #[.int .i64 0, .slice none 0 0] ?hx ?hy ?hg ?hi ?ho ?h1 ?_); (case hx => rfl); (case hy => rfl); (case hg => exact hp_up HR4.out _); (case hi => exact sizeU); (case ho => rfl); (case h1 => simp [Value.oneCell']); intro w8 h1 e1 g1; have HRn := hide h1; have HGn := hide (grown_spoil (grownBy_trans HG4.out (World.grownBy_alloc _ _ none)) (Nat.le_trans (Nat.le_succ _) (Nat.le_succ _)) g1); have HOn := hide ((HO.out.grown (World.grownBy_alloc _ _ none)).off g1 (by omega)); clear h1 e1 g1 HG4 HR4 HO) | fail)
    refine bodyPost_ret (results_rtt rfl _ _ (w.heap.size + 1 + 1) 93 #[.int .i64 now, .slice u m c] (0, 0) _ rfl HRn.out Tryz.underlying93 rfl sizeU) rfl ?_
    exact ⟨_, rfl, HOn.out.base (by omega), HGn.out⟩
  · rw [if_neg hk] at CK
    have CC := hide (HC2.out hk)
    clear HC1 HC2
    go_enter Tryz.func110, Tryz.ntmps110
    go_wp2_with (first | fail)
    refine (CM.out _ (grownBy_trans (grownBy_trans (World.grownBy_alloc _ _ _) (World.grownBy_alloc _ _ _)) (World.grownBy_alloc _ _ _))).mono ?_; rintro e w1 ⟨rfl, hg⟩
    have HG := hide (grownBy_trans (grownBy_trans (grownBy_trans (World.grownBy_alloc _ _ _) (World.grownBy_alloc _ _ _)) (World.grownBy_alloc _ _ _)) hg)
    have HR := hide (box_grown (alloc_third w _ _ (.cells #[.int .i64 0, .slice none 0 0] 93)) hg (by simp))
    have hb := box_grown (hp_up (hp_up (heap_alloc_new w _) _) _) hg (by simp)
    have hu := box_grown (hp_up (alloc_next w _ _) _) hg (by simp)
    have c0 := blk_cell hb 0
    have c1 := blk_cell hb 1
    have c2 := blk_cell hb 2
    have c3 := blk_cell hb 3
    have c4 := blk_cell hb 4
    have c5 := blk_cell hb 5
    have d0 := blk_cell hu 0
    have d1 := blk_cell hu 1
    clear hg hb hu CM
    go_wp2_with (first | fail)
    refine (CK.out _).mono ?_; rintro e w2 ⟨rfl, hg⟩
    have HG2 := hide (grownBy_trans HG.out hg)
    have HR2 := hide (box_grown HR.out hg (by simp))
    clear hg c0 c1 c2 c3 c4 c5 d0 d1 HG HR CK
    have hm1 := m_comes_r (.int .i64 x0) (.int .i64 x1) (.int .i64 x2) (.int .i64 x3) (.int .i64 x4) (.int .i64 x5) (.int .i64 L) (.slice a n cap)
    have hm2 := m_release_r (.int .i64 x0) (.int .i64 x1) (.int .i64 x2) (.int .i64 x3) (.int .i64 x4) (.int .i64 x5) (.int .i64 L) (.slice a n cap)
    go_wp2_with (first | fail)
    refine (CC.out _).mono ?_; rintro e w3 ⟨rfl, hg⟩
    have HG3 := hide (grownBy_trans HG2.out hg)
    have HR3 := hide (box_grown HR2.out hg (by simp))
    clear hg HG2 HR2 CC
    go_wp2_with (first | fail)
    refine (CE.out _ HG3.out).mono ?_; rintro e w4 ⟨v1, rfl, ho, hg⟩
    have HG4 := hide (grownBy_trans HG3.out hg)
    have HR4 := hide (box_grown HR3.out hg (by simp))
    have HO := hide (ho.base (base' := w.heap.size + 1 + 1 + 1) (by have := box_lt HR3.out; omega))
    obtain ⟨u, m, c, rfl⟩ : ∃ u m c, v1 = .slice u m c := by obtain ⟨u, c, e⟩ := own_form ho; exact ⟨u, _, c, e⟩
    clear hg ho HG3 HR3 CE
    go_wp2_with (first | ((with_reducible refine list_store 93 (.tmp 6) (.tmp 33) (w.heap.size + 1 + 1) #[.int .i64 now, .slice u m c] 93 #[.int .i64 0, .slice none 0 0] ?hx ?hy ?hg ?hi ?ho ?h1 ?_); (case hx => rfl); (case hy => rfl); (case hg => exact hp_up HR4.out _); (case hi => exact sizeU); (case ho => rfl); (case h1 => simp [Value.oneCell']); intro w8 h1 e1 g1; have HRn := hide h1; have HGn := hide (grown_spoil (grownBy_trans HG4.out (World.grownBy_alloc _ _ none)) (Nat.le_trans (Nat.le_succ _) (Nat.le_succ _)) g1); have HOn := hide ((HO.out.grown (World.grownBy_alloc _ _ none)).off g1 (by omega)); clear h1 e1 g1 HG4 HR4 HO) | fail)
    refine bodyPost_ret (results_rtt rfl _ _ (w.heap.size + 1 + 1) 93 #[.int .i64 now, .slice u m c] (0, 0) _ rfl HRn.out Tryz.underlying93 rfl sizeU) rfl ?_
    exact ⟨_, rfl, HOn.out.base (by omega), HGn.out⟩

theorem rel_any {lo : Nat} (t : TaskV) (L : Int) (v : Value) (zs : List Int) (now : Int) (w : World) (hv : RowAt shN lo w v zs) :
    Calls Tryz.prog 110 #[taskVal t, .agg #[.int .i64 L, v], .int .i64 now] w fun e w' => ∃ v', e = .returned (.tuple #[.agg #[.int .i64 (relS t ⟨L, zs⟩ now).last, v'], .int .i64 (relD t ⟨L, zs⟩ now), .bool (isB t ⟨L, zs⟩ now)]) ∧ Own w.heap.size w' v' (relS t ⟨L, zs⟩ now).picks ∧ w.grownBy w' none := by
  have hv0 := hv
  obtain ⟨-, a, cap, rfl, -⟩ := hv0
  unfold relD isB relS
  cases hm : atMay t ⟨L, zs⟩ now with
  | false => exact rel_no t L a _ cap zs now w hv hm
  | true =>
    rw [Bool.true_and]
    cases hc : comesB t ⟨L, zs⟩ now with
    | false => exact rel_keep t L a _ cap zs now w hv hm hc
    | true => exact rel_job t L a _ cap zs now w hv hm hc
#print axioms rel_any
end Go.Proofs.YtlppfocoonnpjaaGreatDoor.U
