/- Contracts of the library's BinarySearchFunc with package ready's compare, and of place, has and full, proved over the translation. -/
import Derived.Test.YtlppfocoonnpjaaGreatDoorJRow
namespace Go.Proofs.YtlppfocoonnpjaaGreatDoor.J
open Go.RowKit
attribute [local go_sem] alloc_drewN setCell_drewN

set_option maxRecDepth 100000 in
set_option maxHeartbeats 4000000 in
theorem search_any {lo : Nat} (v : Value) (js : List JobV) (j : JobV) (w : World) (hv : RowAt shJ lo w v js) (hr : risesB js = true) (h16 : js.length ≤ 16) :
    Calls Tryz.prog 135 #[v, jobVal j, .func (.func 131) #[] #[]] w fun e w' => e = .returned (.tuple #[.int .i64 (placeN js j), .bool (hasB js j)]) ∧ w.grownBy w' none := by
  have HV := hide (fun W (hg : w.grownBy W none) => hv.grown hg)
  obtain ⟨hl, a, cap, rfl, -⟩ := hv
  have HAT := hide (fun i k (h1 : i < k) (h2 : k < js.length) => rises_at hr k h1 h2)
  have HEND := hide (fun p (hp : p ≤ js.length) (h1 : ∀ i, i < p → Ahead (jobAt js i) j) (h2 : ∀ i, p ≤ i → i < js.length → ¬Ahead (jobAt js i) j) => place_eq (js := js) (j := j) hp h1 (fun h => h2 p (Nat.le_refl _) h))
  have HHAS := hide (has_place (j := j) hr)
  have CC := hide (fun i W => cmp_any (jobAt js i) j W)
  have CN := hide (fun i => cmp_neg (jobAt js i) j)
  have CZ := hide (fun i => cmp_zero (jobAt js i) j)
  have AI := hide (fun i => ahead_iff (a := jobAt js i) (b := j))
  have AN := hide (fun i => ahead_no (a := jobAt js i) (b := j))
  have HPASS := hide (fun i k (h1 : Ahead (jobAt js i) (jobAt js k)) (h2 : Ahead (jobAt js k) j) => h1.trans h2)
  have HPASS2 := hide (fun i k (h1 : Ahead (jobAt js i) (jobAt js k)) (h2 : ¬Ahead (jobAt js i) j) => (fun (h3 : Ahead (jobAt js k) j) => h2 (h1.trans h3)))
  generalize hP : placeN js j = P at *
  generalize hH : hasB js j = Hs at *
  clear hP hH hr
  generalize hN : js.length = N at *
  have HN := hide hN
  clear hN
  obtain ⟨y0, y1, y2, y3, y4, y5, y6⟩ := j
  go_enter Tryz.func135, Tryz.ntmps135
  go_upto_region 3 with (first | fail)
  have HG0 := hide (World.grownBy_alloc w (.cells #[.int .i64 y0, .int .i64 y1, .int .i64 y2, .int .i64 y3, .int .i64 y4, .int .i64 y5, .int .i64 y6] 70) none)
  have HB0 := hide (heap_alloc_new w (.cells #[.int .i64 y0, .int .i64 y1, .int .i64 y2, .int .i64 y3, .int .i64 y4, .int .i64 y5, .int .i64 y6] 70))
  generalize hW0 : w.alloc (.cells #[.int .i64 y0, .int .i64 y1, .int .i64 y2, .int .i64 y3, .int .i64 y4, .int .i64 y5, .int .i64 y6] 70) = w0 at *
  generalize hB : w.heap.size = B at *
  clear hW0 hB
  have HBX0 := hide (fun W (hg : w0.grownBy W none) => box_grown HB0.out hg (by simp))
  clear HB0
  go_loopw [9, 10, 11] (fun i k _ W => ∃ (l h : Nat), l ≤ h ∧ h ≤ N ∧ i = .int .i64 l ∧ k = .int .i64 h ∧ Hid (w0.grownBy W none) ∧ Hid ((∀ i, i < l → Ahead (jobAt js i) ⟨y0, y1, y2, y3, y4, y5, y6⟩) ∧ (∀ i, h ≤ i → i < N → ¬Ahead (jobAt js i) ⟨y0, y1, y2, y3, y4, y5, y6⟩))) (fun i k _ _ => (intOf k).toNat - (intOf i).toNat)
  case atStart => exact ⟨0, N, by omega, by omega, rfl, rfl, grownBy_refl _ _, hide ⟨fun i hi => absurd hi (Nat.not_lt_zero _), fun i h1 h2 => absurd h2 (by omega)⟩⟩
  case round =>
    obtain ⟨l, h, hlh, hhN, rfl, rfl, HG, HP⟩ := hrel
    have HBX := hide (fun W (hg : wr.grownBy W none) => HBX0.out W (grownBy_trans HG.out hg))
    have HCV := hide (fun W (hg : wr.grownBy W none) => HV.out W (grownBy_trans HG0.out (grownBy_trans HG.out hg)))
    by_cases hlt : l < h
    · obtain ⟨g, o, rfl⟩ := row_addr (HCV.out wr (grownBy_refl _ _)) (by omega)
      have HC := HCV
      have hm1 : ∃ m : Nat, ((l : Int) + (h : Int)) / 2 = (m : Int) ∧ l ≤ m ∧ m < h := ⟨(l + h) / 2, by omega, by omega, by omega⟩
      obtain ⟨m, hm, hlm, hmh⟩ := hm1
      have hq := jobAt_mem (js := js) (i := m) (by rw [HN.out]; omega)
      have CM := CC.out m
      have HCM := CN.out m
      have A1 := (AI.out m).1
      have A2 := (AN.out m).1
      go_upto_region 5 with (first | fail)
      clear hm
      obtain ⟨U, hU, F, HF, HR⟩ := class_of wr
      have c0 : ∀ u, (F u).cell? ⟨g, o + m * 7, none⟩ = some (.int .i64 (jobAt js m).task) := fun u => row_cell (S := shJ) (HC.out _ (HF.out u)) hq (k := 0) rfl
      have d0 : ∀ u, (F u).cell? ⟨B, 0, none⟩ = some (.int .i64 y0) := fun u => blk_cell (HBX.out _ (HF.out u)) 0
      have c1 : ∀ u, (F u).cell? ⟨g, o + m * 7 + 1, none⟩ = some (.int .i64 (jobAt js m).seq) := fun u => row_cell (S := shJ) (HC.out _ (HF.out u)) hq (k := 1) rfl
      have d1 : ∀ u, (F u).cell? ⟨B, 1, none⟩ = some (.int .i64 y1) := fun u => blk_cell (HBX.out _ (HF.out u)) 1
      have c2 : ∀ u, (F u).cell? ⟨g, o + m * 7 + 2, none⟩ = some (.int .i64 (jobAt js m).prio) := fun u => row_cell (S := shJ) (HC.out _ (HF.out u)) hq (k := 2) rfl
      have d2 : ∀ u, (F u).cell? ⟨B, 2, none⟩ = some (.int .i64 y2) := fun u => blk_cell (HBX.out _ (HF.out u)) 2
      have c3 : ∀ u, (F u).cell? ⟨g, o + m * 7 + 3, none⟩ = some (.int .i64 (jobAt js m).rel) := fun u => row_cell (S := shJ) (HC.out _ (HF.out u)) hq (k := 3) rfl
      have d3 : ∀ u, (F u).cell? ⟨B, 3, none⟩ = some (.int .i64 y3) := fun u => blk_cell (HBX.out _ (HF.out u)) 3
      have c4 : ∀ u, (F u).cell? ⟨g, o + m * 7 + 4, none⟩ = some (.int .i64 (jobAt js m).dead) := fun u => row_cell (S := shJ) (HC.out _ (HF.out u)) hq (k := 4) rfl
      have d4 : ∀ u, (F u).cell? ⟨B, 4, none⟩ = some (.int .i64 y4) := fun u => blk_cell (HBX.out _ (HF.out u)) 4
      have c5 : ∀ u, (F u).cell? ⟨g, o + m * 7 + 5, none⟩ = some (.int .i64 (jobAt js m).dem) := fun u => row_cell (S := shJ) (HC.out _ (HF.out u)) hq (k := 5) rfl
      have d5 : ∀ u, (F u).cell? ⟨B, 5, none⟩ = some (.int .i64 y5) := fun u => blk_cell (HBX.out _ (HF.out u)) 5
      have c6 : ∀ u, (F u).cell? ⟨g, o + m * 7 + 6, none⟩ = some (.int .i64 (jobAt js m).used) := fun u => row_cell (S := shJ) (HC.out _ (HF.out u)) hq (k := 6) rfl
      have d6 : ∀ u, (F u).cell? ⟨B, 6, none⟩ = some (.int .i64 y6) := fun u => blk_cell (HBX.out _ (HF.out u)) 6
      generalize cmpJ (jobAt js m) ⟨y0, y1, y2, y3, y4, y5, y6⟩ = c at *
      generalize aheadB (jobAt js m) ⟨y0, y1, y2, y3, y4, y5, y6⟩ = b at *
      have HA1 := hide A1
      have HA2 := hide A2
      have HCM2 := hide HCM
      have HPS := hide (fun i (h1 : i < m) (h2 : Ahead (jobAt js m) ⟨y0, y1, y2, y3, y4, y5, y6⟩) => HPASS.out i m (HAT.out i m h1 (by omega)) h2)
      have HPS2 := hide (fun i (h1 : m < i) (h3 : i < N) (h2 : ¬Ahead (jobAt js m) ⟨y0, y1, y2, y3, y4, y5, y6⟩) => HPASS2.out m i (HAT.out m i h1 h3) h2)
      clear A1 A2 HCM hq
      dsimp only [jobVal] at CM
      generalize (jobAt js m).task = x0 at *
      generalize (jobAt js m).seq = x1 at *
      generalize (jobAt js m).prio = x2 at *
      generalize (jobAt js m).rel = x3 at *
      generalize (jobAt js m).dead = x4 at *
      generalize (jobAt js m).dem = x5 at *
      generalize (jobAt js m).used = x6 at *
      refine wp_region_quiet_in F (by kernel_rfl) (by kernel_rfl) (HR.out _ (drew_grown _)) ?_
      repeat (go_big_quiet_step (first | (go_at_call 131; exact calls_in HR (HF.out _) (CM _))))
      refine wpQuiet_nil ?_
      intro _ hw1
      obtain ⟨uq, hw2⟩ := hw1
      subst hw2
      have HGn := hide (grownBy_trans HG.out (HF.out uq))
      clear HG c0 c1 c2 c3 c4 c5 c6 d0 d1 d2 d3 d4 d5 d6 CM
      cases b with
      | true =>
        have hc := of_decide_eq_true HCM2.out
        go_wp2
        go_roundw
        case rel =>
          refine ⟨m + 1, h, by omega, by omega, by go_num, rfl, HGn, hide ⟨fun i hi => ?_, HP.out.2⟩⟩
          rcases (by omega : i < m ∨ i = m) with h1 | rfl
          · exact HPS.out i h1 (HA1.out rfl)
          · exact HA1.out rfl
        case measure => simp [intOf]; omega
      | false =>
        have hc := of_decide_eq_false HCM2.out
        go_wp2
        go_roundw
        case rel =>
          refine ⟨l, m, by omega, by omega, rfl, by go_num, HGn, hide ⟨HP.out.1, fun i h1 h2 => ?_⟩⟩
          rcases (by omega : m < i ∨ i = m) with h3 | rfl
          · exact HPS2.out i h3 h2 (HA2.out rfl)
          · exact HA2.out rfl
        case measure => simp [intOf]; omega
    · obtain rfl : l = h := by omega
      have hP := HEND.out l (by omega) HP.out.1 HP.out.2
      subst hP
      by_cases hlN : P < N
      · obtain ⟨g, o, rfl⟩ := row_addr (HCV.out wr (grownBy_refl _ _)) (by omega)
        have HC := HCV
        have hq := jobAt_mem (js := js) (i := P) (by rw [HN.out]; omega)
        have CM := CC.out P
        have HZ : Hid (decide (cmpJ (jobAt js P) ⟨y0, y1, y2, y3, y4, y5, y6⟩ = 0) = Hs) := hide (by rw [CZ.out P, HHAS.out, decide_eq_true hlN, Bool.true_and])
        go_upto_region 8 with (first | fail)
        obtain ⟨U, hU, F, HF, HR⟩ := class_of wr
        have c0 : ∀ u, (F u).cell? ⟨g, o + P * 7, none⟩ = some (.int .i64 (jobAt js P).task) := fun u => row_cell (S := shJ) (HC.out _ (HF.out u)) hq (k := 0) rfl
        have d0 : ∀ u, (F u).cell? ⟨B, 0, none⟩ = some (.int .i64 y0) := fun u => blk_cell (HBX.out _ (HF.out u)) 0
        have c1 : ∀ u, (F u).cell? ⟨g, o + P * 7 + 1, none⟩ = some (.int .i64 (jobAt js P).seq) := fun u => row_cell (S := shJ) (HC.out _ (HF.out u)) hq (k := 1) rfl
        have d1 : ∀ u, (F u).cell? ⟨B, 1, none⟩ = some (.int .i64 y1) := fun u => blk_cell (HBX.out _ (HF.out u)) 1
        have c2 : ∀ u, (F u).cell? ⟨g, o + P * 7 + 2, none⟩ = some (.int .i64 (jobAt js P).prio) := fun u => row_cell (S := shJ) (HC.out _ (HF.out u)) hq (k := 2) rfl
        have d2 : ∀ u, (F u).cell? ⟨B, 2, none⟩ = some (.int .i64 y2) := fun u => blk_cell (HBX.out _ (HF.out u)) 2
        have c3 : ∀ u, (F u).cell? ⟨g, o + P * 7 + 3, none⟩ = some (.int .i64 (jobAt js P).rel) := fun u => row_cell (S := shJ) (HC.out _ (HF.out u)) hq (k := 3) rfl
        have d3 : ∀ u, (F u).cell? ⟨B, 3, none⟩ = some (.int .i64 y3) := fun u => blk_cell (HBX.out _ (HF.out u)) 3
        have c4 : ∀ u, (F u).cell? ⟨g, o + P * 7 + 4, none⟩ = some (.int .i64 (jobAt js P).dead) := fun u => row_cell (S := shJ) (HC.out _ (HF.out u)) hq (k := 4) rfl
        have d4 : ∀ u, (F u).cell? ⟨B, 4, none⟩ = some (.int .i64 y4) := fun u => blk_cell (HBX.out _ (HF.out u)) 4
        have c5 : ∀ u, (F u).cell? ⟨g, o + P * 7 + 5, none⟩ = some (.int .i64 (jobAt js P).dem) := fun u => row_cell (S := shJ) (HC.out _ (HF.out u)) hq (k := 5) rfl
        have d5 : ∀ u, (F u).cell? ⟨B, 5, none⟩ = some (.int .i64 y5) := fun u => blk_cell (HBX.out _ (HF.out u)) 5
        have c6 : ∀ u, (F u).cell? ⟨g, o + P * 7 + 6, none⟩ = some (.int .i64 (jobAt js P).used) := fun u => row_cell (S := shJ) (HC.out _ (HF.out u)) hq (k := 6) rfl
        have d6 : ∀ u, (F u).cell? ⟨B, 6, none⟩ = some (.int .i64 y6) := fun u => blk_cell (HBX.out _ (HF.out u)) 6
        generalize cmpJ (jobAt js P) ⟨y0, y1, y2, y3, y4, y5, y6⟩ = c at *
        clear hq
        dsimp only [jobVal] at CM
        generalize (jobAt js P).task = x0 at *
        generalize (jobAt js P).seq = x1 at *
        generalize (jobAt js P).prio = x2 at *
        generalize (jobAt js P).rel = x3 at *
        generalize (jobAt js P).dead = x4 at *
        generalize (jobAt js P).dem = x5 at *
        generalize (jobAt js P).used = x6 at *
        refine wp_region_quiet_in F (by kernel_rfl) (by kernel_rfl) (HR.out _ (drew_grown _)) ?_
        repeat (go_big_quiet_step (first | (go_at_call 131; exact calls_in HR (HF.out _) (CM _))))
        refine wpQuiet_nil ?_
        intro _ hw1
        obtain ⟨uq, hw2⟩ := hw1
        subst hw2
        have HGn := hide (grownBy_trans HG0.out (grownBy_trans HG.out (HF.out uq)))
        clear HG c0 c1 c2 c3 c4 c5 c6 d0 d1 d2 d3 d4 d5 d6 CM
        go_wp2
        go_ret2
        exact ⟨by rw [← HZ.out]; rfl, HGn.out⟩
      · have HZ : Hid (Hs = false) := hide (by rw [HHAS.out, decide_eq_false hlN, Bool.false_and])
        obtain ⟨U, hU, F, HF, HR⟩ := class_of wr
        go_upto_region 8 with (first | fail)
        refine wp_region_quiet_in F (by kernel_rfl) (by kernel_rfl) (HR.out _ (drew_grown _)) ?_
        repeat (go_big_quiet_step (first | fail))
        refine wpQuiet_nil ?_
        intro _ hw1
        obtain ⟨uq, hw2⟩ := hw1
        subst hw2
        have HGn := hide (grownBy_trans HG0.out (grownBy_trans HG.out (HF.out uq)))
        clear HG
        go_wp2
        go_ret2
        exact ⟨by rw [HZ.out]; rfl, HGn.out⟩

theorem place_any {lo : Nat} (v : Value) (js : List JobV) (j : JobV) (w : World) (hv : RowAt shJ lo w v js) (hr : risesB js = true) (h16 : js.length ≤ 16) :
    Calls Tryz.prog 128 #[.agg #[v], jobVal j] w fun e w' => e = .returned (.tuple #[.int .i64 (placeN js j), .bool (hasB js j)]) ∧ w.grownBy w' none := by
  have CS := hide (fun W (hg : w.grownBy W none) => search_any v js j W (hv.grown hg) hr h16)
  obtain ⟨hl, a, cap, rfl, -⟩ := hv
  clear hr
  generalize placeN js j = P at *
  generalize hasB js j = Hs at *
  generalize js.length = N at *
  have HG0 := hide (grownBy_trans (World.grownBy_alloc w (.cells #[.slice a N cap] 159) none) (World.grownBy_alloc _ (.cells #[.int .i64 j.task, .int .i64 j.seq, .int .i64 j.prio, .int .i64 j.rel, .int .i64 j.dead, .int .i64 j.dem, .int .i64 j.used] 70) none))
  obtain ⟨y0, y1, y2, y3, y4, y5, y6⟩ := j
  dsimp only [jobVal] at CS HG0
  go_enter Tryz.func128, Tryz.ntmps128
  go_wp2_with (first | fail)
  refine (CS.out _ HG0.out).mono ?_; rintro e w1 ⟨rfl, hg⟩
  have HG := hide (grownBy_trans HG0.out hg)
  clear hg CS
  go_wp2
  go_ret2
  exact ⟨rfl, HG.out⟩
theorem has_any {lo : Nat} (v : Value) (js : List JobV) (j : JobV) (w : World) (hv : RowAt shJ lo w v js) (hr : risesB js = true) (h16 : js.length ≤ 16) :
    Calls Tryz.prog 112 #[.agg #[v], jobVal j] w fun e w' => e = .returned (.bool (hasB js j)) ∧ w.grownBy w' none := by
  have CS := hide (fun W (hg : w.grownBy W none) => place_any v js j W (hv.grown hg) hr h16)
  obtain ⟨hl, a, cap, rfl, -⟩ := hv
  clear hr
  generalize placeN js j = P at *
  generalize hasB js j = Hs at *
  generalize js.length = N at *
  have HG0 := hide (grownBy_trans (World.grownBy_alloc w (.cells #[.slice a N cap] 159) none) (World.grownBy_alloc _ (.cells #[.int .i64 j.task, .int .i64 j.seq, .int .i64 j.prio, .int .i64 j.rel, .int .i64 j.dead, .int .i64 j.dem, .int .i64 j.used] 70) none))
  obtain ⟨y0, y1, y2, y3, y4, y5, y6⟩ := j
  dsimp only [jobVal] at CS HG0
  go_enter Tryz.func112, Tryz.ntmps112
  go_wp2_with (first | fail)
  refine (CS.out _ HG0.out).mono ?_; rintro e w1 ⟨rfl, hg⟩
  have HG := hide (grownBy_trans HG0.out hg)
  clear hg CS
  go_wp2
  go_ret
  exact ⟨rfl, HG.out⟩
theorem full_any (a : Option Addr) (n c : Nat) (w : World) :
    Calls Tryz.prog 113 #[.agg #[.slice a n c]] w fun e w' => e = .returned (.bool (decide (16 ≤ n))) ∧ w.grownBy w' none := by
  go_enter Tryz.func113, Tryz.ntmps113
  go_wp2
  go_ret
  exact ⟨show Ending.returned (Value.bool (decide ((16 : Int) ≤ n))) = _ by rw [show decide ((16 : Int) ≤ n) = decide (16 ≤ n) from decide_eq_decide.2 (by omega)], World.grownBy_alloc _ _ _⟩
