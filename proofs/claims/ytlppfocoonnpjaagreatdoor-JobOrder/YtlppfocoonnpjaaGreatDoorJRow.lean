/- Contracts of what package ready asks of a row (the closure, the library's IndexFunc and ContainsFunc with it, rises, may, May), proved over the translation. -/
import Derived.Test.YtlppfocoonnpjaaGreatDoorQj
namespace Go.Proofs.YtlppfocoonnpjaaGreatDoor.J
open Go.RowKit
attribute [local go_sem] alloc_drewN setCell_drewN

theorem noJob_any (j : JobV) (w : World) : Calls Tryz.prog 115 #[jobVal j] w fun e w' => e = .returned (.bool (!jobMay j)) ∧ w.grownBy w' none := by
  have C := hide (fun W => job_any j W)
  generalize jobMay j = b at *
  obtain ⟨x0, x1, x2, x3, x4, x5, x6⟩ := j
  go_enter Tryz.func115, Tryz.ntmps115
  go_wp2_with (first | fail)
  refine (C.out _).mono ?_; rintro e w' ⟨rfl, hg⟩
  have HG := hide (grownBy_trans (World.grownBy_alloc w _ none) hg)
  clear hg
  go_wp2
  go_ret
  exact ⟨rfl, HG.out⟩

set_option maxRecDepth 100000 in
set_option maxHeartbeats 1000000 in
/-- The library's IndexFunc, with that closure. -/
theorem index_any {lo : Nat} (v : Value) (js : List JobV) (w : World) (hv : RowAt shJ lo w v js) :
    Calls Tryz.prog 130 #[v, .func (.func 115) #[] #[]] w fun e w' => ∃ r : Int, e = .returned (.int .i64 r) ∧ decide (0 ≤ r) = (!js.all jobMay) ∧ w.grownBy w' none := by
  have HV := hide (fun W (hg : w.grownBy W none) => hv.grown hg)
  obtain ⟨hl, a, cap, rfl, -⟩ := hv
  have HALL := hide (fun (h : ∀ i, i < js.length → jobMay (jobAt js i) = true) => (show js.all jobMay = true by
    rw [List.all_eq_true]; intro x hx
    obtain ⟨i, hi, rfl⟩ := List.getElem_of_mem hx
    have := h i hi
    unfold jobAt at this
    rwa [List.getElem?_eq_getElem hi] at this))
  have HNOT := hide (fun (i : Nat) (hi : i < js.length) (h : jobMay (jobAt js i) = false) => (show js.all jobMay = false by
    rw [List.all_eq_false]; refine ⟨js[i], List.getElem_mem hi, ?_⟩
    unfold jobAt at h
    rw [List.getElem?_eq_getElem hi] at h
    simp only [Option.getD_some] at h
    rw [h]; simp))
  generalize hN : js.length = N at *
  have HN := hide hN
  clear hN
  go_enter Tryz.func130, Tryz.ntmps130
  go_wp2
  go_loopw [5, 8] (fun _ i W => ∃ (j : Nat), j ≤ N ∧ i = .int .i64 j ∧ Hid (w.grownBy W none) ∧ Hid (∀ i, i < j → jobMay (jobAt js i) = true)) (fun _ i _ => N - (intOf i).toNat)
  case atStart => exact ⟨0, by omega, rfl, grownBy_refl _ _, fun i hi => absurd hi (Nat.not_lt_zero _)⟩
  case round =>
    obtain ⟨j, hj, rfl, HG, HP⟩ := hrel
    by_cases hlt : j < N
    · obtain ⟨g, o, rfl⟩ := row_addr (HV.out wr HG.out) (by omega)
      have hq := jobAt_mem (js := js) (i := j) (by rw [HN.out]; exact hlt)
      have c0 : wr.cell? ⟨g, o + j * 7, none⟩ = some (.int .i64 (jobAt js j).task) := row_cell (S := shJ) (HV.out wr HG.out) hq (k := 0) rfl
      have c1 : wr.cell? ⟨g, o + j * 7 + 1, none⟩ = some (.int .i64 (jobAt js j).seq) := row_cell (S := shJ) (HV.out wr HG.out) hq (k := 1) rfl
      have c2 : wr.cell? ⟨g, o + j * 7 + 2, none⟩ = some (.int .i64 (jobAt js j).prio) := row_cell (S := shJ) (HV.out wr HG.out) hq (k := 2) rfl
      have c3 : wr.cell? ⟨g, o + j * 7 + 3, none⟩ = some (.int .i64 (jobAt js j).rel) := row_cell (S := shJ) (HV.out wr HG.out) hq (k := 3) rfl
      have c4 : wr.cell? ⟨g, o + j * 7 + 4, none⟩ = some (.int .i64 (jobAt js j).dead) := row_cell (S := shJ) (HV.out wr HG.out) hq (k := 4) rfl
      have c5 : wr.cell? ⟨g, o + j * 7 + 5, none⟩ = some (.int .i64 (jobAt js j).dem) := row_cell (S := shJ) (HV.out wr HG.out) hq (k := 5) rfl
      have c6 : wr.cell? ⟨g, o + j * 7 + 6, none⟩ = some (.int .i64 (jobAt js j).used) := row_cell (S := shJ) (HV.out wr HG.out) hq (k := 6) rfl
      clear hq
      have C := hide (fun W => noJob_any (jobAt js j) W)
      generalize hm : jobMay (jobAt js j) = b at *
      have HM := hide hm
      clear hm
      dsimp only [jobVal] at C
      generalize (jobAt js j).task = x0 at *
      generalize (jobAt js j).seq = x1 at *
      generalize (jobAt js j).prio = x2 at *
      generalize (jobAt js j).rel = x3 at *
      generalize (jobAt js j).dead = x4 at *
      generalize (jobAt js j).dem = x5 at *
      generalize (jobAt js j).used = x6 at *
      cases b with
      | true =>
        go_wp2_with (first | fail)
        refine (C.out _).mono ?_; rintro e w' ⟨rfl, hg⟩
        have HGn := hide (grownBy_trans HG.out hg)
        clear hg HG c0 c1 c2 c3 c4 c5 c6
        go_wp2
        go_roundw
        case rel =>
          refine ⟨j + 1, by omega, by go_num, HGn, hide (fun i hi => ?_)⟩
          rcases (by omega : i < j ∨ i = j) with h | rfl
          · exact HP.out i h
          · exact HM.out
        case measure => simp [intOf]; omega
      | false =>
        go_wp2_with (first | fail)
        refine (C.out _).mono ?_; rintro e w' ⟨rfl, hg⟩
        have HGn := hide (grownBy_trans HG.out hg)
        clear hg HG c0 c1 c2 c3 c4 c5 c6
        go_wp2
        go_ret
        refine ⟨_, rfl, ?_, HGn.out⟩
        rw [HNOT.out j hlt HM.out]
        simp
    · obtain rfl : j = N := by omega
      go_wp2
      go_ret
      refine ⟨_, rfl, ?_, HG.out⟩
      rw [HALL.out HP.out]
      simp

set_option maxRecDepth 100000 in
set_option maxHeartbeats 1000000 in
theorem contains_any {lo : Nat} (v : Value) (js : List JobV) (w : World) (hv : RowAt shJ lo w v js) :
    Calls Tryz.prog 116 #[v, .func (.func 115) #[] #[]] w fun e w' => e = .returned (.bool (!js.all jobMay)) ∧ w.grownBy w' none := by
  have C0 := hide (index_any v js w hv)
  obtain ⟨hl, a, cap, rfl, -⟩ := hv
  generalize (!js.all jobMay) = b at *
  generalize js.length = N at *
  go_enter Tryz.func116, Tryz.ntmps116
  go_wp2_with (first | fail)
  refine C0.out.mono ?_; rintro e w' ⟨r, rfl, hr, hg⟩
  have HR := hide hr
  have HG := hide hg
  clear hr C0 hg
  go_wp2
  go_ret
  refine ⟨?_, HG.out⟩
  rw [← HR.out]
  rfl

set_option maxRecDepth 100000 in
set_option maxHeartbeats 4000000 in
theorem rises_any {lo : Nat} (v : Value) (js : List JobV) (w : World) (hv : RowAt shJ lo w v js) :
    Calls Tryz.prog 117 #[.agg #[v]] w fun e w' => e = .returned (.bool (risesB js)) ∧ w.grownBy w' none := by
  have HV := hide (fun W (hg : w.grownBy W none) => hv.grown hg)
  obtain ⟨hl, a, cap, rfl, -⟩ := hv
  have HYES := hide (fun (h : ∀ i, i < js.length → stepB js i = true) => (show risesB js = true from allB_true h))
  have HNOT := hide (fun (i : Nat) (hi : i < js.length) (h : stepB js i = false) => (show risesB js = false from allB_false hi h))
  generalize risesB js = A at *
  generalize hN : js.length = N at *
  have HN := hide hN
  clear hN
  go_enter Tryz.func117, Tryz.ntmps117
  go_upto_region 2 with (first | fail)
  have HG0 := hide (World.grownBy_alloc w (.cells #[.slice a N cap] 159) none)
  have HB0 := hide (heap_alloc_new w (.cells #[.slice a N cap] 159))
  have HB : Hid (∀ W, (w.alloc (.cells #[.slice a N cap] 159)).grownBy W none → W.cell? ⟨w.heap.size, 0, none⟩ = some (.slice a N cap)) := hide (fun W hg => blk_cell (box_grown HB0.out hg (by simp)) 0)
  clear HB0
  generalize w.alloc (.cells #[.slice a N cap] 159) = w0 at *
  go_loopw [3, 7] (fun _ i W => ∃ (j : Nat), j ≤ N ∧ i = .int .i64 j ∧ Hid (w0.grownBy W none) ∧ Hid (∀ i, i < j → stepB js i = true)) (fun _ i _ => N - (intOf i).toNat)
  case atStart => exact ⟨0, by omega, rfl, grownBy_refl _ _, fun i hi => absurd hi (Nat.not_lt_zero _)⟩
  case round =>
    obtain ⟨j, hj, rfl, HG, HP⟩ := hrel
    by_cases hlt : j < N
    · obtain ⟨g, o, rfl⟩ := row_addr (HV.out wr (grownBy_trans HG0.out HG.out)) (by omega)
      have HC := hide (fun W (hg : wr.grownBy W none) => HV.out W (grownBy_trans HG0.out (grownBy_trans HG.out hg)))
      have hq := jobAt_mem (js := js) (i := j) (by rw [HN.out]; exact hlt)
      have HS : Hid (∀ i, i < j → stepB js i = true) := HP
      obtain ⟨s, hs⟩ : ∃ s, stepB js j = s := ⟨_, rfl⟩
      have HST := hide hs
      by_cases h0 : 0 < j
      · have hq2 := jobAt_mem (js := js) (i := j - 1) (by rw [HN.out]; omega)
        obtain ⟨U, hU, F, HF, HR⟩ := class_of wr
        have b0 := fun u => HB.out _ (grownBy_trans HG.out (HF.out u))
        have c0 : ∀ u, (F u).cell? ⟨g, o + j * 7, none⟩ = some (.int .i64 (jobAt js j).task) := fun u => row_cell (S := shJ) (HC.out _ (HF.out u)) hq (k := 0) rfl
        have d0 : ∀ u, (F u).cell? ⟨g, o + (j - 1) * 7, none⟩ = some (.int .i64 (jobAt js (j - 1)).task) := fun u => row_cell (S := shJ) (HC.out _ (HF.out u)) hq2 (k := 0) rfl
        have c1 : ∀ u, (F u).cell? ⟨g, o + j * 7 + 1, none⟩ = some (.int .i64 (jobAt js j).seq) := fun u => row_cell (S := shJ) (HC.out _ (HF.out u)) hq (k := 1) rfl
        have d1 : ∀ u, (F u).cell? ⟨g, o + (j - 1) * 7 + 1, none⟩ = some (.int .i64 (jobAt js (j - 1)).seq) := fun u => row_cell (S := shJ) (HC.out _ (HF.out u)) hq2 (k := 1) rfl
        have c2 : ∀ u, (F u).cell? ⟨g, o + j * 7 + 2, none⟩ = some (.int .i64 (jobAt js j).prio) := fun u => row_cell (S := shJ) (HC.out _ (HF.out u)) hq (k := 2) rfl
        have d2 : ∀ u, (F u).cell? ⟨g, o + (j - 1) * 7 + 2, none⟩ = some (.int .i64 (jobAt js (j - 1)).prio) := fun u => row_cell (S := shJ) (HC.out _ (HF.out u)) hq2 (k := 2) rfl
        have c3 : ∀ u, (F u).cell? ⟨g, o + j * 7 + 3, none⟩ = some (.int .i64 (jobAt js j).rel) := fun u => row_cell (S := shJ) (HC.out _ (HF.out u)) hq (k := 3) rfl
        have d3 : ∀ u, (F u).cell? ⟨g, o + (j - 1) * 7 + 3, none⟩ = some (.int .i64 (jobAt js (j - 1)).rel) := fun u => row_cell (S := shJ) (HC.out _ (HF.out u)) hq2 (k := 3) rfl
        have c4 : ∀ u, (F u).cell? ⟨g, o + j * 7 + 4, none⟩ = some (.int .i64 (jobAt js j).dead) := fun u => row_cell (S := shJ) (HC.out _ (HF.out u)) hq (k := 4) rfl
        have d4 : ∀ u, (F u).cell? ⟨g, o + (j - 1) * 7 + 4, none⟩ = some (.int .i64 (jobAt js (j - 1)).dead) := fun u => row_cell (S := shJ) (HC.out _ (HF.out u)) hq2 (k := 4) rfl
        have c5 : ∀ u, (F u).cell? ⟨g, o + j * 7 + 5, none⟩ = some (.int .i64 (jobAt js j).dem) := fun u => row_cell (S := shJ) (HC.out _ (HF.out u)) hq (k := 5) rfl
        have d5 : ∀ u, (F u).cell? ⟨g, o + (j - 1) * 7 + 5, none⟩ = some (.int .i64 (jobAt js (j - 1)).dem) := fun u => row_cell (S := shJ) (HC.out _ (HF.out u)) hq2 (k := 5) rfl
        have c6 : ∀ u, (F u).cell? ⟨g, o + j * 7 + 6, none⟩ = some (.int .i64 (jobAt js j).used) := fun u => row_cell (S := shJ) (HC.out _ (HF.out u)) hq (k := 6) rfl
        have d6 : ∀ u, (F u).cell? ⟨g, o + (j - 1) * 7 + 6, none⟩ = some (.int .i64 (jobAt js (j - 1)).used) := fun u => row_cell (S := shJ) (HC.out _ (HF.out u)) hq2 (k := 6) rfl
        have CC := hide (fun W => cmp_any (jobAt js (j - 1)) (jobAt js j) W)
        have HCMP := hide (cmp_pos (jobAt js (j - 1)) (jobAt js j))
        unfold stepB at hs
        rw [decide_eq_false (by omega), Bool.false_or] at hs
        rw [hs] at HCMP
        dsimp only [jobVal] at CC
        clear hq hq2 hs
        generalize cmpJ (jobAt js (j - 1)) (jobAt js j) = c at *
        generalize (jobAt js j).task = x0 at *
        generalize (jobAt js j).seq = x1 at *
        generalize (jobAt js j).prio = x2 at *
        generalize (jobAt js j).rel = x3 at *
        generalize (jobAt js j).dead = x4 at *
        generalize (jobAt js j).dem = x5 at *
        generalize (jobAt js j).used = x6 at *
        generalize (jobAt js (j - 1)).task = y0 at *
        generalize (jobAt js (j - 1)).seq = y1 at *
        generalize (jobAt js (j - 1)).prio = y2 at *
        generalize (jobAt js (j - 1)).rel = y3 at *
        generalize (jobAt js (j - 1)).dead = y4 at *
        generalize (jobAt js (j - 1)).dem = y5 at *
        generalize (jobAt js (j - 1)).used = y6 at *
        go_upto_region 4 with (first | fail)
        refine wp_region_quiet_in F (by kernel_rfl) (by kernel_rfl) (HR.out _ (drew_grown _)) ?_
        repeat (go_big_quiet_step (first | (go_at_call 131; exact calls_in HR (HF.out _) (CC.out _))))
        refine wpQuiet_nil ?_
        intro _ hw1
        obtain ⟨uq, hw2⟩ := hw1
        subst hw2
        have HGn := hide (grownBy_trans HG.out (HF.out uq))
        clear HG b0 c0 c1 c2 c3 c4 c5 c6 d0 d1 d2 d3 d4 d5 d6 CC
        cases s with
        | true =>
          have hc := of_decide_eq_false HCMP.out
          go_wp2
          go_roundw
          case rel =>
            refine ⟨j + 1, by omega, by go_num, HGn, hide (fun i hi => ?_)⟩
            rcases (by omega : i < j ∨ i = j) with h | rfl
            · exact HS.out i h
            · exact HST.out
          case measure => simp [intOf]; omega
        | false =>
          have hc := of_decide_eq_true HCMP.out
          have e := HNOT.out j hlt HST.out
          subst e
          go_wp2
          go_ret
          exact ⟨rfl, grownBy_trans HG0.out HGn.out⟩
      · obtain rfl : j = 0 := by omega
        obtain ⟨U, hU, F, HF, HR⟩ := class_of wr
        go_upto_region 4 with (first | fail)
        refine wp_region_quiet_in F (by kernel_rfl) (by kernel_rfl) (HR.out _ (drew_grown _)) ?_
        repeat (go_big_quiet_step (first | fail))
        refine wpQuiet_nil ?_
        intro _ hw1
        obtain ⟨uq, hw2⟩ := hw1
        subst hw2
        have HGn := hide (grownBy_trans HG.out (HF.out uq))
        clear HG hq hs
        go_wp2
        go_roundw
        case rel =>
          refine ⟨1, by omega, by go_num, HGn, hide (fun i hi => ?_)⟩
          obtain rfl : i = 0 := by omega
          rfl
        case measure => simp [intOf]; omega
    · obtain rfl : j = N := by omega
      have e := HYES.out HP.out
      subst e
      go_wp2
      go_ret
      exact ⟨rfl, grownBy_trans HG0.out HG.out⟩

theorem rowOf_any (v : Value) (hv1 : v.oneCell' = true) (a : Option Addr) (n c : Nat) (w : World) (e0 : v = .slice a n c) : Calls Tryz.prog 94 #[v] w fun e w' => e = .returned (.agg #[v]) ∧ w.grownBy w' none := by
  subst e0
  clear hv1
  go_enter Tryz.func94, Tryz.ntmps94
  go_wp2
  refine bodyPost_ret (results_row rfl _ _ w.heap.size 161 #[.slice a n c] (0, 0) _ rfl (heap_alloc_new w _) Tryz.underlying161 rfl sizeW) rfl ?_
  exact ⟨rfl, World.grownBy_alloc _ _ _⟩

set_option maxRecDepth 100000 in
set_option maxHeartbeats 4000000 in
theorem rmay_any {lo : Nat} (v : Value) (js : List JobV) (w : World) (hv : RowAt shJ lo w v js) :
    Calls Tryz.prog 95 #[.agg #[v]] w fun e w' => e = .returned (.bool (rowMay js)) ∧ w.grownBy w' none := by
  have CC := hide (fun W (hg : w.grownBy W none) => contains_any v js W (hv.grown hg))
  have CR := hide (fun W (hg : w.grownBy W none) => rises_any v js W (hv.grown hg))
  obtain ⟨hl, a, cap, rfl, -⟩ := hv
  unfold rowMay
  generalize js.all jobMay = b1 at *
  generalize risesB js = b2 at *
  generalize hN : js.length = N at *
  clear hN
  have HG0 := hide (World.grownBy_alloc w (.cells #[.slice a N cap] 161) none)
  by_cases h : N ≤ 16
  · rw [decide_eq_true h, Bool.true_and]
    cases b1 with
    | true =>
      rw [Bool.true_and]
      go_enter Tryz.func95, Tryz.ntmps95
      go_wp2_with (first | fail)
      refine (CC.out _ HG0.out).mono ?_; rintro e w1 ⟨rfl, hg⟩
      have HG := hide (grownBy_trans HG0.out hg)
      have HB := hide (blk_cell (box_grown (heap_alloc_new w (.cells #[.slice a N cap] 161)) hg (by simp)) 0)
      clear hg CC
      have c0 : w1.cell? ⟨w.heap.size, 0, none⟩ = some (.slice a N cap) := HB.out
      go_wp2_with (first | fail)
      refine (CR.out _ HG.out).mono ?_; rintro e w2 ⟨rfl, hg⟩
      have HG2 := hide (grownBy_trans HG.out hg)
      clear hg CR c0
      go_wp2
      go_ret
      exact ⟨rfl, HG2.out⟩
    | false =>
      rw [Bool.false_and]
      go_enter Tryz.func95, Tryz.ntmps95
      go_wp2_with (first | fail)
      refine (CC.out _ HG0.out).mono ?_; rintro e w1 ⟨rfl, hg⟩
      have HG := hide (grownBy_trans HG0.out hg)
      clear hg CC
      go_wp2
      go_ret
      exact ⟨rfl, HG.out⟩
  · rw [decide_eq_false h, Bool.false_and]
    go_enter Tryz.func95, Tryz.ntmps95
    go_wp2
    go_ret
    exact ⟨rfl, HG0.out⟩

set_option maxRecDepth 100000 in
set_option maxHeartbeats 1000000 in
theorem may_any {lo : Nat} (v : Value) (js : List JobV) (w : World) (hv : RowAt shJ lo w v js) :
    Calls Tryz.prog 70 #[v] w fun e w' => e = .returned (.bool (rowMay js)) ∧ w.grownBy w' none := by
  have CC := hide (fun W (hg : w.grownBy W none) => rmay_any v js W (hv.grown hg))
  obtain ⟨hl, a, cap, rfl, -⟩ := hv
  have CO := hide (fun W => rowOf_any (.slice a js.length cap) rfl a _ cap W rfl)
  generalize rowMay js = b at *
  generalize js.length = N at *
  go_enter Tryz.func70, Tryz.ntmps70
  go_wp2_with (first | fail)
  refine (CO.out _).mono ?_; rintro e w1 ⟨rfl, hg⟩
  have HG := hide hg
  clear hg CO
  go_wp2_with (first | fail)
  refine (CC.out _ HG.out).mono ?_; rintro e w2 ⟨rfl, hg⟩
  have HG2 := hide (grownBy_trans HG.out hg)
  clear hg CC
  go_wp2
  go_ret
  exact ⟨rfl, HG2.out⟩
#print axioms may_any
end Go.Proofs.YtlppfocoonnpjaaGreatDoor.J
