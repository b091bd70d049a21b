/- Contracts of the document's own jobMay, ahead and JobsMay, proved over the translation: they answer as the program's. -/
import Derived.Test.YtlppfocoonnpjaaGreatDoorJMiss
import Derived.Test.YtlppfocoonnpjaaGreatDoorJStill
namespace Go.Proofs.YtlppfocoonnpjaaGreatDoor.J
open Go.RowKit
attribute [local go_sem] alloc_drewN setCell_drewN

set_option maxRecDepth 100000 in
set_option maxHeartbeats 8000000 in
theorem rjob_any (j : JobV) (w : World) : Calls Tryz.prog 69 #[jobVal j] w fun e w' => e = .returned (.bool (jobMay j)) ∧ w.grownBy w' none := by
  obtain ⟨x0, x1, x2, x3, x4, x5, x6⟩ := j
  unfold jobMay
  dsimp only
  simp only [Bool.and_assoc]
  by_cases h0 : 0 ≤ x0
  · rw [decide_eq_true h0, Bool.true_and]
    by_cases h1 : x0 < 6
    · rw [decide_eq_true h1, Bool.true_and]
      by_cases h2 : 0 ≤ x1
      · rw [decide_eq_true h2, Bool.true_and]
        by_cases h3 : 0 ≤ x2
        · rw [decide_eq_true h3, Bool.true_and]
          by_cases h4 : x2 ≤ 255
          · rw [decide_eq_true h4, Bool.true_and]
            by_cases h5 : 0 ≤ x3
            · rw [decide_eq_true h5, Bool.true_and]
              by_cases h6 : x3 ≤ 1099511627776
              · rw [decide_eq_true h6, Bool.true_and]
                by_cases h7 : x3 < x4
                · rw [decide_eq_true h7, Bool.true_and]
                  by_cases h8 : 1 ≤ x5
                  · rw [decide_eq_true h8, Bool.true_and]
                    by_cases h9 : x5 ≤ 65535
                    · rw [decide_eq_true h9, Bool.true_and]
                      by_cases h10 : 0 ≤ x6
                      · rw [decide_eq_true h10, Bool.true_and]
                        go_enter Tryz.func69, Tryz.ntmps69
                        go_wp2
                        go_ret
                        exact ⟨rfl, World.grownBy_alloc _ _ _⟩
                      · rw [decide_eq_false h10, Bool.false_and]
                        go_enter Tryz.func69, Tryz.ntmps69
                        go_wp2
                        go_ret
                        exact ⟨rfl, World.grownBy_alloc _ _ _⟩
                    · rw [decide_eq_false h9, Bool.false_and]
                      go_enter Tryz.func69, Tryz.ntmps69
                      go_wp2
                      go_ret
                      exact ⟨rfl, World.grownBy_alloc _ _ _⟩
                  · rw [decide_eq_false h8, Bool.false_and]
                    go_enter Tryz.func69, Tryz.ntmps69
                    go_wp2
                    go_ret
                    exact ⟨rfl, World.grownBy_alloc _ _ _⟩
                · rw [decide_eq_false h7, Bool.false_and]
                  go_enter Tryz.func69, Tryz.ntmps69
                  go_wp2
                  go_ret
                  exact ⟨rfl, World.grownBy_alloc _ _ _⟩
              · rw [decide_eq_false h6, Bool.false_and]
                go_enter Tryz.func69, Tryz.ntmps69
                go_wp2
                go_ret
                exact ⟨rfl, World.grownBy_alloc _ _ _⟩
            · rw [decide_eq_false h5, Bool.false_and]
              go_enter Tryz.func69, Tryz.ntmps69
              go_wp2
              go_ret
              exact ⟨rfl, World.grownBy_alloc _ _ _⟩
          · rw [decide_eq_false h4, Bool.false_and]
            go_enter Tryz.func69, Tryz.ntmps69
            go_wp2
            go_ret
            exact ⟨rfl, World.grownBy_alloc _ _ _⟩
        · rw [decide_eq_false h3, Bool.false_and]
          go_enter Tryz.func69, Tryz.ntmps69
          go_wp2
          go_ret
          exact ⟨rfl, World.grownBy_alloc _ _ _⟩
      · rw [decide_eq_false h2, Bool.false_and]
        go_enter Tryz.func69, Tryz.ntmps69
        go_wp2
        go_ret
        exact ⟨rfl, World.grownBy_alloc _ _ _⟩
    · rw [decide_eq_false h1, Bool.false_and]
      go_enter Tryz.func69, Tryz.ntmps69
      go_wp2
      go_ret
      exact ⟨rfl, World.grownBy_alloc _ _ _⟩
  · rw [decide_eq_false h0, Bool.false_and]
    go_enter Tryz.func69, Tryz.ntmps69
    go_wp2
    go_ret
    exact ⟨rfl, World.grownBy_alloc _ _ _⟩
set_option maxRecDepth 100000 in
set_option maxHeartbeats 4000000 in
theorem rahead_any (a b : JobV) (w : World) : Calls Tryz.prog 68 #[jobVal a, jobVal b] w fun e w' => e = .returned (.bool (aheadB a b)) ∧ w.grownBy w' none := by
  have HG := hide (grownBy_trans (World.grownBy_alloc w (.cells (jobC a).toArray 70) none) (World.grownBy_alloc _ (.cells (jobC b).toArray 70) none))
  obtain ⟨x0, x1, x2, x3, x4, x5, x6⟩ := a
  obtain ⟨y0, y1, y2, y3, y4, y5, y6⟩ := b
  dsimp only [jobC] at HG
  have HA : Hid (∀ c : Bool, (c = true ↔ (x2 < y2 ∨ (x2 = y2 ∧ (x3 < y3 ∨ (x3 = y3 ∧ x0 < y0))))) → aheadB ⟨x0, x1, x2, x3, x4, x5, x6⟩ ⟨y0, y1, y2, y3, y4, y5, y6⟩ = c) := hide (fun c h => by
    unfold aheadB
    dsimp only
    cases c with
    | true => exact decide_eq_true (h.1 rfl)
    | false => exact decide_eq_false (fun h2 => by have := h.2 h2; cases this))
  generalize aheadB ⟨x0, x1, x2, x3, x4, x5, x6⟩ ⟨y0, y1, y2, y3, y4, y5, y6⟩ = A at *
  by_cases h0 : x2 = y2
  · subst h0
    by_cases h1 : x3 = y3
    · subst h1
      have e := HA.out (decide (x0 < y0)) (by rw [decide_eq_true_iff]; omega)
      clear HA
      subst e
      go_enter Tryz.func68, Tryz.ntmps68
      go_wp2
      go_ret
      exact ⟨rfl, HG.out⟩
    · have e := HA.out (decide (x3 < y3)) (by rw [decide_eq_true_iff]; omega)
      clear HA
      subst e
      go_enter Tryz.func68, Tryz.ntmps68
      go_wp2
      go_ret
      exact ⟨rfl, HG.out⟩
  · have e := HA.out (decide (x2 < y2)) (by rw [decide_eq_true_iff]; omega)
    clear HA
    subst e
    go_enter Tryz.func68, Tryz.ntmps68
    go_wp2
    go_ret
    exact ⟨rfl, HG.out⟩

set_option maxRecDepth 100000 in
set_option maxHeartbeats 8000000 in
theorem rmayJobs_any {lo : Nat} (v : Value) (js : List JobV) (w : World) (hv : RowAt shJ lo w v js) :
    Calls Tryz.prog 67 #[v] w fun e w' => e = .returned (.bool (rowMay js)) ∧ w.grownBy w' none := by
  have HV := hide (fun W (hg : w.grownBy W none) => hv.grown hg)
  obtain ⟨hl, a, cap, rfl, -⟩ := hv
  have HYES := hide (fun (h : ∀ i, i < js.length → jobMay (jobAt js i) = true ∧ stepB js i = true) => (show rowMay js = decide (js.length ≤ 16) by
    have h1 : js.all jobMay = true := by
      rw [List.all_eq_true]; intro x hx
      obtain ⟨i, hi, rfl⟩ := List.getElem_of_mem hx
      have := (h i hi).1
      unfold jobAt at this
      rwa [List.getElem?_eq_getElem hi] at this
    have h2 : risesB js = true := allB_true fun i hi => (h i hi).2
    unfold rowMay
    rw [h1, h2, Bool.and_true, Bool.and_true]))
  have HNO := hide (fun (i : Nat) (hi : i < js.length) (h : jobMay (jobAt js i) = false ∨ stepB js i = false) => (show rowMay js = false by
    rcases h with h | h
    · have : js.all jobMay = false := by
        rw [List.all_eq_false]; refine ⟨js[i], List.getElem_mem hi, ?_⟩
        unfold jobAt at h
        rw [List.getElem?_eq_getElem hi] at h
        simp only [Option.getD_some] at h
        rw [h]; simp
      unfold rowMay
      rw [this]; simp
    · have : risesB js = false := allB_false hi h
      unfold rowMay
      rw [this]; simp))
  generalize rowMay js = A at *
  generalize hN : js.length = N at *
  have HN := hide hN
  clear hN
  go_enter Tryz.func67, Tryz.ntmps67
  go_wp2
  go_loopw [3] (fun i W => ∃ (j : Nat), j ≤ N ∧ i = .int .i64 j ∧ Hid (w.grownBy W none) ∧ Hid (∀ i, i < j → jobMay (jobAt js i) = true ∧ stepB js i = true)) (fun i _ => N - (intOf i).toNat)
  case atStart => exact ⟨0, by omega, rfl, grownBy_refl _ _, fun i hi => absurd hi (Nat.not_lt_zero _)⟩
  case round =>
    obtain ⟨j, hj, rfl, HG, HP⟩ := hrel
    by_cases hlt : j < N
    · obtain ⟨g, o, rfl⟩ := row_addr (HV.out wr HG.out) (by omega)
      have HC := hide (fun W (hg : wr.grownBy W none) => HV.out W (grownBy_trans HG.out hg))
      have hq := jobAt_mem (js := js) (i := j) (by rw [HN.out]; exact hlt)
      obtain ⟨m, hm⟩ : ∃ m, jobMay (jobAt js j) = m := ⟨_, rfl⟩
      have HM := hide hm
      obtain ⟨s, hs⟩ : ∃ s, stepB js j = s := ⟨_, rfl⟩
      have HST := hide hs
      have CJ := hide (fun W => rjob_any (jobAt js j) W)
      rw [hm] at CJ
      by_cases h0 : 0 < j
      · have hq2 := jobAt_mem (js := js) (i := j - 1) (by rw [HN.out]; omega)
        have CC := hide (fun W => rahead_any (jobAt js (j - 1)) (jobAt js j) W)
        unfold stepB at hs
        rw [decide_eq_false (by omega), Bool.false_or] at hs
        rw [hs] at CC
        dsimp only [jobVal] at CC CJ
        clear hs hm
        obtain ⟨U, hU, F, HF, HR⟩ := class_of wr
        have c0 : ∀ u, (F u).cell? ⟨g, o + j * 7, none⟩ = some (.int .i64 (jobAt js j).task) := fun u => row_cell (S := shJ) (HC.out _ (HF.out u)) hq (k := 0) rfl
        have d0 : ∀ u, (F u).cell? ⟨g, o + (j - 1) * 7, none⟩ = some (.int .i64 (jobAt js (j - 1)).task) := fun u => row_cell (S := shJ) (HC.out _ (HF.out u)) hq2 (k := 0) rfl
        have c1 : ∀ u, (F u).cell? ⟨g, o + j * 7 + 1, none⟩ = some (.int .i64 (jobAt js j).seq) := fun u => row_cell (S := shJ) (HC.out _ (HF.out u)) hq (k := 1) rfl
        have d1 : ∀ u, (F u).cell? ⟨g, o + (j - 1) * 7 + 1, none⟩ = some (.int .i64 (jobAt js (j - 1)).seq) := fun u => row_cell (S := shJ) (HC.out _ (HF.out u)) hq2 (k := 1) rfl
        have c2 : ∀ u, (F u).cell? ⟨g, o + j * 7 + 2, none⟩ = some (.int .i64 (jobAt js j).prio) := fun u => row_cell (S := shJ) (HC.out _ (HF.out u)) hq (k := 2) rfl
        have d2 : ∀ u, (F u).cell? ⟨g, o + (j - 1) * 7 + 2, none⟩ = some (.int .i64 (jobAt js (j - 1)).prio) := fun u => row_cell (S := shJ) (HC.out _ (HF.out u)) hq2 (k := 2) rfl
        have c3 : ∀ u, (F u).cell? ⟨g, o + j * 7 + 3, none⟩ = some (.int .i64 (jobAt js j).rel) := fun u => row_cell (S := shJ) (HC.out _ (HF.out u)) hq (k := 3) rfl
        have d3 : ∀ u, (F u).cell? ⟨g, o + (j - 1) * 7 + 3, none⟩ = some (.int .i64 (jobAt js (j - 1)).rel) := fun u => row_cell (S := shJ) (HC.out _ (HF.out u)) hq2 (k := 3) rfl
        have c4 : ∀ u, (F u).cell? ⟨g, o + j * 7 + 4, none⟩ = some (.int .i64 (jobAt js j).dead) := fun u => row_cell (S := shJ) (HC.out _ (HF.out u)) hq (k := 4) rfl
        have d4 : ∀ u, (F u).cell? ⟨g, o + (j - 1) * 7 + 4, none⟩ = some (.int .i64 (jobAt js (j - 1)).dead) := fun u => row_cell (S := shJ) (HC.out _ (HF.out u)) hq2 (k := 4) rfl
        have c5 : ∀ u, (F u).cell? ⟨g, o + j * 7 + 5, none⟩ = some (.int .i64 (jobAt js j).dem) := fun u => row_cell (S := shJ) (HC.out _ (HF.out u)) hq (k := 5) rfl
        have d5 : ∀ u, (F u).cell? ⟨g, o + (j - 1) * 7 + 5, none⟩ = some (.int .i64 (jobAt js (j - 1)).dem) := fun u => row_cell (S := shJ) (HC.out _ (HF.out u)) hq2 (k := 5) rfl
        have c6 : ∀ u, (F u).cell? ⟨g, o + j * 7 + 6, none⟩ = some (.int .i64 (jobAt js j).used) := fun u => row_cell (S := shJ) (HC.out _ (HF.out u)) hq (k := 6) rfl
        have d6 : ∀ u, (F u).cell? ⟨g, o + (j - 1) * 7 + 6, none⟩ = some (.int .i64 (jobAt js (j - 1)).used) := fun u => row_cell (S := shJ) (HC.out _ (HF.out u)) hq2 (k := 6) rfl
        clear hq hq2
        generalize (jobAt js j).task = x0 at *
        generalize (jobAt js j).seq = x1 at *
        generalize (jobAt js j).prio = x2 at *
        generalize (jobAt js j).rel = x3 at *
        generalize (jobAt js j).dead = x4 at *
        generalize (jobAt js j).dem = x5 at *
        generalize (jobAt js j).used = x6 at *
        generalize (jobAt js (j - 1)).task = y0 at *
        generalize (jobAt js (j - 1)).seq = y1 at *
        generalize (jobAt js (j - 1)).prio = y2 at *
        generalize (jobAt js (j - 1)).rel = y3 at *
        generalize (jobAt js (j - 1)).dead = y4 at *
        generalize (jobAt js (j - 1)).dem = y5 at *
        generalize (jobAt js (j - 1)).used = y6 at *
        go_upto_region 4 with (first | fail)
        cases m with
        | true =>
          cases s with
          | true =>
            refine wp_region_quiet_in F (by kernel_rfl) (by kernel_rfl) (HR.out _ (drew_grown _)) ?_
            repeat (go_big_quiet_step (first | (go_at_call 69; exact calls_in HR (HF.out _) (CJ.out _)) | (go_at_call 68; exact calls_in HR (HF.out _) (CC.out _))))
            refine wpQuiet_nil ?_
            intro _ hw1
            obtain ⟨uq, hw2⟩ := hw1
            subst hw2
            have HGn := hide (grownBy_trans HG.out (HF.out uq))
            clear HG c0 c1 c2 c3 c4 c5 c6 d0 d1 d2 d3 d4 d5 d6 CC CJ
            go_wp2
            go_roundw
            case rel =>
              refine ⟨j + 1, by omega, by go_num, HGn, hide (fun i hi => ?_)⟩
              rcases (by omega : i < j ∨ i = j) with h | rfl
              · exact HP.out i h
              · exact ⟨HM.out, HST.out⟩
            case measure => simp [intOf]; omega
          | false =>
            refine wp_region_quiet_in F (by kernel_rfl) (by kernel_rfl) (HR.out _ (drew_grown _)) ?_
            repeat (go_big_quiet_step (first | (go_at_call 69; exact calls_in HR (HF.out _) (CJ.out _)) | (go_at_call 68; exact calls_in HR (HF.out _) (CC.out _))))
            refine wpQuiet_nil ?_
            intro _ hw1
            obtain ⟨uq, hw2⟩ := hw1
            subst hw2
            have HGn := hide (grownBy_trans HG.out (HF.out uq))
            clear HG c0 c1 c2 c3 c4 c5 c6 d0 d1 d2 d3 d4 d5 d6 CC CJ
            have e := HNO.out j hlt (.inr HST.out)
            subst e
            go_wp2
            go_ret
            exact ⟨rfl, HGn.out⟩
        | false =>
          refine wp_region_quiet_in F (by kernel_rfl) (by kernel_rfl) (HR.out _ (drew_grown _)) ?_
          repeat (go_big_quiet_step (first | (go_at_call 69; exact calls_in HR (HF.out _) (CJ.out _)) | (go_at_call 68; exact calls_in HR (HF.out _) (CC.out _))))
          refine wpQuiet_nil ?_
          intro _ hw1
          obtain ⟨uq, hw2⟩ := hw1
          subst hw2
          have HGn := hide (grownBy_trans HG.out (HF.out uq))
          clear HG c0 c1 c2 c3 c4 c5 c6 d0 d1 d2 d3 d4 d5 d6 CC CJ
          have e := HNO.out j hlt (.inl HM.out)
          subst e
          go_wp2
          go_ret
          exact ⟨rfl, HGn.out⟩
      · obtain rfl : j = 0 := by omega
        obtain rfl : s = true := by rw [← hs]; rfl
        dsimp only [jobVal] at CJ
        clear hs hm
        obtain ⟨U, hU, F, HF, HR⟩ := class_of wr
        have c0 : ∀ u, (F u).cell? ⟨g, o, none⟩ = some (.int .i64 (jobAt js 0).task) := fun u => by have := row_cell (S := shJ) (HC.out _ (HF.out u)) hq (k := 0) rfl; simpa using this
        have c1 : ∀ u, (F u).cell? ⟨g, o + 1, none⟩ = some (.int .i64 (jobAt js 0).seq) := fun u => by have := row_cell (S := shJ) (HC.out _ (HF.out u)) hq (k := 1) rfl; simpa using this
        have c2 : ∀ u, (F u).cell? ⟨g, o + 2, none⟩ = some (.int .i64 (jobAt js 0).prio) := fun u => by have := row_cell (S := shJ) (HC.out _ (HF.out u)) hq (k := 2) rfl; simpa using this
        have c3 : ∀ u, (F u).cell? ⟨g, o + 3, none⟩ = some (.int .i64 (jobAt js 0).rel) := fun u => by have := row_cell (S := shJ) (HC.out _ (HF.out u)) hq (k := 3) rfl; simpa using this
        have c4 : ∀ u, (F u).cell? ⟨g, o + 4, none⟩ = some (.int .i64 (jobAt js 0).dead) := fun u => by have := row_cell (S := shJ) (HC.out _ (HF.out u)) hq (k := 4) rfl; simpa using this
        have c5 : ∀ u, (F u).cell? ⟨g, o + 5, none⟩ = some (.int .i64 (jobAt js 0).dem) := fun u => by have := row_cell (S := shJ) (HC.out _ (HF.out u)) hq (k := 5) rfl; simpa using this
        have c6 : ∀ u, (F u).cell? ⟨g, o + 6, none⟩ = some (.int .i64 (jobAt js 0).used) := fun u => by have := row_cell (S := shJ) (HC.out _ (HF.out u)) hq (k := 6) rfl; simpa using this
        clear hq
        generalize (jobAt js 0).task = x0 at *
        generalize (jobAt js 0).seq = x1 at *
        generalize (jobAt js 0).prio = x2 at *
        generalize (jobAt js 0).rel = x3 at *
        generalize (jobAt js 0).dead = x4 at *
        generalize (jobAt js 0).dem = x5 at *
        generalize (jobAt js 0).used = x6 at *
        go_upto_region 4 with (first | fail)
        cases m with
        | true =>
          refine wp_region_quiet_in F (by kernel_rfl) (by kernel_rfl) (HR.out _ (drew_grown _)) ?_
          repeat (go_big_quiet_step (first | (go_at_call 69; exact calls_in HR (HF.out _) (CJ.out _))))
          refine wpQuiet_nil ?_
          intro _ hw1
          obtain ⟨uq, hw2⟩ := hw1
          subst hw2
          have HGn := hide (grownBy_trans HG.out (HF.out uq))
          clear HG c0 c1 c2 c3 c4 c5 c6 CJ
          go_wp2
          go_roundw
          case rel =>
            refine ⟨1, by omega, by go_num, HGn, hide (fun i hi => ?_)⟩
            rcases (by omega : i < 0 ∨ i = 0) with h | rfl
            · exact HP.out i h
            · exact ⟨HM.out, HST.out⟩
          case measure => simp [intOf]; omega
        | false =>
          refine wp_region_quiet_in F (by kernel_rfl) (by kernel_rfl) (HR.out _ (drew_grown _)) ?_
          repeat (go_big_quiet_step (first | (go_at_call 69; exact calls_in HR (HF.out _) (CJ.out _))))
          refine wpQuiet_nil ?_
          intro _ hw1
          obtain ⟨uq, hw2⟩ := hw1
          subst hw2
          have HGn := hide (grownBy_trans HG.out (HF.out uq))
          clear HG c0 c1 c2 c3 c4 c5 c6 CJ
          have e := HNO.out 0 hlt (.inl HM.out)
          subst e
          go_wp2
          go_ret
          exact ⟨rfl, HGn.out⟩
    · obtain rfl : j = N := by omega
      have e := HYES.out HP.out
      clear HYES HNO
      have e2 : A = decide ((j : Int) ≤ 16) := by rw [e]; exact decide_eq_decide.2 (by omega)
      clear e
      subst e2
      go_wp2
      go_ret
      exact ⟨rfl, HG.out⟩
#print axioms rmayJobs_any
end Go.Proofs.YtlppfocoonnpjaaGreatDoor.J
