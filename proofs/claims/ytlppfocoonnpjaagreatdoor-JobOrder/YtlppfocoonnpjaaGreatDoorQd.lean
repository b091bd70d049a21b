/- Contracts of what package task asks of demands and turns (may.Demand, the closure, the library's IndexFunc and ContainsFunc with it, mayTurns), proved over the translation. Contracts of package task's May and mayAt, proved over the translation. Which function a kind's method is: closed facts over the translation. -/
import Derived.Test.YtlppfocoonnpjaaGreatDoorTaskMay
import Derived.Test.YtlppfocoonnpjaaGreatDoorQb
import Derived.Lib.MinMax
import Derived.Test.YtlppfocoonnpjaaGreatDoorURel

namespace Go.Proofs.YtlppfocoonnpjaaGreatDoor.U
open Go.RowKit
attribute [local go_sem] alloc_drewN setCell_drewN

theorem clock_any (x : Int) (w : World) : Calls Tryz.prog 37 #[.int .i64 x] w fun e w' => e = .returned (.bool (decide (0 ≤ x) && decide (x ≤ 1099511627776))) ∧ w = w' := by
  by_cases h0 : 0 ≤ x
  · by_cases h1 : x ≤ 1099511627776
    · rw [decide_eq_true h0, decide_eq_true h1]
      go_enter Tryz.func37, Tryz.ntmps37
      go_wp2
      go_ret
      exact ⟨rfl, rfl⟩
    · rw [decide_eq_true h0, decide_eq_false h1]
      go_enter Tryz.func37, Tryz.ntmps37
      go_wp2
      go_ret
      exact ⟨rfl, rfl⟩
  · rw [decide_eq_false h0]
    go_enter Tryz.func37, Tryz.ntmps37
    go_wp2
    go_ret
    exact ⟨rfl, rfl⟩
theorem demand_any (x : Int) (w : World) :
    Calls Tryz.prog 87 #[.int .i64 x] w fun e w' => e = .returned (.bool (demMay x)) ∧ w = w' := by
  unfold demMay
  by_cases h0 : 1 ≤ x
  · by_cases h1 : x ≤ 65535
    · rw [decide_eq_true h0, decide_eq_true h1]
      go_enter Tryz.func87, Tryz.ntmps87
      go_wp2
      go_ret
      exact ⟨rfl, rfl⟩
    · rw [decide_eq_true h0, decide_eq_false h1]
      go_enter Tryz.func87, Tryz.ntmps87
      go_wp2
      go_ret
      exact ⟨rfl, rfl⟩
  · rw [decide_eq_false h0]
    go_enter Tryz.func87, Tryz.ntmps87
    go_wp2
    go_ret
    exact ⟨rfl, rfl⟩
theorem noDemand_any (x : Int) (w : World) :
    Calls Tryz.prog 108 #[.int .i64 x] w fun e w' => e = .returned (.bool (!demMay x)) ∧ w = w' := by
  have C := hide (demand_any x w)
  generalize demMay x = b at *
  go_enter Tryz.func108, Tryz.ntmps108
  go_wp2_with (first | fail)
  refine C.out.mono ?_; rintro e w' ⟨rfl, rfl⟩
  go_wp2
  go_ret
  exact ⟨rfl, rfl⟩

set_option maxRecDepth 100000 in
set_option maxHeartbeats 1000000 in
/-- The library's IndexFunc, with that closure. -/
theorem indexN_any {lo : Nat} (v : Value) (zs : List Int) (w : World) (hv : RowAt shN lo w v zs) :
    Calls Tryz.prog 127 #[v, .func (.func 108) #[] #[]] w fun e w' => ∃ r : Int, e = .returned (.int .i64 r) ∧ decide (0 ≤ r) = (!zs.all demMay) ∧ w = w' := by
  obtain ⟨hl, a, cap, rfl, ha⟩ := hv
  have HA := hide ha
  have HALL := hide (fun (h : ∀ i, i < zs.length → demMay (zs[i]?.getD 0) = true) => (show zs.all demMay = true by
    rw [List.all_eq_true]; intro x hx
    obtain ⟨i, hi, rfl⟩ := List.getElem_of_mem hx
    have := h i hi
    rwa [List.getElem?_eq_getElem hi] at this))
  have HNOT := hide (fun (i : Nat) (hi : i < zs.length) (h : demMay (zs[i]?.getD 0) = false) => (show zs.all demMay = false by
    rw [List.all_eq_false]; refine ⟨zs[i], List.getElem_mem hi, ?_⟩
    rw [List.getElem?_eq_getElem hi] at h
    simp only [Option.getD_some] at h
    rw [h]; simp))
  clear ha
  generalize hN : zs.length = N at *
  have HN := hide hN
  clear hN
  go_enter Tryz.func127, Tryz.ntmps127
  go_wp2
  go_loopw [5, 8] (fun _ i W => ∃ (j : Nat), j ≤ N ∧ i = .int .i64 j ∧ W = w ∧ Hid (∀ i, i < j → demMay (zs[i]?.getD 0) = true)) (fun _ i _ => N - (intOf i).toNat)
  case atStart => exact ⟨0, by omega, rfl, rfl, fun i hi => absurd hi (Nat.not_lt_zero _)⟩
  case round =>
    obtain ⟨j, hj, rfl, rfl, HP⟩ := hrel
    by_cases hlt : j < N
    · obtain ⟨g, o, rfl, -, hc⟩ := HA.out (by omega)
      have hq : zs[j]? = some (zs[j]?.getD 0) := by rw [List.getElem?_eq_getElem (by rw [HN.out]; exact hlt)]; rfl
      have c1 : wr.cell? ⟨g, o + j * 1, none⟩ = some (.int .i64 (zs[j]?.getD 0)) := hc j _ hq 0 _ rfl
      rw [Nat.mul_one] at c1
      clear hc hq
      have C := hide (noDemand_any (zs[j]?.getD 0) wr)
      generalize hm : demMay (zs[j]?.getD 0) = b at *
      have HM := hide hm
      clear hm
      generalize zs[j]?.getD 0 = x at c1 C
      cases b with
      | true =>
        go_wp2_with (first | fail)
        refine C.out.mono ?_; rintro e w' ⟨rfl, rfl⟩
        go_wp2
        go_roundw
        case rel =>
          refine ⟨j + 1, by omega, by go_num, by first | rfl | trivial, fun i hi => ?_⟩
          rcases (by omega : i < j ∨ i = j) with h | rfl
          · exact HP.out i h
          · exact HM.out
        case measure => simp [intOf]; omega
      | false =>
        go_wp2_with (first | fail)
        refine C.out.mono ?_; rintro e w' ⟨rfl, rfl⟩
        go_wp2
        go_ret
        refine ⟨_, rfl, ?_, rfl⟩
        rw [HNOT.out j hlt HM.out]
        simp
    · obtain rfl : j = N := by omega
      go_wp2
      go_ret
      refine ⟨_, rfl, ?_, rfl⟩
      rw [HALL.out HP.out]
      simp

set_option maxRecDepth 100000 in
set_option maxHeartbeats 1000000 in
theorem contains_any {lo : Nat} (v : Value) (zs : List Int) (w : World) (hv : RowAt shN lo w v zs) :
    Calls Tryz.prog 109 #[v, .func (.func 108) #[] #[]] w fun e w' => e = .returned (.bool (!zs.all demMay)) ∧ w = w' := by
  have C0 := hide (indexN_any v zs w hv)
  obtain ⟨hl, a, cap, rfl, -⟩ := hv
  generalize (!zs.all demMay) = b at *
  generalize zs.length = N at *
  go_enter Tryz.func109, Tryz.ntmps109
  go_wp2_with (first | fail)
  refine C0.out.mono ?_; rintro e w' ⟨r, rfl, hr, rfl⟩
  have HR := hide hr
  clear hr C0
  go_wp2
  go_ret
  refine ⟨?_, rfl⟩
  rw [← HR.out]
  rfl

set_option maxRecDepth 100000 in
set_option maxHeartbeats 1000000 in
theorem mayTurns_any {lo : Nat} (L : Int) (v : Value) (zs : List Int) (w : World) (hv : RowAt shN lo w v zs) :
    Calls Tryz.prog 86 #[.agg #[.int .i64 L, v]] w fun e w' => e = .returned (.bool (turnsMay ⟨L, zs⟩)) ∧ w.grownBy w' none := by
  have C := hide (fun W (hg : w.grownBy W none) => contains_any v zs W (hv.grown hg))
  have CK := hide (fun W => clock_any L W)
  obtain ⟨hl, a, cap, rfl, -⟩ := hv
  unfold turnsMay
  dsimp only
  generalize zs.all demMay = b at *
  generalize zs.length = N at *
  have e : (decide (-1 ≤ L) && (decide (L ≤ 1099511627776) && (decide (N ≤ 4) && b))) = ((decide (L = -1) || (decide (0 ≤ L) && decide (L ≤ 1099511627776))) && (decide (N ≤ 4) && b)) := by
    rw [← Bool.and_assoc]
    congr 1
    rw [← Bool.decide_and, ← Bool.decide_and, ← Bool.decide_or]
    exact decide_eq_decide.2 (by omega)
  rw [e]
  clear e
  generalize (decide (0 ≤ L) && decide (L ≤ 1099511627776)) = c at *
  by_cases hL : L = -1
  · rw [decide_eq_true hL, Bool.true_or, Bool.true_and]
    subst hL
    by_cases h2 : N ≤ 4
    · rw [decide_eq_true h2, Bool.true_and]
      go_enter Tryz.func86, Tryz.ntmps86
      go_wp2_with (first | fail)
      refine (C.out _ (World.grownBy_alloc _ _ _)).mono ?_; rintro e w' ⟨rfl, rfl⟩
      go_wp2
      go_ret
      exact ⟨by simp, World.grownBy_alloc _ _ _⟩
    · rw [decide_eq_false h2, Bool.false_and]
      go_enter Tryz.func86, Tryz.ntmps86
      go_wp2_with (first | fail)
      go_ret
      exact ⟨by first | rfl | simp, World.grownBy_alloc _ _ _⟩
  · rw [decide_eq_false hL, Bool.false_or]
    cases c with
    | true =>
      rw [Bool.true_and]
      by_cases h2 : N ≤ 4
      · rw [decide_eq_true h2, Bool.true_and]
        go_enter Tryz.func86, Tryz.ntmps86
        go_wp2_with (first | (go_at_call 37; refine (CK.out _).mono ?_; rintro e w' ⟨rfl, rfl⟩) | fail)
        refine (C.out _ (World.grownBy_alloc _ _ _)).mono ?_; rintro e w' ⟨rfl, rfl⟩
        go_wp2
        go_ret
        exact ⟨by simp, World.grownBy_alloc _ _ _⟩
      · rw [decide_eq_false h2, Bool.false_and]
        go_enter Tryz.func86, Tryz.ntmps86
        go_wp2_with (first | (go_at_call 37; refine (CK.out _).mono ?_; rintro e w' ⟨rfl, rfl⟩) | fail)
        go_ret
        exact ⟨by first | rfl | simp, World.grownBy_alloc _ _ _⟩
    | false =>
      rw [Bool.false_and]
      go_enter Tryz.func86, Tryz.ntmps86
      go_wp2_with (first | (go_at_call 37; refine (CK.out _).mono ?_; rintro e w' ⟨rfl, rfl⟩) | fail)
      go_ret
      exact ⟨by first | rfl | simp, World.grownBy_alloc _ _ _⟩
end Go.Proofs.YtlppfocoonnpjaaGreatDoor.U

namespace Go.Proofs.YtlppfocoonnpjaaGreatDoor.U
open Go.RowKit
attribute [local go_sem] alloc_drewN setCell_drewN

set_option maxRecDepth 100000 in
set_option maxHeartbeats 1000000 in
theorem may_any (t : TaskV) (w : World) :
    Calls Tryz.prog 96 #[taskVal t] w fun e w' => e = .returned (.bool (taskMay t)) ∧ w.grownBy w' none := by
  have C := hide (fun W => task_any t W)
  generalize taskMay t = b at *
  obtain ⟨x0, x1, x2, x3, x4, x5⟩ := t
  go_enter Tryz.func96, Tryz.ntmps96
  go_wp2_with (first | fail)
  refine (C.out _).mono ?_; rintro e w' ⟨rfl, hg⟩
  have HG := hide (grownBy_trans (World.grownBy_alloc _ _ _) hg)
  clear hg
  go_wp2
  go_ret
  exact ⟨by first | rfl | simp [*], HG.out⟩

set_option maxRecDepth 100000 in
set_option maxHeartbeats 1000000 in
theorem mayAt_any {lo : Nat} (t : TaskV) (L : Int) (v : Value) (zs : List Int) (now : Int) (w : World) (hv : RowAt shN lo w v zs) :
    Calls Tryz.prog 89 #[taskVal t, .agg #[.int .i64 L, v], .int .i64 now] w fun e w' => e = .returned (.bool (atMay t ⟨L, zs⟩ now)) ∧ w.grownBy w' none := by
  have CT := hide (fun W => task_any t W)
  have CU := hide (fun W (hg : w.grownBy W none) => mayTurns_any L v zs W (hv.grown hg))
  have CK := hide (fun W => clock_any now W)
  unfold atMay
  generalize (decide (0 ≤ now) && decide (now ≤ 1099511627776)) = k at *
  generalize taskMay t = b at *
  generalize turnsMay ⟨L, zs⟩ = c at *
  obtain ⟨x0, x1, x2, x3, x4, x5⟩ := t
  cases b with
  | false =>
    rw [Bool.false_and]
    go_enter Tryz.func89, Tryz.ntmps89
    go_wp2_with (first | fail)
    refine (CT.out _).mono ?_; rintro e w' ⟨rfl, hg⟩
    have HG := hide (grownBy_trans (grownBy_trans (World.grownBy_alloc _ _ _) (World.grownBy_alloc _ _ _)) hg)
    clear hg
    go_wp2
    go_ret
    exact ⟨by first | rfl | simp [*], HG.out⟩
  | true =>
    rw [Bool.true_and]
    cases c with
    | false =>
      rw [Bool.false_and]
      go_enter Tryz.func89, Tryz.ntmps89
      go_wp2_with (first | fail)
      refine (CT.out _).mono ?_; rintro e w1 ⟨rfl, hg⟩
      have hc1 : w1.heap[w.heap.size + 1]? = _ := box_grown (alloc_next w _ _) hg (by simp)
      have HB := hide hc1
      have HG := hide (grownBy_trans (grownBy_trans (World.grownBy_alloc _ _ _) (World.grownBy_alloc _ _ _)) hg)
      have c0 := blk_cell hc1 0
      have c1 := blk_cell hc1 1
      clear hg hc1
      go_wp2_with (first | fail)
      refine (CU.out _ HG.out).mono ?_; rintro e w2 ⟨rfl, hg⟩
      have HG := hide (grownBy_trans HG.out hg)
      clear hg
      go_wp2
      go_ret
      exact ⟨by first | rfl | simp [*], HG.out⟩
    | true =>
      rw [Bool.true_and]
      go_enter Tryz.func89, Tryz.ntmps89
      go_wp2_with (first | fail)
      refine (CT.out _).mono ?_; rintro e w1 ⟨rfl, hg⟩
      have hc1 : w1.heap[w.heap.size + 1]? = _ := box_grown (alloc_next w _ _) hg (by simp)
      have HG := hide (grownBy_trans (grownBy_trans (World.grownBy_alloc _ _ _) (World.grownBy_alloc _ _ _)) hg)
      have c0 := blk_cell hc1 0
      have c1 := blk_cell hc1 1
      clear hg hc1
      go_wp2_with (first | fail)
      refine (CU.out _ HG.out).mono ?_; rintro e w2 ⟨rfl, hg⟩
      have HG := hide (grownBy_trans HG.out hg)
      clear hg
      go_wp2_with (first | (go_at_call 37; refine (CK.out _).mono ?_; rintro e w' ⟨rfl, rfl⟩) | fail)
      go_ret
      exact ⟨by first | rfl | simp [*], HG.out⟩
end Go.Proofs.YtlppfocoonnpjaaGreatDoor.U

namespace Go.Proofs.YtlppfocoonnpjaaGreatDoor.U
open Go.RowKit

theorem m_late_p (v0 v1 v2 v3 v4 v5 v6 v7 : Value) (w : World) : (method 178 172 (.agg #[v0, v1, v2, v3, v4, v5, v6, v7]) "nocturn/task.late").run Tryz.prog w = .ok (161, .agg #[v0, v1, v2, v3, v4, v5, v6, v7]) w := by kernel_rfl
theorem m_late_r (v0 v1 v2 v3 v4 v5 v6 v7 : Value) (w : World) : (method 178 173 (.agg #[v0, v1, v2, v3, v4, v5, v6, v7]) "nocturn/task.late").run Tryz.prog w = .ok (157, .agg #[v0, v1, v2, v3, v4, v5, v6, v7]) w := by kernel_rfl
theorem m_comes_p (v0 v1 v2 v3 v4 v5 v6 v7 : Value) (w : World) : (method 178 172 (.agg #[v0, v1, v2, v3, v4, v5, v6, v7]) "nocturn/task.comes").run Tryz.prog w = .ok (160, .agg #[v0, v1, v2, v3, v4, v5, v6, v7]) w := by kernel_rfl
theorem m_comes_r (v0 v1 v2 v3 v4 v5 v6 v7 : Value) (w : World) : (method 178 173 (.agg #[v0, v1, v2, v3, v4, v5, v6, v7]) "nocturn/task.comes").run Tryz.prog w = .ok (162, .agg #[v0, v1, v2, v3, v4, v5, v6, v7]) w := by kernel_rfl
theorem m_kept_p (v0 v1 v2 v3 v4 v5 v6 v7 : Value) (w : World) : (method 178 172 (.agg #[v0, v1, v2, v3, v4, v5, v6, v7]) "nocturn/task.kept").run Tryz.prog w = .ok (156, .agg #[v0, v1, v2, v3, v4, v5, v6, v7]) w := by kernel_rfl
theorem m_kept_r (v0 v1 v2 v3 v4 v5 v6 v7 : Value) (w : World) : (method 178 173 (.agg #[v0, v1, v2, v3, v4, v5, v6, v7]) "nocturn/task.kept").run Tryz.prog w = .ok (156, .agg #[v0, v1, v2, v3, v4, v5, v6, v7]) w := by kernel_rfl
theorem m_release_p (v0 v1 v2 v3 v4 v5 v6 v7 : Value) (w : World) : (method 178 172 (.agg #[v0, v1, v2, v3, v4, v5, v6, v7]) "nocturn/task.release").run Tryz.prog w = .ok (158, .agg #[v0, v1, v2, v3, v4, v5, v6, v7]) w := by kernel_rfl
theorem m_release_r (v0 v1 v2 v3 v4 v5 v6 v7 : Value) (w : World) : (method 178 173 (.agg #[v0, v1, v2, v3, v4, v5, v6, v7]) "nocturn/task.release").run Tryz.prog w = .ok (158, .agg #[v0, v1, v2, v3, v4, v5, v6, v7]) w := by kernel_rfl

theorem at_parts {t : TaskV} {s : TurnsV} {now : Int} (h : atMay t s now = true) : taskMay t = true ∧ turnsMay s = true ∧ -1 ≤ s.last ∧ s.last ≤ 1099511627776 ∧ s.picks.length ≤ 4 ∧ 0 ≤ now ∧ now ≤ 1099511627776 := by
  unfold atMay at h
  simp only [Bool.and_eq_true, decide_eq_true_eq] at h
  have h2 := h.2.1
  unfold turnsMay at h2
  simp only [Bool.and_eq_true, decide_eq_true_eq] at h2
  exact ⟨h.1, h.2.1, h2.1, h2.2.1, h2.2.2.1, h.2.2.1, h.2.2.2⟩
#print axioms at_parts
end Go.Proofs.YtlppfocoonnpjaaGreatDoor.U
