/- Contracts of package task's May and mayAt, proved over the translation. -/
import Derived.Test.YtlppfocoonnpjaaGreatDoorUSmall
namespace Go.Proofs.YtlppfocoonnpjaaGreatDoor.U
open Go.RowKit
attribute [local go_sem] alloc_drewN setCell_drewN

set_option maxRecDepth 100000 in
set_option maxHeartbeats 1000000 in
theorem may_any (t : TaskV) (w : World) :
    Calls Tryz.prog 96 #[taskVal t] w fun e w' => e = .returned (.bool (taskMay t)) ∧ w.grownBy w' none := by
  have C := hide (fun W => task_any t W)
  generalize taskMay t = b at *
  obtain ⟨x0, x1, x2, x3, x4, x5⟩ := t
  go_enter Tryz.func96, Tryz.ntmps96
  go_wp2_with (first | fail)
  refine (C.out _).mono ?_; rintro e w' ⟨rfl, hg⟩
  have HG := hide (grownBy_trans (World.grownBy_alloc _ _ _) hg)
  clear hg
  go_wp2
  go_ret
  exact ⟨by first | rfl | simp [*], HG.out⟩

set_option maxRecDepth 100000 in
set_option maxHeartbeats 1000000 in
theorem mayAt_any {lo : Nat} (t : TaskV) (L : Int) (v : Value) (zs : List Int) (now : Int) (w : World) (hv : RowAt shN lo w v zs) :
    Calls Tryz.prog 89 #[taskVal t, .agg #[.int .i64 L, v], .int .i64 now] w fun e w' => e = .returned (.bool (atMay t ⟨L, zs⟩ now)) ∧ w.grownBy w' none := by
  have CT := hide (fun W => task_any t W)
  have CU := hide (fun W (hg : w.grownBy W none) => mayTurns_any L v zs W (hv.grown hg))
  have CK := hide (fun W => clock_any now W)
  unfold atMay
  generalize (decide (0 ≤ now) && decide (now ≤ 1099511627776)) = k at *
  generalize taskMay t = b at *
  generalize turnsMay ⟨L, zs⟩ = c at *
  obtain ⟨x0, x1, x2, x3, x4, x5⟩ := t
  cases b with
  | false =>
    rw [Bool.false_and]
    go_enter Tryz.func89, Tryz.ntmps89
    go_wp2_with (first | fail)
    refine (CT.out _).mono ?_; rintro e w' ⟨rfl, hg⟩
    have HG := hide (grownBy_trans (grownBy_trans (World.grownBy_alloc _ _ _) (World.grownBy_alloc _ _ _)) hg)
    clear hg
    go_wp2
    go_ret
    exact ⟨by first | rfl | simp [*], HG.out⟩
  | true =>
    rw [Bool.true_and]
    cases c with
    | false =>
      rw [Bool.false_and]
      go_enter Tryz.func89, Tryz.ntmps89
      go_wp2_with (first | fail)
      refine (CT.out _).mono ?_; rintro e w1 ⟨rfl, hg⟩
      have hc1 : w1.heap[w.heap.size + 1]? = _ := box_grown (alloc_next w _ _) hg (by simp)
      have HB := hide hc1
      have HG := hide (grownBy_trans (grownBy_trans (World.grownBy_alloc _ _ _) (World.grownBy_alloc _ _ _)) hg)
      have c0 := blk_cell hc1 0
      have c1 := blk_cell hc1 1
      clear hg hc1
      go_wp2_with (first | fail)
      refine (CU.out _ HG.out).mono ?_; rintro e w2 ⟨rfl, hg⟩
      have HG := hide (grownBy_trans HG.out hg)
      clear hg
      go_wp2
      go_ret
      exact ⟨by first | rfl | simp [*], HG.out⟩
    | true =>
      rw [Bool.true_and]
      go_enter Tryz.func89, Tryz.ntmps89
      go_wp2_with (first | fail)
      refine (CT.out _).mono ?_; rintro e w1 ⟨rfl, hg⟩
      have hc1 : w1.heap[w.heap.size + 1]? = _ := box_grown (alloc_next w _ _) hg (by simp)
      have HG := hide (grownBy_trans (grownBy_trans (World.grownBy_alloc _ _ _) (World.grownBy_alloc _ _ _)) hg)
      have c0 := blk_cell hc1 0
      have c1 := blk_cell hc1 1
      clear hg hc1
      go_wp2_with (first | fail)
      refine (CU.out _ HG.out).mono ?_; rintro e w2 ⟨rfl, hg⟩
      have HG := hide (grownBy_trans HG.out hg)
      clear hg
      go_wp2_with (first | (go_at_call 37; refine (CK.out _).mono ?_; rintro e w' ⟨rfl, rfl⟩) | fail)
      go_ret
      exact ⟨by first | rfl | simp [*], HG.out⟩
#print axioms mayAt_any
end Go.Proofs.YtlppfocoonnpjaaGreatDoor.U
