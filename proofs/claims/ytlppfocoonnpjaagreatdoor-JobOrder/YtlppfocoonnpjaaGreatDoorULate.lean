/- The contract of package task's Late, proved over the translation. -/
import Derived.Test.YtlppfocoonnpjaaGreatDoorQd
namespace Go.Proofs.YtlppfocoonnpjaaGreatDoor.U
open Go.RowKit
attribute [local go_sem] alloc_drewN setCell_drewN

set_option maxRecDepth 100000 in
set_option maxHeartbeats 2000000 in
theorem late_any {lo : Nat} (t : TaskV) (L : Int) (a : Option Addr) (n cap : Nat) (zs : List Int) (now : Int) (w : World) (hv : RowAt shN lo w (.slice a n cap) zs) :
    Calls Tryz.prog 61 #[taskVal t, .agg #[.int .i64 L, .slice a n cap], .int .i64 now] w fun e w' => e = .returned (.bool (lateB t ⟨L, zs⟩ now)) ∧ w.grownBy w' none := by
  have hn : zs.length = n := by obtain ⟨-, a2, c2, e, -⟩ := hv; simp only [Value.slice.injEq] at e; exact e.2.1.symm
  have CM := hide (fun W (hg : w.grownBy W none) => mayAt_any t L (.slice a n cap) zs now W (hv.grown hg))
  have CK := hide (kindOf_any t L a n cap)
  have CS := hide (slate_any t L a n cap now)
  have CP := hide (fun W (h : atMay t ⟨L, zs⟩ now = true) => plate_any t L a n cap zs hn now W (at_parts h).2.2.1 (at_parts h).2.2.2.1 (at_parts h).2.2.2.2.2.1 (at_parts h).2.2.2.2.2.2)
  unfold lateB
  generalize waitsB t ⟨L, zs⟩ now = d at *
  generalize atMay t ⟨L, zs⟩ now = b at *
  clear hn hv
  unfold kindV at CK
  obtain ⟨x0, x1, x2, x3, x4, x5⟩ := t
  dsimp only [kindC] at *
  cases b with
  | false =>
    rw [Bool.false_and]
    go_enter Tryz.func61, Tryz.ntmps61
    go_wp2_with (first | fail)
    refine (CM.out _ (grownBy_trans (World.grownBy_alloc _ _ _) (World.grownBy_alloc _ _ _))).mono ?_; rintro e w1 ⟨rfl, hg⟩
    have HG := hide (grownBy_trans (grownBy_trans (World.grownBy_alloc _ _ _) (World.grownBy_alloc _ _ _)) hg)
    clear hg
    go_wp2
    go_ret
    exact ⟨rfl, HG.out⟩
  | true =>
    rw [Bool.true_and]
    by_cases hk : x0 = 1
    · subst hk
      rw [decide_eq_true rfl, Bool.true_and]
      rw [if_pos rfl] at CK
      clear CS
      go_enter Tryz.func61, Tryz.ntmps61
      go_wp2_with (first | fail)
      refine (CM.out _ (grownBy_trans (World.grownBy_alloc _ _ _) (World.grownBy_alloc _ _ _))).mono ?_; rintro e w1 ⟨rfl, hg⟩
      have HG := hide (grownBy_trans (grownBy_trans (World.grownBy_alloc _ _ _) (World.grownBy_alloc _ _ _)) hg)
      have hb := box_grown (hp_up (heap_alloc_new w _) _) hg (by simp)
      have hu := box_grown (alloc_next w _ _) hg (by simp)
      have c0 := blk_cell hb 0
      have c1 := blk_cell hb 1
      have c2 := blk_cell hb 2
      have c3 := blk_cell hb 3
      have c4 := blk_cell hb 4
      have c5 := blk_cell hb 5
      have d0 := blk_cell hu 0
      have d1 := blk_cell hu 1
      clear hg hb hu
      go_wp2_with (first | fail)
      refine (CK.out _).mono ?_; rintro e w2 ⟨rfl, hg⟩
      have HG2 := hide (grownBy_trans HG.out hg)
      clear hg c0 c1 c2 c3 c4 c5 d0 d1 HG
      have hm := m_late_p (.int .i64 1) (.int .i64 x1) (.int .i64 x2) (.int .i64 x3) (.int .i64 x4) (.int .i64 x5) (.int .i64 L) (.slice a n cap)
      go_wp2_with (first | fail)
      refine (CP.out _ trivial).mono ?_; rintro e w3 ⟨rfl, hg⟩
      have HG3 := hide (grownBy_trans HG2.out hg)
      clear hg
      go_wp2
      go_ret
      exact ⟨rfl, HG3.out⟩
    · rw [decide_eq_false hk, Bool.false_and]
      rw [if_neg hk] at CK
      clear CP
      go_enter Tryz.func61, Tryz.ntmps61
      go_wp2_with (first | fail)
      refine (CM.out _ (grownBy_trans (World.grownBy_alloc _ _ _) (World.grownBy_alloc _ _ _))).mono ?_; rintro e w1 ⟨rfl, hg⟩
      have HG := hide (grownBy_trans (grownBy_trans (World.grownBy_alloc _ _ _) (World.grownBy_alloc _ _ _)) hg)
      have hb := box_grown (hp_up (heap_alloc_new w _) _) hg (by simp)
      have hu := box_grown (alloc_next w _ _) hg (by simp)
      have c0 := blk_cell hb 0
      have c1 := blk_cell hb 1
      have c2 := blk_cell hb 2
      have c3 := blk_cell hb 3
      have c4 := blk_cell hb 4
      have c5 := blk_cell hb 5
      have d0 := blk_cell hu 0
      have d1 := blk_cell hu 1
      clear hg hb hu
      go_wp2_with (first | fail)
      refine (CK.out _).mono ?_; rintro e w2 ⟨rfl, hg⟩
      have HG2 := hide (grownBy_trans HG.out hg)
      clear hg c0 c1 c2 c3 c4 c5 d0 d1 HG
      have hm := m_late_r (.int .i64 x0) (.int .i64 x1) (.int .i64 x2) (.int .i64 x3) (.int .i64 x4) (.int .i64 x5) (.int .i64 L) (.slice a n cap)
      go_wp2_with (first | fail)
      refine (CS.out _).mono ?_; rintro e w3 ⟨rfl, hg⟩
      have HG3 := hide (grownBy_trans HG2.out hg)
      clear hg
      go_wp2
      go_ret
      exact ⟨rfl, HG3.out⟩
#print axioms late_any
end Go.Proofs.YtlppfocoonnpjaaGreatDoor.U
