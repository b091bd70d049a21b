/- The contract of the document's own Late, proved over the translation: it answers as the program's. -/
import Derived.Test.YtephnppanbckkaaRefT
namespace Go.Proofs.Ytephnppanbckkaa
open Go.RowKit
attribute [local go_sem] alloc_drewN setCell_drewN

set_option maxRecDepth 100000 in
set_option maxHeartbeats 2000000 in
theorem rlate_any {lo : Nat} (t : TaskV) (L : Int) (a : Option Addr) (n cap : Nat) (zs : List Int) (now : Int) (w : World) (hv : RowAt shN lo w (.slice a n cap) zs) :
    Calls Try.prog 19 #[taskVal t, .agg #[.int .i64 L, .slice a n cap], .int .i64 now] w fun e w' => e = .returned (.bool (lateB t ⟨L, zs⟩ now)) ∧ w.grownBy w' none := by
  have hn : zs.length = n := by obtain ⟨-, a2, c2, e, -⟩ := hv; simp only [Value.slice.injEq] at e; exact e.2.1.symm
  have CM := hide (fun W (hg : w.grownBy W none) => rmay_any t L (.slice a n cap) zs now W (hv.grown hg))
  have HB := hide (at_parts (t := t) (s := ⟨L, zs⟩) (now := now))
  unfold lateB waitsB
  dsimp only
  rw [hn]
  generalize atMay t ⟨L, zs⟩ now = b at *
  clear hn hv
  obtain ⟨x0, x1, x2, x3, x4, x5⟩ := t
  cases b with
  | false =>
    rw [Bool.false_and]
    go_enter Try.func19, Try.ntmps19
    go_wp2_with (first | fail)
    refine (CM.out _ (grownBy_trans (World.grownBy_alloc _ _ _) (World.grownBy_alloc _ _ _))).mono ?_; rintro e w1 ⟨rfl, hg⟩
    have HG := hide (grownBy_trans (grownBy_trans (World.grownBy_alloc _ _ _) (World.grownBy_alloc _ _ _)) hg)
    clear hg
    go_wp2
    go_ret
    exact ⟨rfl, HG.out⟩
  | true =>
    rw [Bool.true_and]
    obtain ⟨-, -, hL1, hL2, -, h01, h02⟩ := HB.out rfl
    dsimp only at hL1 hL2
    clear HB
    by_cases hk : x0 = 1
    · subst hk
      rw [decide_eq_true rfl, Bool.true_and]
      by_cases hz : 0 < n
      · rw [decide_eq_true hz, Bool.true_and]
        by_cases hm : L = -1
        · subst hm
          rw [decide_eq_true rfl, Bool.not_true, Bool.false_and]
          go_enter Try.func19, Try.ntmps19
          go_wp2_with (first | fail)
          refine (CM.out _ (grownBy_trans (World.grownBy_alloc _ _ _) (World.grownBy_alloc _ _ _))).mono ?_; rintro e w1 ⟨rfl, hg⟩
          have HG := hide (grownBy_trans (grownBy_trans (World.grownBy_alloc _ _ _) (World.grownBy_alloc _ _ _)) hg)
          have hb := box_grown (hp_up (heap_alloc_new w _) _) hg (by simp)
          have hu := box_grown (alloc_next w _ _) hg (by simp)
          have c0 := blk_cell hb 0
          have c1 := blk_cell hb 1
          have d0 := blk_cell hu 0
          have d1 := blk_cell hu 1
          clear hg hb hu
          go_wp2
          go_ret
          exact ⟨by first | rfl | simp, HG.out⟩
        · rw [decide_eq_false hm, Bool.not_false, Bool.true_and]
          go_enter Try.func19, Try.ntmps19
          go_wp2_with (first | fail)
          refine (CM.out _ (grownBy_trans (World.grownBy_alloc _ _ _) (World.grownBy_alloc _ _ _))).mono ?_; rintro e w1 ⟨rfl, hg⟩
          have HG := hide (grownBy_trans (grownBy_trans (World.grownBy_alloc _ _ _) (World.grownBy_alloc _ _ _)) hg)
          have hb := box_grown (hp_up (heap_alloc_new w _) _) hg (by simp)
          have hu := box_grown (alloc_next w _ _) hg (by simp)
          have c0 := blk_cell hb 0
          have c1 := blk_cell hb 1
          have d0 := blk_cell hu 0
          have d1 := blk_cell hu 1
          clear hg hb hu
          go_wp2
          go_ret
          exact ⟨by first | rfl | simp [hm], HG.out⟩
      · rw [decide_eq_false hz, Bool.false_and]
        go_enter Try.func19, Try.ntmps19
        go_wp2_with (first | fail)
        refine (CM.out _ (grownBy_trans (World.grownBy_alloc _ _ _) (World.grownBy_alloc _ _ _))).mono ?_; rintro e w1 ⟨rfl, hg⟩
        have HG := hide (grownBy_trans (grownBy_trans (World.grownBy_alloc _ _ _) (World.grownBy_alloc _ _ _)) hg)
        have hb := box_grown (hp_up (heap_alloc_new w _) _) hg (by simp)
        have hu := box_grown (alloc_next w _ _) hg (by simp)
        have c0 := blk_cell hb 0
        have c1 := blk_cell hb 1
        have d0 := blk_cell hu 0
        have d1 := blk_cell hu 1
        clear hg hb hu
        go_wp2
        go_ret
        exact ⟨by first | rfl | simp, HG.out⟩
    · rw [decide_eq_false hk, Bool.false_and]
      go_enter Try.func19, Try.ntmps19
      go_wp2_with (first | fail)
      refine (CM.out _ (grownBy_trans (World.grownBy_alloc _ _ _) (World.grownBy_alloc _ _ _))).mono ?_; rintro e w1 ⟨rfl, hg⟩
      have HG := hide (grownBy_trans (grownBy_trans (World.grownBy_alloc _ _ _) (World.grownBy_alloc _ _ _)) hg)
      have hb := box_grown (hp_up (heap_alloc_new w _) _) hg (by simp)
      have hu := box_grown (alloc_next w _ _) hg (by simp)
      have c0 := blk_cell hb 0
      have c1 := blk_cell hb 1
      have d0 := blk_cell hu 0
      have d1 := blk_cell hu 1
      clear hg hb hu
      go_wp2
      go_ret
      exact ⟨by first | rfl | simp, HG.out⟩
#print axioms rlate_any
end Go.Proofs.Ytephnppanbckkaa
