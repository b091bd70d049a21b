/- Contracts of package code's May and its closure, and of the library's IndexFunc and ContainsFunc as May calls them, proved over the translation. -/
import Derived.Test.YtlppfocoonnpjaaGreatDoorTab
namespace Go.Proofs.YtlppfocoonnpjaaGreatDoor
open Go.RowKit
attribute [local go_sem] alloc_drewN setCell_drewN

/-- May an instruction be, in a program of so many? -/
def insMay (many : Int) (x : Ins) : Bool := isOpB x.1 && (decide (0 ≤ x.2) && decide (x.2 < most x.1 many))

set_option maxRecDepth 100000 in
set_option maxHeartbeats 1000000 in
/-- The closure: may the instruction not be? -/
theorem not_any (x y : Int) (N cap : Nat) (a : Option Addr) (B : Nat) (w : World) (hT : Tab w) (hB : w.cell? ⟨B, 0, none⟩ = some (.slice a N cap)) :
    Calls Tryz.prog 123 #[.agg #[.int .i64 x, .int .i64 y], .pointer (some ⟨B, 0, none⟩)] w fun e w' => e = .returned (.bool (!insMay N (x, y))) ∧ w.grownBy w' none := by
  have hBl : B < w.heap.size := World.block_lt_of_cell? w ⟨B, 0, none⟩ hB
  have hne : B ≠ w.heap.size := by omega
  have hTa : Tab (w.alloc (.cells #[.int .i64 x, .int .i64 y] 144)) := hT.grown (World.grownBy_alloc _ _ _)
  have C1 := hide (fun n => isOp_any x _ (hTa.draws n))
  unfold insMay
  dsimp only
  cases h1 : isOpB x with
  | false =>
    rw [h1] at C1
    simp only [Bool.false_and, Bool.not_false]
    go_enter Tryz.func123, Tryz.ntmps123
    go_wp2
    go_quiet (first | (go_at_call 124; refine Calls.quiet_of_same (C1.out _)))
    go_wp2
    go_ret
    exact ⟨rfl, grownBy_trans (World.grownBy_alloc _ _ _) (grownBy_draws _ _ _)⟩
  | true =>
    rw [h1] at C1
    unfold isOpB at h1
    have h2 := of_decide_eq_true h1
    have C2 := hide (fun n => argBelow_any x N h2.1 h2.2 _ (hTa.draws n))
    clear h1 h2
    generalize most x N = m at *
    by_cases h3 : 0 ≤ y
    · by_cases h4 : y < m
      · rw [decide_eq_true h3, decide_eq_true h4]
        simp only [Bool.true_and, Bool.not_true]
        have h5 : decide (y < 0) = false := decide_eq_false (by omega)
        have h6 : decide (m ≤ y) = false := decide_eq_false (by omega)
        go_enter Tryz.func123, Tryz.ntmps123
        go_wp2
        go_quiet (first | (go_at_call 124; refine Calls.quiet_of_same (C1.out _)) | (go_at_call 125; refine Calls.quiet_of_same (C2.out _)))
        go_wp2
        go_ret
        exact ⟨rfl, grownBy_trans (World.grownBy_alloc _ _ _) (grownBy_draws _ _ _)⟩
      · rw [decide_eq_true h3, decide_eq_false h4]
        simp only [Bool.true_and, Bool.not_false]
        go_enter Tryz.func123, Tryz.ntmps123
        go_wp2
        go_quiet (first | (go_at_call 124; refine Calls.quiet_of_same (C1.out _)) | (go_at_call 125; refine Calls.quiet_of_same (C2.out _)))
        go_wp2
        go_ret
        exact ⟨rfl, grownBy_trans (World.grownBy_alloc _ _ _) (grownBy_draws _ _ _)⟩
    · rw [decide_eq_false h3]
      simp only [Bool.true_and, Bool.false_and, Bool.not_false]
      go_enter Tryz.func123, Tryz.ntmps123
      go_wp2
      go_quiet (first | (go_at_call 124; refine Calls.quiet_of_same (C1.out _)) | (go_at_call 125; refine Calls.quiet_of_same (C2.out _)))
      go_wp2
      go_ret
      exact ⟨rfl, grownBy_trans (World.grownBy_alloc _ _ _) (grownBy_draws _ _ _)⟩
#print axioms not_any

set_option maxRecDepth 100000 in
set_option maxHeartbeats 1000000 in
/-- The library's IndexFunc, with that closure. -/
theorem index_any (v : Value) (zs : List Ins) (hz : zs.length ≤ 9223372036854775807) (B : Nat) (a : Option Addr) (cap : Nat) (w : World) (hT : Tab w) (hB : w.cell? ⟨B, 0, none⟩ = some (.slice a zs.length cap)) (hv : PReads w v zs) :
    Calls Tryz.prog 134 #[v, .func (.func 123) #[] #[.pointer (some ⟨B, 0, none⟩)]] w fun e w' => ∃ r : Int, e = .returned (.int .i64 r) ∧ decide (0 ≤ r) = (!zs.all (insMay zs.length)) ∧ w.grownBy w' none := by
  obtain ⟨va, vcap, rfl, ha⟩ := hv
  have HA := hide ha
  have HT := hide hT
  have HB := hide hB
  have hBl : B < w.heap.size := World.block_lt_of_cell? w ⟨B, 0, none⟩ hB
  clear ha hT hB
  have HR := hide (fun x : Bool => show zs.all (insMay zs.length) = x ↔ zs.all (insMay zs.length) = x from Iff.rfl)
  clear HR
  generalize hN : zs.length = N at *
  have HN := hide hN
  clear hN
  go_enter Tryz.func134, Tryz.ntmps134
  go_wp2
  go_loopw [5, 8] (fun _ i W => ∃ (j : Nat), j ≤ N ∧ i = .int .i64 j ∧ Hid (w.grownBy W none) ∧ Hid (∀ i, i < j → insMay N (zs[i]?.getD (0, 0)) = true)) (fun _ i _ => N - (intOf i).toNat)
  case atStart => exact ⟨0, by omega, rfl, grownBy_refl _ _, fun i hi => absurd hi (Nat.not_lt_zero _)⟩
  case round =>
    obtain ⟨j, hj, rfl, HG, HP⟩ := hrel
    by_cases hlt : j < N
    · obtain ⟨g, o, rfl, hc⟩ := HA.out (by omega)
      have hgl : g < w.heap.size := World.block_lt_of_cell? w ⟨g, o + j * 2, none⟩ (hc j hlt).1
      have c1 := (World.cell?_of_block (a := ⟨g, o + j * 2, none⟩) (HG.out.block g hgl (by simp))).trans (hc j hlt).1
      have c2 := (World.cell?_of_block (a := ⟨g, o + j * 2 + 1, none⟩) (HG.out.block g hgl (by simp))).trans (hc j hlt).2
      have hB2 := (World.cell?_of_block (a := ⟨B, 0, none⟩) (HG.out.block B hBl (by simp))).trans HB.out
      have C := not_any (zs[j]?.getD (0, 0)).1 (zs[j]?.getD (0, 0)).2 N cap a B wr (HT.out.grown HG.out) hB2
      rw [show ((zs[j]?.getD (0, 0)).1, (zs[j]?.getD (0, 0)).2) = zs[j]?.getD (0, 0) from rfl] at C
      have HJ := hide (show zs[j]?.getD (0, 0) = zs[j]?.getD (0, 0) from rfl)
      clear hB2 hc hgl
      generalize hm : insMay N (zs[j]?.getD (0, 0)) = m at C
      have HM := hide hm
      clear hm HJ
      generalize (zs[j]?.getD (0, 0)).1 = x at *
      generalize (zs[j]?.getD (0, 0)).2 = y at *
      have HC := hide C
      clear C
      cases m with
      | true =>
        go_wp2_with (first | fail)
        refine HC.out.mono ?_; rintro e w2 ⟨rfl, hg⟩
        have HG2 := hide (grownBy_trans HG.out hg)
        clear hg HG
        go_wp2
        go_roundw
        case rel =>
          refine ⟨j + 1, by omega, by go_num, HG2, fun i hi => ?_⟩
          rcases (by omega : i < j ∨ i = j) with h | rfl
          · exact HP.out i h
          · exact HM.out
        case measure => simp [intOf]; omega
      | false =>
        go_wp2_with (first | fail)
        refine HC.out.mono ?_; rintro e w2 ⟨rfl, hg⟩
        have HG2 := hide (grownBy_trans HG.out hg)
        clear hg HG
        go_wp2
        go_ret
        refine ⟨_, rfl, ?_, HG2.out⟩
        have hf : zs.all (insMay N) = false := by
          rw [List.all_eq_false]
          refine ⟨zs[j]?.getD (0, 0), ?_, by rw [HM.out]; simp⟩
          have hlz : j < zs.length := by rw [HN.out]; exact hlt
          rw [List.getElem?_eq_getElem hlz]
          exact List.getElem_mem hlz
        rw [hf]
        simp
    · go_wp2
      go_ret
      refine ⟨_, rfl, ?_, HG.out⟩
      have hf : zs.all (insMay N) = true := by
        rw [List.all_eq_true]
        intro x hx
        obtain ⟨i, hi, rfl⟩ := List.getElem_of_mem hx
        have := HP.out i (by have := HN.out; omega)
        rwa [List.getElem?_eq_getElem hi] at this
      rw [hf]
      rfl
#print axioms index_any
end Go.Proofs.YtlppfocoonnpjaaGreatDoor
