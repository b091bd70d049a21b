/- Contracts of the document's word, fault, VmMay and stepMay, proved over the translation. -/
import Derived.Test.YthdpdnibgmjdaaaDoorLaw0
import Derived.Test.YthdpdnibgmjdaaaDoorVmbox
import Derived.Test.YthdpdnibgmjdaaaDoorRefMay
namespace Go.Proofs.YthdpdnibgmjdaaaDoor
open Go.RowKit
attribute [local go_sem] alloc_drewN setCell_drewN

theorem four {w : World} {o1 o2 o3 o4 : Obj} : ((((w.alloc o1).alloc o2).alloc o3).alloc o4).heap[w.heap.size]? = some o1 ∧ ((((w.alloc o1).alloc o2).alloc o3).alloc o4).heap[w.heap.size + 1]? = some o2 ∧ ((((w.alloc o1).alloc o2).alloc o3).alloc o4).heap[w.heap.size + 1 + 1]? = some o3 ∧ ((((w.alloc o1).alloc o2).alloc o3).alloc o4).heap[w.heap.size + 1 + 1 + 1]? = some o4 ∧ w.grownBy ((((w.alloc o1).alloc o2).alloc o3).alloc o4) none := by
  refine ⟨?_, ?_, ?_, ?_, grownBy_trans (grownBy_trans (grownBy_trans (World.grownBy_alloc _ _ _) (World.grownBy_alloc _ _ _)) (World.grownBy_alloc _ _ _)) (World.grownBy_alloc _ _ _)⟩
  · exact box_grown (r := none) (box_grown (r := none) (box_grown (r := none) (World.heap_alloc_new _ _) (World.grownBy_alloc _ _ _) (by simp)) (World.grownBy_alloc _ _ _) (by simp)) (World.grownBy_alloc _ _ _) (by simp)
  · exact box_grown (r := none) (box_grown (r := none) (alloc_next w o1 o2) (World.grownBy_alloc _ _ _) (by simp)) (World.grownBy_alloc _ _ _) (by simp)
  · rw [← World.size_alloc_new w o1]
    exact box_grown (r := none) (alloc_next (w.alloc o1) o2 o3) (World.grownBy_alloc _ _ _) (by simp)
  · rw [← World.size_alloc_new w o1, ← World.size_alloc_new (w.alloc o1) o2]
    exact alloc_next ((w.alloc o1).alloc o2) o3 o4
theorem three {w : World} {o1 o2 o3 : Obj} : (((w.alloc o1).alloc o2).alloc o3).heap[w.heap.size]? = some o1 ∧ (((w.alloc o1).alloc o2).alloc o3).heap[w.heap.size + 1]? = some o2 ∧ (((w.alloc o1).alloc o2).alloc o3).heap[w.heap.size + 1 + 1]? = some o3 ∧ w.grownBy (((w.alloc o1).alloc o2).alloc o3) none := by
  refine ⟨?_, ?_, ?_, grownBy_trans (grownBy_trans (World.grownBy_alloc _ _ _) (World.grownBy_alloc _ _ _)) (World.grownBy_alloc _ _ _)⟩
  · exact box_grown (r := none) (box_grown (r := none) (World.heap_alloc_new _ _) (World.grownBy_alloc _ _ _) (by simp)) (World.grownBy_alloc _ _ _) (by simp)
  · exact box_grown (r := none) (alloc_next w o1 o2) (World.grownBy_alloc _ _ _) (by simp)
  · rw [← World.size_alloc_new w o1]
    exact alloc_next (w.alloc o1) o2 o3
theorem range_of {W : World} {g t : Nat} {cs : Array Value} (h : W.heap[g]? = some (.cells cs t (0, 0))) : W.rangeAt g 0 cs.toList := fun j v hv => by
  rw [Nat.zero_add]
  exact (blk_cell h j).trans (by simpa using hv)
#print axioms three

theorem word_any (x : Int) (w : World) :
    Calls Tryd.prog 35 #[.int .i64 x] w fun e w' => e = .returned (.bool (isW x)) ∧ w = w' := by
  unfold isW
  by_cases h0 : 0 ≤ x
  · by_cases h1 : x < 4294967296
    · rw [decide_eq_true h0, decide_eq_true h1]
      go_enter Tryd.func35, Tryd.ntmps35
      go_wp2
      go_ret
      exact ⟨by first | rfl | simp, rfl⟩
    · rw [decide_eq_true h0, decide_eq_false h1]
      go_enter Tryd.func35, Tryd.ntmps35
      go_wp2
      go_ret
      exact ⟨by first | rfl | simp, rfl⟩
  · rw [decide_eq_false h0]
    go_enter Tryd.func35, Tryd.ntmps35
    go_wp2
    go_ret
    exact ⟨by first | rfl | simp, rfl⟩
#print axioms word_any

theorem vm_ref {N : Nat} {v : VmS} (h : allB 16 (fun i => isW (v.mem i)) = true) : vmMay N v = (isW v.acc && (decide (0 ≤ v.pc) && (decide (v.pc < N) || decide (v.pc = 0)))) := by
  unfold vmMay
  rw [h, Bool.and_true]
  by_cases h0 : 0 ≤ v.pc
  · rw [decide_eq_true h0]
    by_cases h1 : v.pc < max (N : Int) 1
    · rw [decide_eq_true h1]
      by_cases h2 : v.pc < N
      · rw [decide_eq_true h2]; simp
      · rw [decide_eq_true (show v.pc = 0 by omega)]; simp
    · rw [decide_eq_false h1, decide_eq_false (show ¬ v.pc < N by omega), decide_eq_false (show ¬ v.pc = 0 by omega)]; simp
  · rw [decide_eq_false h0]; simp

set_option maxRecDepth 100000 in
set_option maxHeartbeats 4000000 in
theorem vmRef_any (v : VmS) (N : Nat) (w : World) :
    Calls Tryd.prog 37 #[vmV v, .int .i64 N] w fun e w' => e = .returned (.bool (vmMay N v)) ∧ w.grownBy w' none := by
  obtain ⟨pc, acc, m⟩ := v
  have CW := hide word_any
  obtain ⟨A, hA⟩ : ∃ A, vmMay N ⟨pc, acc, m⟩ = A := ⟨_, rfl⟩
  rw [hA]
  have HNO := hide (fun i (hi : i < 16) (h : isW (m i) = false) => (show A = false by rw [← hA]; exact (show vmMay N ⟨pc, acc, m⟩ = false by unfold vmMay; rw [show allB 16 (fun i => isW (m i)) = false from allB_false hi h]; simp)))
  have HYES := hide (fun (h : ∀ i, i < 16 → isW (m i) = true) => (show A = (isW acc && (decide (0 ≤ pc) && (decide (pc < N) || decide (pc = 0)))) by rw [← hA]; exact vm_ref (v := ⟨pc, acc, m⟩) (allB_true h)))
  clear hA
  dsimp only [vmV]
  go_enter Tryd.func37, Tryd.ntmps37
  go_upto_region 1 with fail
  have HV := hide (World.heap_alloc_new w (.cells #[.int .i64 pc, .int .i64 acc, .int .i64 (m 0), .int .i64 (m 1), .int .i64 (m 2), .int .i64 (m 3), .int .i64 (m 4), .int .i64 (m 5), .int .i64 (m 6), .int .i64 (m 7), .int .i64 (m 8), .int .i64 (m 9), .int .i64 (m 10), .int .i64 (m 11), .int .i64 (m 12), .int .i64 (m 13), .int .i64 (m 14), .int .i64 (m 15)] 25))
  have HG := hide (World.grownBy_alloc w (.cells #[.int .i64 pc, .int .i64 acc, .int .i64 (m 0), .int .i64 (m 1), .int .i64 (m 2), .int .i64 (m 3), .int .i64 (m 4), .int .i64 (m 5), .int .i64 (m 6), .int .i64 (m 7), .int .i64 (m 8), .int .i64 (m 9), .int .i64 (m 10), .int .i64 (m 11), .int .i64 (m 12), .int .i64 (m 13), .int .i64 (m 14), .int .i64 (m 15)] 25) none)
  generalize hw1 : w.alloc (.cells #[.int .i64 pc, .int .i64 acc, .int .i64 (m 0), .int .i64 (m 1), .int .i64 (m 2), .int .i64 (m 3), .int .i64 (m 4), .int .i64 (m 5), .int .i64 (m 6), .int .i64 (m 7), .int .i64 (m 8), .int .i64 (m 9), .int .i64 (m 10), .int .i64 (m 11), .int .i64 (m 12), .int .i64 (m 13), .int .i64 (m 14), .int .i64 (m 15)] 25) = w1 at *
  generalize hB : w.heap.size = B at *
  clear hw1 hB
  go_wp2
  go_loopw [5] (fun i W => ∃ (j : Nat), j ≤ 16 ∧ i = .int .i64 j ∧ W = w1 ∧ Hid (∀ i, i < j → isW (m i) = true)) (fun i _ => 16 - (intOf i).toNat)
  case atStart => exact ⟨0, by omega, rfl, rfl, fun i hi => absurd hi (Nat.not_lt_zero _)⟩
  case round =>
    obtain ⟨j, hj, rfl, rfl, HP⟩ := hrel
    by_cases hlt : j < 16
    · have c1 := vm_word (v := ⟨pc, acc, m⟩) HV.out j hlt
      dsimp only at c1
      have C := hide (CW.out (m j) wr)
      cases hb : isW (m j) with
      | true =>
        rw [hb] at C
        have HB := hide hb
        clear hb
        go_wp2_with (first | fail)
        refine C.out.mono ?_; rintro e w' ⟨rfl, rfl⟩
        clear C c1
        go_wp2
        go_roundw
        case rel =>
          refine ⟨j + 1, by omega, by go_num, by first | rfl | trivial, fun i hi => ?_⟩
          rcases (by omega : i < j ∨ i = j) with h | rfl
          · exact HP.out i h
          · exact HB.out
        case measure => simp [intOf]; omega
      | false =>
        rw [hb] at C
        have HB := hide hb
        clear hb
        go_wp2_with (first | fail)
        refine C.out.mono ?_; rintro e w' ⟨rfl, rfl⟩
        clear C c1
        go_wp2
        go_ret
        refine ⟨?_, HG.out⟩
        rw [HNO.out j hlt HB.out]
        rfl
    · obtain rfl : j = 16 := by omega
      have v0 : wr.cell? ⟨B, 0, none⟩ = some (.int .i64 pc) := blk_cell HV.out 0
      have v1 : wr.cell? ⟨B, 1, none⟩ = some (.int .i64 acc) := blk_cell HV.out 1
      have C := hide (CW.out acc wr)
      have HA := hide (HYES.out HP.out)
      cases hb : isW acc with
      | false =>
        rw [hb] at C HA
        go_wp2_with (first | fail)
        refine C.out.mono ?_; rintro e w' ⟨rfl, rfl⟩
        clear C
        go_wp2
        go_ret
        refine ⟨?_, HG.out⟩
        rw [HA.out]; simp
      | true =>
        rw [hb] at C HA
        go_wp2_with (first | fail)
        refine C.out.mono ?_; rintro e w' ⟨rfl, rfl⟩
        clear C hb
        by_cases h0 : 0 ≤ pc
        · by_cases h1 : pc < N
          · go_wp2
            go_ret
            refine ⟨?_, HG.out⟩
            rw [HA.out, decide_eq_true h0, decide_eq_true h1]; simp
          · by_cases h2 : pc = 0
            · have h2' : (pc == 0) = true := by simpa using h2
              go_wp2
              go_ret
              refine ⟨?_, HG.out⟩
              rw [HA.out, decide_eq_true h0, decide_eq_true h2]; simp
            · have h2' : (pc == 0) = false := by simpa using h2
              go_wp2
              go_ret
              refine ⟨?_, HG.out⟩
              rw [HA.out, decide_eq_false (show ¬ pc < (N : Int) by omega), decide_eq_false h2]; simp
        · go_wp2
          go_ret
          refine ⟨?_, HG.out⟩
          rw [HA.out, decide_eq_false (show ¬ 0 ≤ pc by omega)]; simp
#print axioms vmRef_any

set_option maxRecDepth 100000 in
set_option maxHeartbeats 4000000 in
theorem fault_any (v : VmS) (w : World) :
    Calls Tryd.prog 38 #[vmV v] w fun e w' => e = .returned (.tuple #[vmV (failS v).1, efV (failS v).2]) ∧ w.grownBy w' none := by
  obtain ⟨pc, acc, m⟩ := v
  dsimp only [vmV, efV, failS, faultE]
  obtain ⟨b1, b2, b3, bg⟩ := three (w := w) (o1 := .cells #[.int .i64 pc, .int .i64 acc, .int .i64 (m 0), .int .i64 (m 1), .int .i64 (m 2), .int .i64 (m 3), .int .i64 (m 4), .int .i64 (m 5), .int .i64 (m 6), .int .i64 (m 7), .int .i64 (m 8), .int .i64 (m 9), .int .i64 (m 10), .int .i64 (m 11), .int .i64 (m 12), .int .i64 (m 13), .int .i64 (m 14), .int .i64 (m 15)] 25) (o2 := .cells #[.int .i64 0, .int .i64 0, .int .i64 0, .int .i64 0, .int .i64 0, .int .i64 0, .int .i64 0, .int .i64 0, .int .i64 0, .int .i64 0, .int .i64 0, .int .i64 0, .int .i64 0, .int .i64 0, .int .i64 0, .int .i64 0, .int .i64 0, .int .i64 0] 25) (o3 := .cells #[.bool false, .int .i64 0, .int .i64 0, .int .i64 0, .bool false] 30)
  go_enter Tryd.func38, Tryd.ntmps38
  go_upto_region 1 with fail
  generalize hw1 : ((w.alloc (.cells #[.int .i64 pc, .int .i64 acc, .int .i64 (m 0), .int .i64 (m 1), .int .i64 (m 2), .int .i64 (m 3), .int .i64 (m 4), .int .i64 (m 5), .int .i64 (m 6), .int .i64 (m 7), .int .i64 (m 8), .int .i64 (m 9), .int .i64 (m 10), .int .i64 (m 11), .int .i64 (m 12), .int .i64 (m 13), .int .i64 (m 14), .int .i64 (m 15)] 25)).alloc (.cells #[.int .i64 0, .int .i64 0, .int .i64 0, .int .i64 0, .int .i64 0, .int .i64 0, .int .i64 0, .int .i64 0, .int .i64 0, .int .i64 0, .int .i64 0, .int .i64 0, .int .i64 0, .int .i64 0, .int .i64 0, .int .i64 0, .int .i64 0, .int .i64 0] 25)).alloc (.cells #[.bool false, .int .i64 0, .int .i64 0, .int .i64 0, .bool false] 30) = w1 at *
  clear hw1
  obtain ⟨B, hB⟩ : ∃ B, B = w.heap.size := ⟨_, rfl⟩
  rw [← hB] at b1 b2 b3 ⊢
  generalize hR1 : B + 1 = R1 at *
  generalize hR2 : R1 + 1 = R2 at *
  have HO : Hid (w.heap.size ≤ B ∧ B < R1 ∧ R1 < R2) := hide (by omega)
  clear hR1 hR2 hB
  have HV := hide b1
  have H1 := hide b2
  have H2 := hide b3
  have HG := hide bg
  clear b1 b2 b3 bg
  have c0 : w1.cell? ⟨B, 0, none⟩ = some (.int .i64 pc) := blk_cell HV.out 0
  have c1 : w1.cell? ⟨B, 1, none⟩ = some (.int .i64 acc) := blk_cell HV.out 1
  have f0 := blk_free HV.out 0
  have f1 := blk_free HV.out 1
  have HVn : Hid (((w1.setCell ⟨B, 0, none⟩ (.int .i64 0)).setCell ⟨B, 1, none⟩ (.int .i64 0)).heap[B]? = some (.cells #[.int .i64 0, .int .i64 0, .int .i64 (m 0), .int .i64 (m 1), .int .i64 (m 2), .int .i64 (m 3), .int .i64 (m 4), .int .i64 (m 5), .int .i64 (m 6), .int .i64 (m 7), .int .i64 (m 8), .int .i64 (m 9), .int .i64 (m 10), .int .i64 (m 11), .int .i64 (m 12), .int .i64 (m 13), .int .i64 (m 14), .int .i64 (m 15)] 25 (0, 0))) := hide (blk_set (cs := #[.int .i64 0, .int .i64 acc, .int .i64 (m 0), .int .i64 (m 1), .int .i64 (m 2), .int .i64 (m 3), .int .i64 (m 4), .int .i64 (m 5), .int .i64 (m 6), .int .i64 (m 7), .int .i64 (m 8), .int .i64 (m 9), .int .i64 (m 10), .int .i64 (m 11), .int .i64 (m 12), .int .i64 (m 13), .int .i64 (m 14), .int .i64 (m 15)]) (blk_set HV.out (by rfl)) (by rfl))
  have H1 := hide (((heap_else _ 1 (.int .i64 0) (show B ≠ R1 by have := HO.out; omega)).trans (heap_else w1 0 (.int .i64 0) (show B ≠ R1 by have := HO.out; omega))).trans H1.out)
  have H2 := hide (((heap_else _ 1 (.int .i64 0) (show B ≠ R2 by have := HO.out; omega)).trans (heap_else w1 0 (.int .i64 0) (show B ≠ R2 by have := HO.out; omega))).trans H2.out)
  have HG := hide (grown_set_new (R := B) (j := 1) (u := .int .i64 0) (by have := HO.out; omega) (grown_set_new (R := B) (j := 0) (u := .int .i64 0) (by have := HO.out; omega) HG.out))
  go_upto_region 3 with fail
  generalize hw2 : (w1.setCell ⟨B, 0, none⟩ (.int .i64 0)).setCell ⟨B, 1, none⟩ (.int .i64 0) = w2 at *
  clear hw2 c0 c1 f0 f1 HV
  have HV := HVn
  clear HVn
  go_wp2_with (first | ((with_reducible refine list_load 25 (.tmp 1) (B) 25 #[.int .i64 0, .int .i64 0, .int .i64 (m 0), .int .i64 (m 1), .int .i64 (m 2), .int .i64 (m 3), .int .i64 (m 4), .int .i64 (m 5), .int .i64 (m 6), .int .i64 (m 7), .int .i64 (m 8), .int .i64 (m 9), .int .i64 (m 10), .int .i64 (m 11), .int .i64 (m 12), .int .i64 (m 13), .int .i64 (m 14), .int .i64 (m 15)] (0, 0) _ ?hw ?hx ?hg Tryd.underlying25 ?hd ?hi ?_); (case hw => kernel_rfl); (case hx => rfl); (case hg => exact HV.out); (case hd => rfl); (case hi => exact sizeVm)) | ((with_reducible refine list_store 25 (.tmp 2) (.tmp 6) (R1) #[.int .i64 0, .int .i64 0, .int .i64 (m 0), .int .i64 (m 1), .int .i64 (m 2), .int .i64 (m 3), .int .i64 (m 4), .int .i64 (m 5), .int .i64 (m 6), .int .i64 (m 7), .int .i64 (m 8), .int .i64 (m 9), .int .i64 (m 10), .int .i64 (m 11), .int .i64 (m 12), .int .i64 (m 13), .int .i64 (m 14), .int .i64 (m 15)] 25 #[.int .i64 0, .int .i64 0, .int .i64 0, .int .i64 0, .int .i64 0, .int .i64 0, .int .i64 0, .int .i64 0, .int .i64 0, .int .i64 0, .int .i64 0, .int .i64 0, .int .i64 0, .int .i64 0, .int .i64 0, .int .i64 0, .int .i64 0, .int .i64 0] ?hx ?hy ?hg ?hi ?ho ?h1 ?_); (case hx => rfl); (case hy => rfl); (case hg => exact H1.out); (case hi => exact sizeVm); (case ho => rfl); (case h1 => simp [Value.oneCell']); intro w3 h1 e1 g1; have H1 := hide h1; have H2 := hide ((e1 R2 (by have := HO.out; omega)).trans H2.out); have HG := hide (grown_spoil HG.out (by have := HO.out; omega) g1); clear h1 e1 g1) | ((with_reducible refine list_store 30 (.tmp 3) (.tmp 7) (R2) #[.bool false, .int .i64 (-1), .int .i64 (-1), .int .i64 0, .bool true] 30 #[.bool false, .int .i64 0, .int .i64 0, .int .i64 0, .bool false] ?hx ?hy ?hg ?hi ?ho ?h1 ?_); (case hx => rfl); (case hy => rfl); (case hg => exact H2.out); (case hi => exact sizeEf); (case ho => rfl); (case h1 => simp [Value.oneCell']); intro w4 h1 e1 g1; have H2 := hide h1; have H1 := hide ((e1 R1 (by have := HO.out; omega)).trans H1.out); have HG := hide (grown_spoil HG.out (by have := HO.out; omega) g1); clear h1 e1 g1) | fail)
  refine bodyPost_ret (results_rr rfl _ _ R1 R2 25 30 #[.int .i64 0, .int .i64 0, .int .i64 (m 0), .int .i64 (m 1), .int .i64 (m 2), .int .i64 (m 3), .int .i64 (m 4), .int .i64 (m 5), .int .i64 (m 6), .int .i64 (m 7), .int .i64 (m 8), .int .i64 (m 9), .int .i64 (m 10), .int .i64 (m 11), .int .i64 (m 12), .int .i64 (m 13), .int .i64 (m 14), .int .i64 (m 15)] #[.bool false, .int .i64 (-1), .int .i64 (-1), .int .i64 0, .bool true] (0, 0) (0, 0) _ _ rfl H1.out Tryd.underlying25 rfl sizeVm rfl H2.out Tryd.underlying30 rfl sizeEf) rfl ?_
  exact ⟨rfl, HG.out⟩
#print axioms fault_any
end Go.Proofs.YthdpdnibgmjdaaaDoor
