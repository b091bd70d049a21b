/- The walk of the statement ConfigWindows: windows and ports that may not be; proved over the translation. -/
import Derived.Test.YtgaegggiehhcpaaDoorLawW0
namespace Go.Proofs.YtgaegggiehhcpaaDoor
open Go.RowKit
attribute [local go_sem] alloc_drewN setCell_drewN

set_option maxRecDepth 100000 in
set_option maxHeartbeats 2000000 in
theorem win_0 (a x : Int) (hk : (IntKind.u64.wrap a).tmod 12 = 0) (w : World) (hT : Tab w) :
    Calls Tryd.prog 7 #[.int .i64 a, .int .i64 x] w fun e w' => e = .returned (.bool true) ∧ w.grownBy w' none := by
  have HT := hide hT
  have CA := hide (awake_any w hT)
  clear hT
  obtain ⟨m, m0, m1, e1⟩ := and63 x
  have HCK : Hid (checkN ⟨10, 2, plainP, [⟨-(1 + m), 5, 0⟩, px1], [po0]⟩ = 504) := hide (chkW [⟨-(1 + m), 5, 0⟩, px1] [po0] (winsB_bad 0 (by simp) (by simp [winB, endAt, winAt]; omega)))
  go_enter Tryd.func7, Tryd.ntmps7
  go_wp2_with (first | fail)
  refine CA.out.mono ?_; rintro e w1 ⟨rfl, hg⟩
  have G1 := hide hg
  clear hg CA
  go_wp2_with (first | fail)
  refine (plain_any w1).mono ?_; rintro e w2 ⟨n, hn, rfl, hm, hg⟩
  have M2 := hide hm
  have G2 := hide (grownBy_trans G1.out hg)
  have hn2 := hm.lt
  have HN := hide (show w.heap.size ≤ n by have := G1.out.size; omega)
  clear hm hg
  go_upto_region 4 with fail
  have A3 := hide (World.grownBy_alloc w2 (.cells #[.int .i64 10, .int .i64 2, .slice (some ⟨n + 3, 0, none⟩) 2 2, .slice (some ⟨n + 4, 0, none⟩) 2 2, .slice (some ⟨n + 5, 0, none⟩) 1 1] 26) none)
  have B3' := hide (heap_alloc_new w2 (.cells #[.int .i64 10, .int .i64 2, .slice (some ⟨n + 3, 0, none⟩) 2 2, .slice (some ⟨n + 4, 0, none⟩) 2 2, .slice (some ⟨n + 5, 0, none⟩) 1 1] 26))
  generalize hw3 : w2.alloc (.cells #[.int .i64 10, .int .i64 2, .slice (some ⟨n + 3, 0, none⟩) 2 2, .slice (some ⟨n + 4, 0, none⟩) 2 2, .slice (some ⟨n + 5, 0, none⟩) 1 1] 26) = w3 at *
  clear hw3
  have M3 := hide (M2.out.grown A3.out)
  have G3 := hide (grownBy_trans G2.out A3.out)
  generalize hB : w2.heap.size = B at *
  have B3 := hide B3'.out
  clear hB A3 M2 B3'
  have f0 : w3.cell? ⟨B, 0, none⟩ = some (.int .i64 10) := blk_cell B3.out 0
  have f1 : w3.cell? ⟨B, 1, none⟩ = some (.int .i64 2) := blk_cell B3.out 1
  have f2 : w3.cell? ⟨B, 2, none⟩ = some (.slice (some ⟨n + 3, 0, none⟩) 2 2) := blk_cell B3.out 2
  have f3 : w3.cell? ⟨B, 3, none⟩ = some (.slice (some ⟨n + 4, 0, none⟩) 2 2) := blk_cell B3.out 3
  have f4 : w3.cell? ⟨B, 4, none⟩ = some (.slice (some ⟨n + 5, 0, none⟩) 1 1) := blk_cell B3.out 4
  have j0 : w3.cell? ⟨n + 4, 0, none⟩ = some (.int .i64 (0)) := blk_cell M3.out.bw 0
  have k0 : w3.frozen? ⟨n + 4, 0, none⟩ = false := blk_free M3.out.bw 0
  have hne1 : n + 4 ≠ B := by omega
  have hne2 : B ≠ n + 4 := by omega
  have M4 := hide (M3.out.setw 0 (.int .i64 (-(1 + m))) ⟨-(1 + m), 5, 0⟩ px1 rfl)
  have G4 := hide (grown_set_new (j := 0) (u := .int .i64 (-(1 + m))) (R := n + 4) (by have := HN.out; omega) G3.out)
  have B4 := hide (blk_other (j := 0) (u := .int .i64 (-(1 + m))) (b := n + 4) B3.out (by omega))
  have HCF := hide (show ConfAt n _ _ ⟨10, 2, plainP, [⟨-(1 + m), 5, 0⟩, px1], [po0]⟩ from M4.out.conf 10 2)
  go_wp2_with (first | fail)
  refine (check_any _ ⟨10, 2, plainP, [⟨-(1 + m), 5, 0⟩, px1], [po0]⟩ _ (HT.out.grown G4.out) HCF.out).mono ?_; rintro e w5 ⟨rfl, hg⟩
  rw [HCK.out]
  have G5 := hide (grownBy_trans G4.out hg)
  have C5 := hide (ConfAt.grown HCF.out hg)
  have B5 := hide (box_grown B4.out hg (by simp))
  clear hg
  have g0 : w5.cell? ⟨B, 0, none⟩ = some (.int .i64 10) := blk_cell B5.out 0
  have g1 : w5.cell? ⟨B, 1, none⟩ = some (.int .i64 2) := blk_cell B5.out 1
  have g2 : w5.cell? ⟨B, 2, none⟩ = some (.slice (some ⟨n + 3, 0, none⟩) 2 2) := blk_cell B5.out 2
  have g3 : w5.cell? ⟨B, 3, none⟩ = some (.slice (some ⟨n + 4, 0, none⟩) 2 2) := blk_cell B5.out 3
  have g4 : w5.cell? ⟨B, 4, none⟩ = some (.slice (some ⟨n + 5, 0, none⟩) 1 1) := blk_cell B5.out 4
  have HPS := hide (putS_bad HCK.out (by decide))
  go_wp2_with (first | fail)
  refine (put_any _ ⟨10, 2, plainP, [⟨-(1 + m), 5, 0⟩, px1], [po0]⟩ _ (HT.out.grown G5.out) C5.out).mono ?_; rintro e w6 ⟨rfl, hg⟩
  rw [HPS.out, HCK.out]
  have G6 := hide (grownBy_trans G5.out hg)
  clear hg
  go_wp2_with (first | (go_at_call 15; refine (num_any _ _).mono ?_; rintro e w' ⟨rfl, rfl⟩))
  go_ret
  exact ⟨rfl, G6.out⟩

set_option maxRecDepth 100000 in
set_option maxHeartbeats 2000000 in
theorem win_1 (a x : Int) (hk : (IntKind.u64.wrap a).tmod 12 = 1) (w : World) (hT : Tab w) :
    Calls Tryd.prog 7 #[.int .i64 a, .int .i64 x] w fun e w' => e = .returned (.bool true) ∧ w.grownBy w' none := by
  have HT := hide hT
  have CA := hide (awake_any w hT)
  clear hT
  obtain ⟨m, m0, m1, e1⟩ := and63 x
  have HCK : Hid (checkN ⟨10, 2, plainP, [⟨0, 0, 0⟩, px1], [po0]⟩ = 504) := hide (chkW [⟨0, 0, 0⟩, px1] [po0] (winsB_bad 0 (by simp) (by simp [winB, endAt, winAt])))
  go_enter Tryd.func7, Tryd.ntmps7
  go_wp2_with (first | fail)
  refine CA.out.mono ?_; rintro e w1 ⟨rfl, hg⟩
  have G1 := hide hg
  clear hg CA
  go_wp2_with (first | fail)
  refine (plain_any w1).mono ?_; rintro e w2 ⟨n, hn, rfl, hm, hg⟩
  have M2 := hide hm
  have G2 := hide (grownBy_trans G1.out hg)
  have hn2 := hm.lt
  have HN := hide (show w.heap.size ≤ n by have := G1.out.size; omega)
  clear hm hg
  go_upto_region 4 with fail
  have A3 := hide (World.grownBy_alloc w2 (.cells #[.int .i64 10, .int .i64 2, .slice (some ⟨n + 3, 0, none⟩) 2 2, .slice (some ⟨n + 4, 0, none⟩) 2 2, .slice (some ⟨n + 5, 0, none⟩) 1 1] 26) none)
  have B3' := hide (heap_alloc_new w2 (.cells #[.int .i64 10, .int .i64 2, .slice (some ⟨n + 3, 0, none⟩) 2 2, .slice (some ⟨n + 4, 0, none⟩) 2 2, .slice (some ⟨n + 5, 0, none⟩) 1 1] 26))
  generalize hw3 : w2.alloc (.cells #[.int .i64 10, .int .i64 2, .slice (some ⟨n + 3, 0, none⟩) 2 2, .slice (some ⟨n + 4, 0, none⟩) 2 2, .slice (some ⟨n + 5, 0, none⟩) 1 1] 26) = w3 at *
  clear hw3
  have M3 := hide (M2.out.grown A3.out)
  have G3 := hide (grownBy_trans G2.out A3.out)
  generalize hB : w2.heap.size = B at *
  have B3 := hide B3'.out
  clear hB A3 M2 B3'
  have f0 : w3.cell? ⟨B, 0, none⟩ = some (.int .i64 10) := blk_cell B3.out 0
  have f1 : w3.cell? ⟨B, 1, none⟩ = some (.int .i64 2) := blk_cell B3.out 1
  have f2 : w3.cell? ⟨B, 2, none⟩ = some (.slice (some ⟨n + 3, 0, none⟩) 2 2) := blk_cell B3.out 2
  have f3 : w3.cell? ⟨B, 3, none⟩ = some (.slice (some ⟨n + 4, 0, none⟩) 2 2) := blk_cell B3.out 3
  have f4 : w3.cell? ⟨B, 4, none⟩ = some (.slice (some ⟨n + 5, 0, none⟩) 1 1) := blk_cell B3.out 4
  have j0 : w3.cell? ⟨n + 4, 1, none⟩ = some (.int .i64 (5)) := blk_cell M3.out.bw 1
  have k0 : w3.frozen? ⟨n + 4, 1, none⟩ = false := blk_free M3.out.bw 1
  have hne1 : n + 4 ≠ B := by omega
  have hne2 : B ≠ n + 4 := by omega
  have M4 := hide (M3.out.setw 1 (.int .i64 (0)) ⟨0, 0, 0⟩ px1 rfl)
  have G4 := hide (grown_set_new (j := 1) (u := .int .i64 (0)) (R := n + 4) (by have := HN.out; omega) G3.out)
  have B4 := hide (blk_other (j := 1) (u := .int .i64 (0)) (b := n + 4) B3.out (by omega))
  have HCF := hide (show ConfAt n _ _ ⟨10, 2, plainP, [⟨0, 0, 0⟩, px1], [po0]⟩ from M4.out.conf 10 2)
  go_wp2_with (first | fail)
  refine (check_any _ ⟨10, 2, plainP, [⟨0, 0, 0⟩, px1], [po0]⟩ _ (HT.out.grown G4.out) HCF.out).mono ?_; rintro e w5 ⟨rfl, hg⟩
  rw [HCK.out]
  have G5 := hide (grownBy_trans G4.out hg)
  have C5 := hide (ConfAt.grown HCF.out hg)
  have B5 := hide (box_grown B4.out hg (by simp))
  clear hg
  have g0 : w5.cell? ⟨B, 0, none⟩ = some (.int .i64 10) := blk_cell B5.out 0
  have g1 : w5.cell? ⟨B, 1, none⟩ = some (.int .i64 2) := blk_cell B5.out 1
  have g2 : w5.cell? ⟨B, 2, none⟩ = some (.slice (some ⟨n + 3, 0, none⟩) 2 2) := blk_cell B5.out 2
  have g3 : w5.cell? ⟨B, 3, none⟩ = some (.slice (some ⟨n + 4, 0, none⟩) 2 2) := blk_cell B5.out 3
  have g4 : w5.cell? ⟨B, 4, none⟩ = some (.slice (some ⟨n + 5, 0, none⟩) 1 1) := blk_cell B5.out 4
  have HPS := hide (putS_bad HCK.out (by decide))
  go_wp2_with (first | fail)
  refine (put_any _ ⟨10, 2, plainP, [⟨0, 0, 0⟩, px1], [po0]⟩ _ (HT.out.grown G5.out) C5.out).mono ?_; rintro e w6 ⟨rfl, hg⟩
  rw [HPS.out, HCK.out]
  have G6 := hide (grownBy_trans G5.out hg)
  clear hg
  go_wp2_with (first | (go_at_call 15; refine (num_any _ _).mono ?_; rintro e w' ⟨rfl, rfl⟩))
  go_ret
  exact ⟨rfl, G6.out⟩

set_option maxRecDepth 100000 in
set_option maxHeartbeats 2000000 in
theorem win_2 (a x : Int) (hk : (IntKind.u64.wrap a).tmod 12 = 2) (w : World) (hT : Tab w) :
    Calls Tryd.prog 7 #[.int .i64 a, .int .i64 x] w fun e w' => e = .returned (.bool true) ∧ w.grownBy w' none := by
  have HT := hide hT
  have CA := hide (awake_any w hT)
  clear hT
  obtain ⟨m, m0, m1, e1⟩ := and63 x
  have HCK : Hid (checkN ⟨10, 2, plainP, [px0, ⟨6, 10 + (1 + m), 1⟩], [po0]⟩ = 504) := hide (chkW [px0, ⟨6, 10 + (1 + m), 1⟩] [po0] (winsB_bad 1 (by simp) (by simp [winB, endAt, winAt]; omega)))
  go_enter Tryd.func7, Tryd.ntmps7
  go_wp2_with (first | fail)
  refine CA.out.mono ?_; rintro e w1 ⟨rfl, hg⟩
  have G1 := hide hg
  clear hg CA
  go_wp2_with (first | fail)
  refine (plain_any w1).mono ?_; rintro e w2 ⟨n, hn, rfl, hm, hg⟩
  have M2 := hide hm
  have G2 := hide (grownBy_trans G1.out hg)
  have hn2 := hm.lt
  have HN := hide (show w.heap.size ≤ n by have := G1.out.size; omega)
  clear hm hg
  go_upto_region 4 with fail
  have A3 := hide (World.grownBy_alloc w2 (.cells #[.int .i64 10, .int .i64 2, .slice (some ⟨n + 3, 0, none⟩) 2 2, .slice (some ⟨n + 4, 0, none⟩) 2 2, .slice (some ⟨n + 5, 0, none⟩) 1 1] 26) none)
  have B3' := hide (heap_alloc_new w2 (.cells #[.int .i64 10, .int .i64 2, .slice (some ⟨n + 3, 0, none⟩) 2 2, .slice (some ⟨n + 4, 0, none⟩) 2 2, .slice (some ⟨n + 5, 0, none⟩) 1 1] 26))
  generalize hw3 : w2.alloc (.cells #[.int .i64 10, .int .i64 2, .slice (some ⟨n + 3, 0, none⟩) 2 2, .slice (some ⟨n + 4, 0, none⟩) 2 2, .slice (some ⟨n + 5, 0, none⟩) 1 1] 26) = w3 at *
  clear hw3
  have M3 := hide (M2.out.grown A3.out)
  have G3 := hide (grownBy_trans G2.out A3.out)
  generalize hB : w2.heap.size = B at *
  have B3 := hide B3'.out
  clear hB A3 M2 B3'
  have f0 : w3.cell? ⟨B, 0, none⟩ = some (.int .i64 10) := blk_cell B3.out 0
  have f1 : w3.cell? ⟨B, 1, none⟩ = some (.int .i64 2) := blk_cell B3.out 1
  have f2 : w3.cell? ⟨B, 2, none⟩ = some (.slice (some ⟨n + 3, 0, none⟩) 2 2) := blk_cell B3.out 2
  have f3 : w3.cell? ⟨B, 3, none⟩ = some (.slice (some ⟨n + 4, 0, none⟩) 2 2) := blk_cell B3.out 3
  have f4 : w3.cell? ⟨B, 4, none⟩ = some (.slice (some ⟨n + 5, 0, none⟩) 1 1) := blk_cell B3.out 4
  have j0 : w3.cell? ⟨n + 4, 4, none⟩ = some (.int .i64 (9)) := blk_cell M3.out.bw 4
  have k0 : w3.frozen? ⟨n + 4, 4, none⟩ = false := blk_free M3.out.bw 4
  have hne1 : n + 4 ≠ B := by omega
  have hne2 : B ≠ n + 4 := by omega
  have M4 := hide (M3.out.setw 4 (.int .i64 (10 + (1 + m))) px0 ⟨6, 10 + (1 + m), 1⟩ rfl)
  have G4 := hide (grown_set_new (j := 4) (u := .int .i64 (10 + (1 + m))) (R := n + 4) (by have := HN.out; omega) G3.out)
  have B4 := hide (blk_other (j := 4) (u := .int .i64 (10 + (1 + m))) (b := n + 4) B3.out (by omega))
  have HCF := hide (show ConfAt n _ _ ⟨10, 2, plainP, [px0, ⟨6, 10 + (1 + m), 1⟩], [po0]⟩ from M4.out.conf 10 2)
  go_wp2_with (first | fail)
  refine (check_any _ ⟨10, 2, plainP, [px0, ⟨6, 10 + (1 + m), 1⟩], [po0]⟩ _ (HT.out.grown G4.out) HCF.out).mono ?_; rintro e w5 ⟨rfl, hg⟩
  rw [HCK.out]
  have G5 := hide (grownBy_trans G4.out hg)
  have C5 := hide (ConfAt.grown HCF.out hg)
  have B5 := hide (box_grown B4.out hg (by simp))
  clear hg
  have g0 : w5.cell? ⟨B, 0, none⟩ = some (.int .i64 10) := blk_cell B5.out 0
  have g1 : w5.cell? ⟨B, 1, none⟩ = some (.int .i64 2) := blk_cell B5.out 1
  have g2 : w5.cell? ⟨B, 2, none⟩ = some (.slice (some ⟨n + 3, 0, none⟩) 2 2) := blk_cell B5.out 2
  have g3 : w5.cell? ⟨B, 3, none⟩ = some (.slice (some ⟨n + 4, 0, none⟩) 2 2) := blk_cell B5.out 3
  have g4 : w5.cell? ⟨B, 4, none⟩ = some (.slice (some ⟨n + 5, 0, none⟩) 1 1) := blk_cell B5.out 4
  have HPS := hide (putS_bad HCK.out (by decide))
  go_wp2_with (first | fail)
  refine (put_any _ ⟨10, 2, plainP, [px0, ⟨6, 10 + (1 + m), 1⟩], [po0]⟩ _ (HT.out.grown G5.out) C5.out).mono ?_; rintro e w6 ⟨rfl, hg⟩
  rw [HPS.out, HCK.out]
  have G6 := hide (grownBy_trans G5.out hg)
  clear hg
  go_wp2_with (first | (go_at_call 15; refine (num_any _ _).mono ?_; rintro e w' ⟨rfl, rfl⟩))
  go_ret
  exact ⟨rfl, G6.out⟩

set_option maxRecDepth 100000 in
set_option maxHeartbeats 2000000 in
theorem win_3 (a x : Int) (hk : (IntKind.u64.wrap a).tmod 12 = 3) (w : World) (hT : Tab w) :
    Calls Tryd.prog 7 #[.int .i64 a, .int .i64 x] w fun e w' => e = .returned (.bool true) ∧ w.grownBy w' none := by
  have HT := hide hT
  have CA := hide (awake_any w hT)
  clear hT
  obtain ⟨m, m0, m1, e1⟩ := and63 x
  have HCK : Hid (checkN ⟨10, 2, plainP, [px0, ⟨6, 9, 1 + (1 + m)⟩], [po0]⟩ = 504) := hide (chkW [px0, ⟨6, 9, 1 + (1 + m)⟩] [po0] (winsB_bad 1 (by simp) (by simp [winB, endAt, winAt, isPartB, px0]; omega)))
  go_enter Tryd.func7, Tryd.ntmps7
  go_wp2_with (first | fail)
  refine CA.out.mono ?_; rintro e w1 ⟨rfl, hg⟩
  have G1 := hide hg
  clear hg CA
  go_wp2_with (first | fail)
  refine (plain_any w1).mono ?_; rintro e w2 ⟨n, hn, rfl, hm, hg⟩
  have M2 := hide hm
  have G2 := hide (grownBy_trans G1.out hg)
  have hn2 := hm.lt
  have HN := hide (show w.heap.size ≤ n by have := G1.out.size; omega)
  clear hm hg
  go_upto_region 4 with fail
  have A3 := hide (World.grownBy_alloc w2 (.cells #[.int .i64 10, .int .i64 2, .slice (some ⟨n + 3, 0, none⟩) 2 2, .slice (some ⟨n + 4, 0, none⟩) 2 2, .slice (some ⟨n + 5, 0, none⟩) 1 1] 26) none)
  have B3' := hide (heap_alloc_new w2 (.cells #[.int .i64 10, .int .i64 2, .slice (some ⟨n + 3, 0, none⟩) 2 2, .slice (some ⟨n + 4, 0, none⟩) 2 2, .slice (some ⟨n + 5, 0, none⟩) 1 1] 26))
  generalize hw3 : w2.alloc (.cells #[.int .i64 10, .int .i64 2, .slice (some ⟨n + 3, 0, none⟩) 2 2, .slice (some ⟨n + 4, 0, none⟩) 2 2, .slice (some ⟨n + 5, 0, none⟩) 1 1] 26) = w3 at *
  clear hw3
  have M3 := hide (M2.out.grown A3.out)
  have G3 := hide (grownBy_trans G2.out A3.out)
  generalize hB : w2.heap.size = B at *
  have B3 := hide B3'.out
  clear hB A3 M2 B3'
  have f0 : w3.cell? ⟨B, 0, none⟩ = some (.int .i64 10) := blk_cell B3.out 0
  have f1 : w3.cell? ⟨B, 1, none⟩ = some (.int .i64 2) := blk_cell B3.out 1
  have f2 : w3.cell? ⟨B, 2, none⟩ = some (.slice (some ⟨n + 3, 0, none⟩) 2 2) := blk_cell B3.out 2
  have f3 : w3.cell? ⟨B, 3, none⟩ = some (.slice (some ⟨n + 4, 0, none⟩) 2 2) := blk_cell B3.out 3
  have f4 : w3.cell? ⟨B, 4, none⟩ = some (.slice (some ⟨n + 5, 0, none⟩) 1 1) := blk_cell B3.out 4
  have j0 : w3.cell? ⟨n + 4, 5, none⟩ = some (.int .i64 (1)) := blk_cell M3.out.bw 5
  have k0 : w3.frozen? ⟨n + 4, 5, none⟩ = false := blk_free M3.out.bw 5
  have hne1 : n + 4 ≠ B := by omega
  have hne2 : B ≠ n + 4 := by omega
  have M4 := hide (M3.out.setw 5 (.int .i64 (1 + (1 + m))) px0 ⟨6, 9, 1 + (1 + m)⟩ rfl)
  have G4 := hide (grown_set_new (j := 5) (u := .int .i64 (1 + (1 + m))) (R := n + 4) (by have := HN.out; omega) G3.out)
  have B4 := hide (blk_other (j := 5) (u := .int .i64 (1 + (1 + m))) (b := n + 4) B3.out (by omega))
  have HCF := hide (show ConfAt n _ _ ⟨10, 2, plainP, [px0, ⟨6, 9, 1 + (1 + m)⟩], [po0]⟩ from M4.out.conf 10 2)
  go_wp2_with (first | fail)
  refine (check_any _ ⟨10, 2, plainP, [px0, ⟨6, 9, 1 + (1 + m)⟩], [po0]⟩ _ (HT.out.grown G4.out) HCF.out).mono ?_; rintro e w5 ⟨rfl, hg⟩
  rw [HCK.out]
  have G5 := hide (grownBy_trans G4.out hg)
  have C5 := hide (ConfAt.grown HCF.out hg)
  have B5 := hide (box_grown B4.out hg (by simp))
  clear hg
  have g0 : w5.cell? ⟨B, 0, none⟩ = some (.int .i64 10) := blk_cell B5.out 0
  have g1 : w5.cell? ⟨B, 1, none⟩ = some (.int .i64 2) := blk_cell B5.out 1
  have g2 : w5.cell? ⟨B, 2, none⟩ = some (.slice (some ⟨n + 3, 0, none⟩) 2 2) := blk_cell B5.out 2
  have g3 : w5.cell? ⟨B, 3, none⟩ = some (.slice (some ⟨n + 4, 0, none⟩) 2 2) := blk_cell B5.out 3
  have g4 : w5.cell? ⟨B, 4, none⟩ = some (.slice (some ⟨n + 5, 0, none⟩) 1 1) := blk_cell B5.out 4
  have HPS := hide (putS_bad HCK.out (by decide))
  go_wp2_with (first | fail)
  refine (put_any _ ⟨10, 2, plainP, [px0, ⟨6, 9, 1 + (1 + m)⟩], [po0]⟩ _ (HT.out.grown G5.out) C5.out).mono ?_; rintro e w6 ⟨rfl, hg⟩
  rw [HPS.out, HCK.out]
  have G6 := hide (grownBy_trans G5.out hg)
  clear hg
  go_wp2_with (first | (go_at_call 15; refine (num_any _ _).mono ?_; rintro e w' ⟨rfl, rfl⟩))
  go_ret
  exact ⟨rfl, G6.out⟩

set_option maxRecDepth 100000 in
set_option maxHeartbeats 2000000 in
theorem win_4 (a x : Int) (hk : (IntKind.u64.wrap a).tmod 12 = 4) (w : World) (hT : Tab w) :
    Calls Tryd.prog 7 #[.int .i64 a, .int .i64 x] w fun e w' => e = .returned (.bool true) ∧ w.grownBy w' none := by
  have HT := hide hT
  have CA := hide (awake_any w hT)
  clear hT
  obtain ⟨m, m0, m1, e1⟩ := and63 x
  obtain ⟨b, b0, b1, e2⟩ := and1 (1 + m)
  have HCK : Hid (checkN ⟨10, 2, plainP, [⟨0, 6 + b, 0⟩, ⟨5, 9, 1⟩], [po0]⟩ = 504) := hide (chkW [⟨0, 6 + b, 0⟩, ⟨5, 9, 1⟩] [po0] (winsB_bad 1 (by simp) (by simp [winB, endAt, winAt]; omega)))
  go_enter Tryd.func7, Tryd.ntmps7
  go_wp2_with (first | fail)
  refine CA.out.mono ?_; rintro e w1 ⟨rfl, hg⟩
  have G1 := hide hg
  clear hg CA
  go_wp2_with (first | fail)
  refine (plain_any w1).mono ?_; rintro e w2 ⟨n, hn, rfl, hm, hg⟩
  have M2 := hide hm
  have G2 := hide (grownBy_trans G1.out hg)
  have hn2 := hm.lt
  have HN := hide (show w.heap.size ≤ n by have := G1.out.size; omega)
  clear hm hg
  go_upto_region 4 with fail
  have A3 := hide (World.grownBy_alloc w2 (.cells #[.int .i64 10, .int .i64 2, .slice (some ⟨n + 3, 0, none⟩) 2 2, .slice (some ⟨n + 4, 0, none⟩) 2 2, .slice (some ⟨n + 5, 0, none⟩) 1 1] 26) none)
  have B3' := hide (heap_alloc_new w2 (.cells #[.int .i64 10, .int .i64 2, .slice (some ⟨n + 3, 0, none⟩) 2 2, .slice (some ⟨n + 4, 0, none⟩) 2 2, .slice (some ⟨n + 5, 0, none⟩) 1 1] 26))
  generalize hw3 : w2.alloc (.cells #[.int .i64 10, .int .i64 2, .slice (some ⟨n + 3, 0, none⟩) 2 2, .slice (some ⟨n + 4, 0, none⟩) 2 2, .slice (some ⟨n + 5, 0, none⟩) 1 1] 26) = w3 at *
  clear hw3
  have M3 := hide (M2.out.grown A3.out)
  have G3 := hide (grownBy_trans G2.out A3.out)
  generalize hB : w2.heap.size = B at *
  have B3 := hide B3'.out
  clear hB A3 M2 B3'
  have f0 : w3.cell? ⟨B, 0, none⟩ = some (.int .i64 10) := blk_cell B3.out 0
  have f1 : w3.cell? ⟨B, 1, none⟩ = some (.int .i64 2) := blk_cell B3.out 1
  have f2 : w3.cell? ⟨B, 2, none⟩ = some (.slice (some ⟨n + 3, 0, none⟩) 2 2) := blk_cell B3.out 2
  have f3 : w3.cell? ⟨B, 3, none⟩ = some (.slice (some ⟨n + 4, 0, none⟩) 2 2) := blk_cell B3.out 3
  have f4 : w3.cell? ⟨B, 4, none⟩ = some (.slice (some ⟨n + 5, 0, none⟩) 1 1) := blk_cell B3.out 4
  have j0 : w3.cell? ⟨n + 4, 1, none⟩ = some (.int .i64 (5)) := blk_cell M3.out.bw 1
  have k0 : w3.frozen? ⟨n + 4, 1, none⟩ = false := blk_free M3.out.bw 1
  have j1 : w3.cell? ⟨n + 4, 3, none⟩ = some (.int .i64 (6)) := blk_cell M3.out.bw 3
  have k1 : w3.frozen? ⟨n + 4, 3, none⟩ = false := blk_free M3.out.bw 3
  have hne1 : n + 4 ≠ B := by omega
  have hne2 : B ≠ n + 4 := by omega
  have M4 := hide ((M3.out.setw 1 (.int .i64 (6 + b)) ⟨0, 6 + b, 0⟩ px1 rfl).setw 3 (.int .i64 5) ⟨0, 6 + b, 0⟩ ⟨5, 9, 1⟩ rfl)
  have G4 := hide (grown_set_new (j := 3) (u := .int .i64 (5)) (R := n + 4) (by have := HN.out; omega) (grown_set_new (j := 1) (u := .int .i64 (6 + b)) (R := n + 4) (by have := HN.out; omega) G3.out))
  have B4 := hide (blk_other (j := 3) (u := .int .i64 (5)) (b := n + 4) (blk_other (j := 1) (u := .int .i64 (6 + b)) (b := n + 4) B3.out (by omega)) (by omega))
  have HCF := hide (show ConfAt n _ _ ⟨10, 2, plainP, [⟨0, 6 + b, 0⟩, ⟨5, 9, 1⟩], [po0]⟩ from M4.out.conf 10 2)
  go_wp2_with (first | fail)
  refine (check_any _ ⟨10, 2, plainP, [⟨0, 6 + b, 0⟩, ⟨5, 9, 1⟩], [po0]⟩ _ (HT.out.grown G4.out) HCF.out).mono ?_; rintro e w5 ⟨rfl, hg⟩
  rw [HCK.out]
  have G5 := hide (grownBy_trans G4.out hg)
  have C5 := hide (ConfAt.grown HCF.out hg)
  have B5 := hide (box_grown B4.out hg (by simp))
  clear hg
  have g0 : w5.cell? ⟨B, 0, none⟩ = some (.int .i64 10) := blk_cell B5.out 0
  have g1 : w5.cell? ⟨B, 1, none⟩ = some (.int .i64 2) := blk_cell B5.out 1
  have g2 : w5.cell? ⟨B, 2, none⟩ = some (.slice (some ⟨n + 3, 0, none⟩) 2 2) := blk_cell B5.out 2
  have g3 : w5.cell? ⟨B, 3, none⟩ = some (.slice (some ⟨n + 4, 0, none⟩) 2 2) := blk_cell B5.out 3
  have g4 : w5.cell? ⟨B, 4, none⟩ = some (.slice (some ⟨n + 5, 0, none⟩) 1 1) := blk_cell B5.out 4
  have HPS := hide (putS_bad HCK.out (by decide))
  go_wp2_with (first | fail)
  refine (put_any _ ⟨10, 2, plainP, [⟨0, 6 + b, 0⟩, ⟨5, 9, 1⟩], [po0]⟩ _ (HT.out.grown G5.out) C5.out).mono ?_; rintro e w6 ⟨rfl, hg⟩
  rw [HPS.out, HCK.out]
  have G6 := hide (grownBy_trans G5.out hg)
  clear hg
  go_wp2_with (first | (go_at_call 15; refine (num_any _ _).mono ?_; rintro e w' ⟨rfl, rfl⟩))
  go_ret
  exact ⟨rfl, G6.out⟩

set_option maxRecDepth 100000 in
set_option maxHeartbeats 2000000 in
theorem win_6 (a x : Int) (hk : (IntKind.u64.wrap a).tmod 12 = 6) (w : World) (hT : Tab w) :
    Calls Tryd.prog 7 #[.int .i64 a, .int .i64 x] w fun e w' => e = .returned (.bool true) ∧ w.grownBy w' none := by
  have HT := hide hT
  have CA := hide (awake_any w hT)
  clear hT
  obtain ⟨m, m0, m1, e1⟩ := and63 x
  have HCK : Hid (checkN ⟨10, 2, plainP, [⟨0, 5, -(1 + m)⟩, px1], [po0]⟩ = 504) := hide (chkW [⟨0, 5, -(1 + m)⟩, px1] [po0] (winsB_bad 0 (by simp) (by simp [winB, endAt, winAt, isPartB]; omega)))
  go_enter Tryd.func7, Tryd.ntmps7
  go_wp2_with (first | fail)
  refine CA.out.mono ?_; rintro e w1 ⟨rfl, hg⟩
  have G1 := hide hg
  clear hg CA
  go_wp2_with (first | fail)
  refine (plain_any w1).mono ?_; rintro e w2 ⟨n, hn, rfl, hm, hg⟩
  have M2 := hide hm
  have G2 := hide (grownBy_trans G1.out hg)
  have hn2 := hm.lt
  have HN := hide (show w.heap.size ≤ n by have := G1.out.size; omega)
  clear hm hg
  go_upto_region 4 with fail
  have A3 := hide (World.grownBy_alloc w2 (.cells #[.int .i64 10, .int .i64 2, .slice (some ⟨n + 3, 0, none⟩) 2 2, .slice (some ⟨n + 4, 0, none⟩) 2 2, .slice (some ⟨n + 5, 0, none⟩) 1 1] 26) none)
  have B3' := hide (heap_alloc_new w2 (.cells #[.int .i64 10, .int .i64 2, .slice (some ⟨n + 3, 0, none⟩) 2 2, .slice (some ⟨n + 4, 0, none⟩) 2 2, .slice (some ⟨n + 5, 0, none⟩) 1 1] 26))
  generalize hw3 : w2.alloc (.cells #[.int .i64 10, .int .i64 2, .slice (some ⟨n + 3, 0, none⟩) 2 2, .slice (some ⟨n + 4, 0, none⟩) 2 2, .slice (some ⟨n + 5, 0, none⟩) 1 1] 26) = w3 at *
  clear hw3
  have M3 := hide (M2.out.grown A3.out)
  have G3 := hide (grownBy_trans G2.out A3.out)
  generalize hB : w2.heap.size = B at *
  have B3 := hide B3'.out
  clear hB A3 M2 B3'
  have f0 : w3.cell? ⟨B, 0, none⟩ = some (.int .i64 10) := blk_cell B3.out 0
  have f1 : w3.cell? ⟨B, 1, none⟩ = some (.int .i64 2) := blk_cell B3.out 1
  have f2 : w3.cell? ⟨B, 2, none⟩ = some (.slice (some ⟨n + 3, 0, none⟩) 2 2) := blk_cell B3.out 2
  have f3 : w3.cell? ⟨B, 3, none⟩ = some (.slice (some ⟨n + 4, 0, none⟩) 2 2) := blk_cell B3.out 3
  have f4 : w3.cell? ⟨B, 4, none⟩ = some (.slice (some ⟨n + 5, 0, none⟩) 1 1) := blk_cell B3.out 4
  have j0 : w3.cell? ⟨n + 4, 2, none⟩ = some (.int .i64 (0)) := blk_cell M3.out.bw 2
  have k0 : w3.frozen? ⟨n + 4, 2, none⟩ = false := blk_free M3.out.bw 2
  have hne1 : n + 4 ≠ B := by omega
  have hne2 : B ≠ n + 4 := by omega
  have M4 := hide (M3.out.setw 2 (.int .i64 (-(1 + m))) ⟨0, 5, -(1 + m)⟩ px1 rfl)
  have G4 := hide (grown_set_new (j := 2) (u := .int .i64 (-(1 + m))) (R := n + 4) (by have := HN.out; omega) G3.out)
  have B4 := hide (blk_other (j := 2) (u := .int .i64 (-(1 + m))) (b := n + 4) B3.out (by omega))
  have HCF := hide (show ConfAt n _ _ ⟨10, 2, plainP, [⟨0, 5, -(1 + m)⟩, px1], [po0]⟩ from M4.out.conf 10 2)
  go_wp2_with (first | fail)
  refine (check_any _ ⟨10, 2, plainP, [⟨0, 5, -(1 + m)⟩, px1], [po0]⟩ _ (HT.out.grown G4.out) HCF.out).mono ?_; rintro e w5 ⟨rfl, hg⟩
  rw [HCK.out]
  have G5 := hide (grownBy_trans G4.out hg)
  have C5 := hide (ConfAt.grown HCF.out hg)
  have B5 := hide (box_grown B4.out hg (by simp))
  clear hg
  have g0 : w5.cell? ⟨B, 0, none⟩ = some (.int .i64 10) := blk_cell B5.out 0
  have g1 : w5.cell? ⟨B, 1, none⟩ = some (.int .i64 2) := blk_cell B5.out 1
  have g2 : w5.cell? ⟨B, 2, none⟩ = some (.slice (some ⟨n + 3, 0, none⟩) 2 2) := blk_cell B5.out 2
  have g3 : w5.cell? ⟨B, 3, none⟩ = some (.slice (some ⟨n + 4, 0, none⟩) 2 2) := blk_cell B5.out 3
  have g4 : w5.cell? ⟨B, 4, none⟩ = some (.slice (some ⟨n + 5, 0, none⟩) 1 1) := blk_cell B5.out 4
  have HPS := hide (putS_bad HCK.out (by decide))
  go_wp2_with (first | fail)
  refine (put_any _ ⟨10, 2, plainP, [⟨0, 5, -(1 + m)⟩, px1], [po0]⟩ _ (HT.out.grown G5.out) C5.out).mono ?_; rintro e w6 ⟨rfl, hg⟩
  rw [HPS.out, HCK.out]
  have G6 := hide (grownBy_trans G5.out hg)
  clear hg
  go_wp2_with (first | (go_at_call 15; refine (num_any _ _).mono ?_; rintro e w' ⟨rfl, rfl⟩))
  go_ret
  exact ⟨rfl, G6.out⟩

set_option maxRecDepth 100000 in
set_option maxHeartbeats 2000000 in
theorem win_7 (a x : Int) (hk : (IntKind.u64.wrap a).tmod 12 = 7) (w : World) (hT : Tab w) :
    Calls Tryd.prog 7 #[.int .i64 a, .int .i64 x] w fun e w' => e = .returned (.bool true) ∧ w.grownBy w' none := by
  have HT := hide hT
  have CA := hide (awake_any w hT)
  clear hT
  obtain ⟨m, m0, m1, e1⟩ := and63 x
  have HCK : Hid (checkN ⟨10, 2, plainP, [px0, px1], [⟨1, 1, 1, 2⟩]⟩ = 505) := hide (chkO [⟨1, 1, 1, 2⟩] (portsB_bad 0 (by simp) (by decide)))
  go_enter Tryd.func7, Tryd.ntmps7
  go_wp2_with (first | fail)
  refine CA.out.mono ?_; rintro e w1 ⟨rfl, hg⟩
  have G1 := hide hg
  clear hg CA
  go_wp2_with (first | fail)
  refine (plain_any w1).mono ?_; rintro e w2 ⟨n, hn, rfl, hm, hg⟩
  have M2 := hide hm
  have G2 := hide (grownBy_trans G1.out hg)
  have hn2 := hm.lt
  have HN := hide (show w.heap.size ≤ n by have := G1.out.size; omega)
  clear hm hg
  go_upto_region 4 with fail
  have A3 := hide (World.grownBy_alloc w2 (.cells #[.int .i64 10, .int .i64 2, .slice (some ⟨n + 3, 0, none⟩) 2 2, .slice (some ⟨n + 4, 0, none⟩) 2 2, .slice (some ⟨n + 5, 0, none⟩) 1 1] 26) none)
  have B3' := hide (heap_alloc_new w2 (.cells #[.int .i64 10, .int .i64 2, .slice (some ⟨n + 3, 0, none⟩) 2 2, .slice (some ⟨n + 4, 0, none⟩) 2 2, .slice (some ⟨n + 5, 0, none⟩) 1 1] 26))
  generalize hw3 : w2.alloc (.cells #[.int .i64 10, .int .i64 2, .slice (some ⟨n + 3, 0, none⟩) 2 2, .slice (some ⟨n + 4, 0, none⟩) 2 2, .slice (some ⟨n + 5, 0, none⟩) 1 1] 26) = w3 at *
  clear hw3
  have M3 := hide (M2.out.grown A3.out)
  have G3 := hide (grownBy_trans G2.out A3.out)
  generalize hB : w2.heap.size = B at *
  have B3 := hide B3'.out
  clear hB A3 M2 B3'
  have f0 : w3.cell? ⟨B, 0, none⟩ = some (.int .i64 10) := blk_cell B3.out 0
  have f1 : w3.cell? ⟨B, 1, none⟩ = some (.int .i64 2) := blk_cell B3.out 1
  have f2 : w3.cell? ⟨B, 2, none⟩ = some (.slice (some ⟨n + 3, 0, none⟩) 2 2) := blk_cell B3.out 2
  have f3 : w3.cell? ⟨B, 3, none⟩ = some (.slice (some ⟨n + 4, 0, none⟩) 2 2) := blk_cell B3.out 3
  have f4 : w3.cell? ⟨B, 4, none⟩ = some (.slice (some ⟨n + 5, 0, none⟩) 1 1) := blk_cell B3.out 4
  have j0 : w3.cell? ⟨n + 5, 1, none⟩ = some (.int .i64 (0)) := blk_cell M3.out.bo 1
  have k0 : w3.frozen? ⟨n + 5, 1, none⟩ = false := blk_free M3.out.bo 1
  have hne1 : n + 5 ≠ B := by omega
  have hne2 : B ≠ n + 5 := by omega
  have M4 := hide (M3.out.seto 1 (.int .i64 (1)) ⟨1, 1, 1, 2⟩ rfl)
  have G4 := hide (grown_set_new (j := 1) (u := .int .i64 (1)) (R := n + 5) (by have := HN.out; omega) G3.out)
  have B4 := hide (blk_other (j := 1) (u := .int .i64 (1)) (b := n + 5) B3.out (by omega))
  have HCF := hide (show ConfAt n _ _ ⟨10, 2, plainP, [px0, px1], [⟨1, 1, 1, 2⟩]⟩ from M4.out.conf 10 2)
  go_wp2_with (first | fail)
  refine (check_any _ ⟨10, 2, plainP, [px0, px1], [⟨1, 1, 1, 2⟩]⟩ _ (HT.out.grown G4.out) HCF.out).mono ?_; rintro e w5 ⟨rfl, hg⟩
  rw [HCK.out]
  have G5 := hide (grownBy_trans G4.out hg)
  have C5 := hide (ConfAt.grown HCF.out hg)
  have B5 := hide (box_grown B4.out hg (by simp))
  clear hg
  have g0 : w5.cell? ⟨B, 0, none⟩ = some (.int .i64 10) := blk_cell B5.out 0
  have g1 : w5.cell? ⟨B, 1, none⟩ = some (.int .i64 2) := blk_cell B5.out 1
  have g2 : w5.cell? ⟨B, 2, none⟩ = some (.slice (some ⟨n + 3, 0, none⟩) 2 2) := blk_cell B5.out 2
  have g3 : w5.cell? ⟨B, 3, none⟩ = some (.slice (some ⟨n + 4, 0, none⟩) 2 2) := blk_cell B5.out 3
  have g4 : w5.cell? ⟨B, 4, none⟩ = some (.slice (some ⟨n + 5, 0, none⟩) 1 1) := blk_cell B5.out 4
  have HPS := hide (putS_bad HCK.out (by decide))
  go_wp2_with (first | fail)
  refine (put_any _ ⟨10, 2, plainP, [px0, px1], [⟨1, 1, 1, 2⟩]⟩ _ (HT.out.grown G5.out) C5.out).mono ?_; rintro e w6 ⟨rfl, hg⟩
  rw [HPS.out, HCK.out]
  have G6 := hide (grownBy_trans G5.out hg)
  clear hg
  go_wp2_with (first | (go_at_call 15; refine (num_any _ _).mono ?_; rintro e w' ⟨rfl, rfl⟩))
  go_ret
  exact ⟨rfl, G6.out⟩

set_option maxRecDepth 100000 in
set_option maxHeartbeats 2000000 in
theorem win_8 (a x : Int) (hk : (IntKind.u64.wrap a).tmod 12 = 8) (w : World) (hT : Tab w) :
    Calls Tryd.prog 7 #[.int .i64 a, .int .i64 x] w fun e w' => e = .returned (.bool true) ∧ w.grownBy w' none := by
  have HT := hide hT
  have CA := hide (awake_any w hT)
  clear hT
  obtain ⟨m, m0, m1, e1⟩ := and63 x
  have HCK : Hid (checkN ⟨10, 2, plainP, [px0, px1], [⟨1, 0, 0, 2⟩]⟩ = 505) := hide (chkO [⟨1, 0, 0, 2⟩] (portsB_bad 0 (by simp) (by decide)))
  go_enter Tryd.func7, Tryd.ntmps7
  go_wp2_with (first | fail)
  refine CA.out.mono ?_; rintro e w1 ⟨rfl, hg⟩
  have G1 := hide hg
  clear hg CA
  go_wp2_with (first | fail)
  refine (plain_any w1).mono ?_; rintro e w2 ⟨n, hn, rfl, hm, hg⟩
  have M2 := hide hm
  have G2 := hide (grownBy_trans G1.out hg)
  have hn2 := hm.lt
  have HN := hide (show w.heap.size ≤ n by have := G1.out.size; omega)
  clear hm hg
  go_upto_region 4 with fail
  have A3 := hide (World.grownBy_alloc w2 (.cells #[.int .i64 10, .int .i64 2, .slice (some ⟨n + 3, 0, none⟩) 2 2, .slice (some ⟨n + 4, 0, none⟩) 2 2, .slice (some ⟨n + 5, 0, none⟩) 1 1] 26) none)
  have B3' := hide (heap_alloc_new w2 (.cells #[.int .i64 10, .int .i64 2, .slice (some ⟨n + 3, 0, none⟩) 2 2, .slice (some ⟨n + 4, 0, none⟩) 2 2, .slice (some ⟨n + 5, 0, none⟩) 1 1] 26))
  generalize hw3 : w2.alloc (.cells #[.int .i64 10, .int .i64 2, .slice (some ⟨n + 3, 0, none⟩) 2 2, .slice (some ⟨n + 4, 0, none⟩) 2 2, .slice (some ⟨n + 5, 0, none⟩) 1 1] 26) = w3 at *
  clear hw3
  have M3 := hide (M2.out.grown A3.out)
  have G3 := hide (grownBy_trans G2.out A3.out)
  generalize hB : w2.heap.size = B at *
  have B3 := hide B3'.out
  clear hB A3 M2 B3'
  have f0 : w3.cell? ⟨B, 0, none⟩ = some (.int .i64 10) := blk_cell B3.out 0
  have f1 : w3.cell? ⟨B, 1, none⟩ = some (.int .i64 2) := blk_cell B3.out 1
  have f2 : w3.cell? ⟨B, 2, none⟩ = some (.slice (some ⟨n + 3, 0, none⟩) 2 2) := blk_cell B3.out 2
  have f3 : w3.cell? ⟨B, 3, none⟩ = some (.slice (some ⟨n + 4, 0, none⟩) 2 2) := blk_cell B3.out 3
  have f4 : w3.cell? ⟨B, 4, none⟩ = some (.slice (some ⟨n + 5, 0, none⟩) 1 1) := blk_cell B3.out 4
  have j0 : w3.cell? ⟨n + 5, 2, none⟩ = some (.int .i64 (1)) := blk_cell M3.out.bo 2
  have k0 : w3.frozen? ⟨n + 5, 2, none⟩ = false := blk_free M3.out.bo 2
  have hne1 : n + 5 ≠ B := by omega
  have hne2 : B ≠ n + 5 := by omega
  have M4 := hide (M3.out.seto 2 (.int .i64 (0)) ⟨1, 0, 0, 2⟩ rfl)
  have G4 := hide (grown_set_new (j := 2) (u := .int .i64 (0)) (R := n + 5) (by have := HN.out; omega) G3.out)
  have B4 := hide (blk_other (j := 2) (u := .int .i64 (0)) (b := n + 5) B3.out (by omega))
  have HCF := hide (show ConfAt n _ _ ⟨10, 2, plainP, [px0, px1], [⟨1, 0, 0, 2⟩]⟩ from M4.out.conf 10 2)
  go_wp2_with (first | fail)
  refine (check_any _ ⟨10, 2, plainP, [px0, px1], [⟨1, 0, 0, 2⟩]⟩ _ (HT.out.grown G4.out) HCF.out).mono ?_; rintro e w5 ⟨rfl, hg⟩
  rw [HCK.out]
  have G5 := hide (grownBy_trans G4.out hg)
  have C5 := hide (ConfAt.grown HCF.out hg)
  have B5 := hide (box_grown B4.out hg (by simp))
  clear hg
  have g0 : w5.cell? ⟨B, 0, none⟩ = some (.int .i64 10) := blk_cell B5.out 0
  have g1 : w5.cell? ⟨B, 1, none⟩ = some (.int .i64 2) := blk_cell B5.out 1
  have g2 : w5.cell? ⟨B, 2, none⟩ = some (.slice (some ⟨n + 3, 0, none⟩) 2 2) := blk_cell B5.out 2
  have g3 : w5.cell? ⟨B, 3, none⟩ = some (.slice (some ⟨n + 4, 0, none⟩) 2 2) := blk_cell B5.out 3
  have g4 : w5.cell? ⟨B, 4, none⟩ = some (.slice (some ⟨n + 5, 0, none⟩) 1 1) := blk_cell B5.out 4
  have HPS := hide (putS_bad HCK.out (by decide))
  go_wp2_with (first | fail)
  refine (put_any _ ⟨10, 2, plainP, [px0, px1], [⟨1, 0, 0, 2⟩]⟩ _ (HT.out.grown G5.out) C5.out).mono ?_; rintro e w6 ⟨rfl, hg⟩
  rw [HPS.out, HCK.out]
  have G6 := hide (grownBy_trans G5.out hg)
  clear hg
  go_wp2_with (first | (go_at_call 15; refine (num_any _ _).mono ?_; rintro e w' ⟨rfl, rfl⟩))
  go_ret
  exact ⟨rfl, G6.out⟩

set_option maxRecDepth 100000 in
set_option maxHeartbeats 2000000 in
theorem win_9 (a x : Int) (hk : (IntKind.u64.wrap a).tmod 12 = 9) (w : World) (hT : Tab w) :
    Calls Tryd.prog 7 #[.int .i64 a, .int .i64 x] w fun e w' => e = .returned (.bool true) ∧ w.grownBy w' none := by
  have HT := hide hT
  have CA := hide (awake_any w hT)
  clear hT
  obtain ⟨m, m0, m1, e1⟩ := and63 x
  have HCK : Hid (checkN ⟨10, 2, plainP, [px0, px1], [⟨1, 0, 1, 8 + (1 + m)⟩]⟩ = 505) := hide (chkO [⟨1, 0, 1, 8 + (1 + m)⟩] (portsB_bad 0 (by simp) (by simp [portB, portAt, sizeB, isLevelB, isPartB]; omega)))
  go_enter Tryd.func7, Tryd.ntmps7
  go_wp2_with (first | fail)
  refine CA.out.mono ?_; rintro e w1 ⟨rfl, hg⟩
  have G1 := hide hg
  clear hg CA
  go_wp2_with (first | fail)
  refine (plain_any w1).mono ?_; rintro e w2 ⟨n, hn, rfl, hm, hg⟩
  have M2 := hide hm
  have G2 := hide (grownBy_trans G1.out hg)
  have hn2 := hm.lt
  have HN := hide (show w.heap.size ≤ n by have := G1.out.size; omega)
  clear hm hg
  go_upto_region 4 with fail
  have A3 := hide (World.grownBy_alloc w2 (.cells #[.int .i64 10, .int .i64 2, .slice (some ⟨n + 3, 0, none⟩) 2 2, .slice (some ⟨n + 4, 0, none⟩) 2 2, .slice (some ⟨n + 5, 0, none⟩) 1 1] 26) none)
  have B3' := hide (heap_alloc_new w2 (.cells #[.int .i64 10, .int .i64 2, .slice (some ⟨n + 3, 0, none⟩) 2 2, .slice (some ⟨n + 4, 0, none⟩) 2 2, .slice (some ⟨n + 5, 0, none⟩) 1 1] 26))
  generalize hw3 : w2.alloc (.cells #[.int .i64 10, .int .i64 2, .slice (some ⟨n + 3, 0, none⟩) 2 2, .slice (some ⟨n + 4, 0, none⟩) 2 2, .slice (some ⟨n + 5, 0, none⟩) 1 1] 26) = w3 at *
  clear hw3
  have M3 := hide (M2.out.grown A3.out)
  have G3 := hide (grownBy_trans G2.out A3.out)
  generalize hB : w2.heap.size = B at *
  have B3 := hide B3'.out
  clear hB A3 M2 B3'
  have f0 : w3.cell? ⟨B, 0, none⟩ = some (.int .i64 10) := blk_cell B3.out 0
  have f1 : w3.cell? ⟨B, 1, none⟩ = some (.int .i64 2) := blk_cell B3.out 1
  have f2 : w3.cell? ⟨B, 2, none⟩ = some (.slice (some ⟨n + 3, 0, none⟩) 2 2) := blk_cell B3.out 2
  have f3 : w3.cell? ⟨B, 3, none⟩ = some (.slice (some ⟨n + 4, 0, none⟩) 2 2) := blk_cell B3.out 3
  have f4 : w3.cell? ⟨B, 4, none⟩ = some (.slice (some ⟨n + 5, 0, none⟩) 1 1) := blk_cell B3.out 4
  have j0 : w3.cell? ⟨n + 5, 3, none⟩ = some (.int .i64 (2)) := blk_cell M3.out.bo 3
  have k0 : w3.frozen? ⟨n + 5, 3, none⟩ = false := blk_free M3.out.bo 3
  have hne1 : n + 5 ≠ B := by omega
  have hne2 : B ≠ n + 5 := by omega
  have M4 := hide (M3.out.seto 3 (.int .i64 (8 + (1 + m))) ⟨1, 0, 1, 8 + (1 + m)⟩ rfl)
  have G4 := hide (grown_set_new (j := 3) (u := .int .i64 (8 + (1 + m))) (R := n + 5) (by have := HN.out; omega) G3.out)
  have B4 := hide (blk_other (j := 3) (u := .int .i64 (8 + (1 + m))) (b := n + 5) B3.out (by omega))
  have HCF := hide (show ConfAt n _ _ ⟨10, 2, plainP, [px0, px1], [⟨1, 0, 1, 8 + (1 + m)⟩]⟩ from M4.out.conf 10 2)
  go_wp2_with (first | fail)
  refine (check_any _ ⟨10, 2, plainP, [px0, px1], [⟨1, 0, 1, 8 + (1 + m)⟩]⟩ _ (HT.out.grown G4.out) HCF.out).mono ?_; rintro e w5 ⟨rfl, hg⟩
  rw [HCK.out]
  have G5 := hide (grownBy_trans G4.out hg)
  have C5 := hide (ConfAt.grown HCF.out hg)
  have B5 := hide (box_grown B4.out hg (by simp))
  clear hg
  have g0 : w5.cell? ⟨B, 0, none⟩ = some (.int .i64 10) := blk_cell B5.out 0
  have g1 : w5.cell? ⟨B, 1, none⟩ = some (.int .i64 2) := blk_cell B5.out 1
  have g2 : w5.cell? ⟨B, 2, none⟩ = some (.slice (some ⟨n + 3, 0, none⟩) 2 2) := blk_cell B5.out 2
  have g3 : w5.cell? ⟨B, 3, none⟩ = some (.slice (some ⟨n + 4, 0, none⟩) 2 2) := blk_cell B5.out 3
  have g4 : w5.cell? ⟨B, 4, none⟩ = some (.slice (some ⟨n + 5, 0, none⟩) 1 1) := blk_cell B5.out 4
  have HPS := hide (putS_bad HCK.out (by decide))
  go_wp2_with (first | fail)
  refine (put_any _ ⟨10, 2, plainP, [px0, px1], [⟨1, 0, 1, 8 + (1 + m)⟩]⟩ _ (HT.out.grown G5.out) C5.out).mono ?_; rintro e w6 ⟨rfl, hg⟩
  rw [HPS.out, HCK.out]
  have G6 := hide (grownBy_trans G5.out hg)
  clear hg
  go_wp2_with (first | (go_at_call 15; refine (num_any _ _).mono ?_; rintro e w' ⟨rfl, rfl⟩))
  go_ret
  exact ⟨rfl, G6.out⟩

set_option maxRecDepth 100000 in
set_option maxHeartbeats 2000000 in
theorem win_10 (a x : Int) (hk : (IntKind.u64.wrap a).tmod 12 = 10) (w : World) (hT : Tab w) :
    Calls Tryd.prog 7 #[.int .i64 a, .int .i64 x] w fun e w' => e = .returned (.bool true) ∧ w.grownBy w' none := by
  have HT := hide hT
  have CA := hide (awake_any w hT)
  clear hT
  obtain ⟨m, m0, m1, e1⟩ := and63 x
  have HCK : Hid (checkN ⟨10, 2, plainP, [px0, px1], [⟨1 + (1 + m), 0, 1, 2⟩]⟩ = 505) := hide (chkO [⟨1 + (1 + m), 0, 1, 2⟩] (portsB_bad 0 (by simp) (by simp [portB, portAt, sizeB, isLevelB, isPartB]; omega)))
  go_enter Tryd.func7, Tryd.ntmps7
  go_wp2_with (first | fail)
  refine CA.out.mono ?_; rintro e w1 ⟨rfl, hg⟩
  have G1 := hide hg
  clear hg CA
  go_wp2_with (first | fail)
  refine (plain_any w1).mono ?_; rintro e w2 ⟨n, hn, rfl, hm, hg⟩
  have M2 := hide hm
  have G2 := hide (grownBy_trans G1.out hg)
  have hn2 := hm.lt
  have HN := hide (show w.heap.size ≤ n by have := G1.out.size; omega)
  clear hm hg
  go_upto_region 4 with fail
  have A3 := hide (World.grownBy_alloc w2 (.cells #[.int .i64 10, .int .i64 2, .slice (some ⟨n + 3, 0, none⟩) 2 2, .slice (some ⟨n + 4, 0, none⟩) 2 2, .slice (some ⟨n + 5, 0, none⟩) 1 1] 26) none)
  have B3' := hide (heap_alloc_new w2 (.cells #[.int .i64 10, .int .i64 2, .slice (some ⟨n + 3, 0, none⟩) 2 2, .slice (some ⟨n + 4, 0, none⟩) 2 2, .slice (some ⟨n + 5, 0, none⟩) 1 1] 26))
  generalize hw3 : w2.alloc (.cells #[.int .i64 10, .int .i64 2, .slice (some ⟨n + 3, 0, none⟩) 2 2, .slice (some ⟨n + 4, 0, none⟩) 2 2, .slice (some ⟨n + 5, 0, none⟩) 1 1] 26) = w3 at *
  clear hw3
  have M3 := hide (M2.out.grown A3.out)
  have G3 := hide (grownBy_trans G2.out A3.out)
  generalize hB : w2.heap.size = B at *
  have B3 := hide B3'.out
  clear hB A3 M2 B3'
  have f0 : w3.cell? ⟨B, 0, none⟩ = some (.int .i64 10) := blk_cell B3.out 0
  have f1 : w3.cell? ⟨B, 1, none⟩ = some (.int .i64 2) := blk_cell B3.out 1
  have f2 : w3.cell? ⟨B, 2, none⟩ = some (.slice (some ⟨n + 3, 0, none⟩) 2 2) := blk_cell B3.out 2
  have f3 : w3.cell? ⟨B, 3, none⟩ = some (.slice (some ⟨n + 4, 0, none⟩) 2 2) := blk_cell B3.out 3
  have f4 : w3.cell? ⟨B, 4, none⟩ = some (.slice (some ⟨n + 5, 0, none⟩) 1 1) := blk_cell B3.out 4
  have j0 : w3.cell? ⟨n + 5, 0, none⟩ = some (.int .i64 (1)) := blk_cell M3.out.bo 0
  have k0 : w3.frozen? ⟨n + 5, 0, none⟩ = false := blk_free M3.out.bo 0
  have hne1 : n + 5 ≠ B := by omega
  have hne2 : B ≠ n + 5 := by omega
  have M4 := hide (M3.out.seto 0 (.int .i64 (1 + (1 + m))) ⟨1 + (1 + m), 0, 1, 2⟩ rfl)
  have G4 := hide (grown_set_new (j := 0) (u := .int .i64 (1 + (1 + m))) (R := n + 5) (by have := HN.out; omega) G3.out)
  have B4 := hide (blk_other (j := 0) (u := .int .i64 (1 + (1 + m))) (b := n + 5) B3.out (by omega))
  have HCF := hide (show ConfAt n _ _ ⟨10, 2, plainP, [px0, px1], [⟨1 + (1 + m), 0, 1, 2⟩]⟩ from M4.out.conf 10 2)
  go_wp2_with (first | fail)
  refine (check_any _ ⟨10, 2, plainP, [px0, px1], [⟨1 + (1 + m), 0, 1, 2⟩]⟩ _ (HT.out.grown G4.out) HCF.out).mono ?_; rintro e w5 ⟨rfl, hg⟩
  rw [HCK.out]
  have G5 := hide (grownBy_trans G4.out hg)
  have C5 := hide (ConfAt.grown HCF.out hg)
  have B5 := hide (box_grown B4.out hg (by simp))
  clear hg
  have g0 : w5.cell? ⟨B, 0, none⟩ = some (.int .i64 10) := blk_cell B5.out 0
  have g1 : w5.cell? ⟨B, 1, none⟩ = some (.int .i64 2) := blk_cell B5.out 1
  have g2 : w5.cell? ⟨B, 2, none⟩ = some (.slice (some ⟨n + 3, 0, none⟩) 2 2) := blk_cell B5.out 2
  have g3 : w5.cell? ⟨B, 3, none⟩ = some (.slice (some ⟨n + 4, 0, none⟩) 2 2) := blk_cell B5.out 3
  have g4 : w5.cell? ⟨B, 4, none⟩ = some (.slice (some ⟨n + 5, 0, none⟩) 1 1) := blk_cell B5.out 4
  have HPS := hide (putS_bad HCK.out (by decide))
  go_wp2_with (first | fail)
  refine (put_any _ ⟨10, 2, plainP, [px0, px1], [⟨1 + (1 + m), 0, 1, 2⟩]⟩ _ (HT.out.grown G5.out) C5.out).mono ?_; rintro e w6 ⟨rfl, hg⟩
  rw [HPS.out, HCK.out]
  have G6 := hide (grownBy_trans G5.out hg)
  clear hg
  go_wp2_with (first | (go_at_call 15; refine (num_any _ _).mono ?_; rintro e w' ⟨rfl, rfl⟩))
  go_ret
  exact ⟨rfl, G6.out⟩

set_option maxRecDepth 100000 in
set_option maxHeartbeats 2000000 in
theorem win_11 (a x : Int) (hk : (IntKind.u64.wrap a).tmod 12 = 11) (w : World) (hT : Tab w) :
    Calls Tryd.prog 7 #[.int .i64 a, .int .i64 x] w fun e w' => e = .returned (.bool true) ∧ w.grownBy w' none := by
  have HT := hide hT
  have CA := hide (awake_any w hT)
  clear hT
  obtain ⟨m, m0, m1, e1⟩ := and63 x
  have HCK : Hid (checkN ⟨10, 2, plainP, [px0, px1], [⟨0, 0, 1, 2⟩]⟩ = 505) := hide (chkO [⟨0, 0, 1, 2⟩] (portsB_bad 0 (by simp) (by decide)))
  go_enter Tryd.func7, Tryd.ntmps7
  go_wp2_with (first | fail)
  refine CA.out.mono ?_; rintro e w1 ⟨rfl, hg⟩
  have G1 := hide hg
  clear hg CA
  go_wp2_with (first | fail)
  refine (plain_any w1).mono ?_; rintro e w2 ⟨n, hn, rfl, hm, hg⟩
  have M2 := hide hm
  have G2 := hide (grownBy_trans G1.out hg)
  have hn2 := hm.lt
  have HN := hide (show w.heap.size ≤ n by have := G1.out.size; omega)
  clear hm hg
  go_upto_region 4 with fail
  have A3 := hide (World.grownBy_alloc w2 (.cells #[.int .i64 10, .int .i64 2, .slice (some ⟨n + 3, 0, none⟩) 2 2, .slice (some ⟨n + 4, 0, none⟩) 2 2, .slice (some ⟨n + 5, 0, none⟩) 1 1] 26) none)
  have B3' := hide (heap_alloc_new w2 (.cells #[.int .i64 10, .int .i64 2, .slice (some ⟨n + 3, 0, none⟩) 2 2, .slice (some ⟨n + 4, 0, none⟩) 2 2, .slice (some ⟨n + 5, 0, none⟩) 1 1] 26))
  generalize hw3 : w2.alloc (.cells #[.int .i64 10, .int .i64 2, .slice (some ⟨n + 3, 0, none⟩) 2 2, .slice (some ⟨n + 4, 0, none⟩) 2 2, .slice (some ⟨n + 5, 0, none⟩) 1 1] 26) = w3 at *
  clear hw3
  have M3 := hide (M2.out.grown A3.out)
  have G3 := hide (grownBy_trans G2.out A3.out)
  generalize hB : w2.heap.size = B at *
  have B3 := hide B3'.out
  clear hB A3 M2 B3'
  have f0 : w3.cell? ⟨B, 0, none⟩ = some (.int .i64 10) := blk_cell B3.out 0
  have f1 : w3.cell? ⟨B, 1, none⟩ = some (.int .i64 2) := blk_cell B3.out 1
  have f2 : w3.cell? ⟨B, 2, none⟩ = some (.slice (some ⟨n + 3, 0, none⟩) 2 2) := blk_cell B3.out 2
  have f3 : w3.cell? ⟨B, 3, none⟩ = some (.slice (some ⟨n + 4, 0, none⟩) 2 2) := blk_cell B3.out 3
  have f4 : w3.cell? ⟨B, 4, none⟩ = some (.slice (some ⟨n + 5, 0, none⟩) 1 1) := blk_cell B3.out 4
  have j0 : w3.cell? ⟨n + 5, 0, none⟩ = some (.int .i64 (1)) := blk_cell M3.out.bo 0
  have k0 : w3.frozen? ⟨n + 5, 0, none⟩ = false := blk_free M3.out.bo 0
  have hne1 : n + 5 ≠ B := by omega
  have hne2 : B ≠ n + 5 := by omega
  have M4 := hide (M3.out.seto 0 (.int .i64 (0)) ⟨0, 0, 1, 2⟩ rfl)
  have G4 := hide (grown_set_new (j := 0) (u := .int .i64 (0)) (R := n + 5) (by have := HN.out; omega) G3.out)
  have B4 := hide (blk_other (j := 0) (u := .int .i64 (0)) (b := n + 5) B3.out (by omega))
  have HCF := hide (show ConfAt n _ _ ⟨10, 2, plainP, [px0, px1], [⟨0, 0, 1, 2⟩]⟩ from M4.out.conf 10 2)
  go_wp2_with (first | fail)
  refine (check_any _ ⟨10, 2, plainP, [px0, px1], [⟨0, 0, 1, 2⟩]⟩ _ (HT.out.grown G4.out) HCF.out).mono ?_; rintro e w5 ⟨rfl, hg⟩
  rw [HCK.out]
  have G5 := hide (grownBy_trans G4.out hg)
  have C5 := hide (ConfAt.grown HCF.out hg)
  have B5 := hide (box_grown B4.out hg (by simp))
  clear hg
  have g0 : w5.cell? ⟨B, 0, none⟩ = some (.int .i64 10) := blk_cell B5.out 0
  have g1 : w5.cell? ⟨B, 1, none⟩ = some (.int .i64 2) := blk_cell B5.out 1
  have g2 : w5.cell? ⟨B, 2, none⟩ = some (.slice (some ⟨n + 3, 0, none⟩) 2 2) := blk_cell B5.out 2
  have g3 : w5.cell? ⟨B, 3, none⟩ = some (.slice (some ⟨n + 4, 0, none⟩) 2 2) := blk_cell B5.out 3
  have g4 : w5.cell? ⟨B, 4, none⟩ = some (.slice (some ⟨n + 5, 0, none⟩) 1 1) := blk_cell B5.out 4
  have HPS := hide (putS_bad HCK.out (by decide))
  go_wp2_with (first | fail)
  refine (put_any _ ⟨10, 2, plainP, [px0, px1], [⟨0, 0, 1, 2⟩]⟩ _ (HT.out.grown G5.out) C5.out).mono ?_; rintro e w6 ⟨rfl, hg⟩
  rw [HPS.out, HCK.out]
  have G6 := hide (grownBy_trans G5.out hg)
  clear hg
  go_wp2_with (first | (go_at_call 15; refine (num_any _ _).mono ?_; rintro e w' ⟨rfl, rfl⟩))
  go_ret
  exact ⟨rfl, G6.out⟩


#print axioms win_0
end Go.Proofs.YtgaegggiehhcpaaDoor
