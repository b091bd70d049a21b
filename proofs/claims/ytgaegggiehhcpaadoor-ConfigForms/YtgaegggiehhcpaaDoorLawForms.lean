/- The walk of the statement ConfigForms: frames, parts, tasks and programs that may not be; proved over the translation. -/
import Derived.Test.YtgaegggiehhcpaaDoorLawWin2
namespace Go.Proofs.YtgaegggiehhcpaaDoor
open Go.RowKit
attribute [local go_sem] alloc_drewN setCell_drewN

theorem chkF (f q : Int) (ps : List PartV) (ws : List WinV) (os : List PortV) (h : frameB f q = false) : checkN ⟨f, q, ps, ws, os⟩ = 501 := by simp [checkN, h]
theorem chkP (ps : List PartV) (ws : List WinV) (os : List PortV) (h : partsB ps = false) : checkN ⟨10, 2, ps, ws, os⟩ = 502 := by simp [checkN, ck1, h]
theorem chkT (ps : List PartV) (ws : List WinV) (os : List PortV) (h1 : partsB ps = true) (h : allB ps.length (fun i => tasksB (partAt ps i)) = false) : checkN ⟨10, 2, ps, ws, os⟩ = 503 := by simp [checkN, ck1, h1, h]
theorem plain_ok : checkN ⟨10, 2, plainP, [px0, px1], [po0]⟩ = 0 := aw1

set_option maxRecDepth 100000 in
set_option maxHeartbeats 2000000 in
theorem forms_0 (a x : Int) (hk : (IntKind.u64.wrap a).tmod 13 = 0) (w : World) (hT : Tab w) :
    Calls Tryd.prog 5 #[.int .i64 a, .int .i64 x] w fun e w' => e = .returned (.bool true) ∧ w.grownBy w' none := by
  have HT := hide hT
  have CA := hide (awake_any w hT)
  clear hT
  obtain ⟨m, m0, m1, e1⟩ := and63 x
  have HCK : Hid (checkN ⟨1 - (1 + m), 2, plainP, [px0, px1], [po0]⟩ = 501) := hide (chkF _ _ _ _ _ (by simp [frameB]; omega))
  go_enter Tryd.func5, Tryd.ntmps5
  go_wp2_with (first | fail)
  refine CA.out.mono ?_; rintro e w1 ⟨rfl, hg⟩
  have G1 := hide hg
  clear hg CA
  go_wp2_with (first | fail)
  refine (plain_any w1).mono ?_; rintro e w2 ⟨n, hn, rfl, hm, hg⟩
  have M2 := hide hm
  have G2 := hide (grownBy_trans G1.out hg)
  have hn2 := hm.lt
  have HN := hide (show w.heap.size ≤ n by have := G1.out.size; omega)
  clear hm hg
  have A2 := hide (World.grownBy_alloc w2 (.cells #[.int .i64 10, .int .i64 2, .slice (some ⟨n + 3, 0, none⟩) 2 2, .slice (some ⟨n + 4, 0, none⟩) 2 2, .slice (some ⟨n + 5, 0, none⟩) 1 1] 26) none)
  have B2 := hide (heap_alloc_new w2 (.cells #[.int .i64 10, .int .i64 2, .slice (some ⟨n + 3, 0, none⟩) 2 2, .slice (some ⟨n + 4, 0, none⟩) 2 2, .slice (some ⟨n + 5, 0, none⟩) 1 1] 26))
  go_wp2_with (first | fail)
  refine (check_any _ ⟨10, 2, plainP, [px0, px1], [po0]⟩ _ (HT.out.grown (grownBy_trans G2.out A2.out)) ((M2.out.grown A2.out).conf 10 2)).mono ?_; rintro e w3 ⟨rfl, hg⟩
  rw [plain_ok]
  have G3 := hide (grownBy_trans G2.out (grownBy_trans A2.out hg))
  have M3 := hide (M2.out.grown (grownBy_trans A2.out hg))
  have B3 := hide (box_grown B2.out hg (by simp))
  clear hg A2 B2 M2
  generalize w2.heap.size = B at *
  have hB := box_lt B3.out
  have hBn : B ≠ w3.heap.size := by omega
  have hwb : w.heap.size ≤ B := by have := HN.out; omega
  have kb := blk_free B3.out
  have f0 : w3.cell? ⟨B, 0, none⟩ = some (.int .i64 10) := blk_cell B3.out 0
  have f1 : w3.cell? ⟨B, 1, none⟩ = some (.int .i64 2) := blk_cell B3.out 1
  have f2 : w3.cell? ⟨B, 2, none⟩ = some (.slice (some ⟨n + 3, 0, none⟩) 2 2) := blk_cell B3.out 2
  have f3 : w3.cell? ⟨B, 3, none⟩ = some (.slice (some ⟨n + 4, 0, none⟩) 2 2) := blk_cell B3.out 3
  have f4 : w3.cell? ⟨B, 4, none⟩ = some (.slice (some ⟨n + 5, 0, none⟩) 1 1) := blk_cell B3.out 4
  have G4 := hide (grown_set_new (j := 0) (u := .int .i64 (1 - (1 + m))) (R := B) hwb G3.out)
  have B4 := hide (blk_set (j := 0) (u := .int .i64 (1 - (1 + m))) B3.out (cs' := #[.int .i64 (1 - (1 + m)), .int .i64 2, .slice (some ⟨n + 3, 0, none⟩) 2 2, .slice (some ⟨n + 4, 0, none⟩) 2 2, .slice (some ⟨n + 5, 0, none⟩) 1 1]) rfl)
  have M4 := hide (M3.out.above B 0 (.int .i64 (1 - (1 + m))) (by omega))
  have HCF := hide (show ConfAt n _ _ ⟨1 - (1 + m), 2, plainP, [px0, px1], [po0]⟩ from M4.out.conf (1 - (1 + m)) (2))
  go_wp2_with (first | fail)
  refine (check_any _ ⟨1 - (1 + m), 2, plainP, [px0, px1], [po0]⟩ _ (HT.out.grown G4.out) HCF.out).mono ?_; rintro e w5 ⟨rfl, hg⟩
  rw [HCK.out]
  have G5 := hide (grownBy_trans G4.out hg)
  have C5 := hide (ConfAt.grown HCF.out hg)
  have B5 := hide (box_grown B4.out hg (by simp))
  clear hg
  have g0 : w5.cell? ⟨B, 0, none⟩ = some (.int .i64 (1 - (1 + m))) := blk_cell B5.out 0
  have g1 : w5.cell? ⟨B, 1, none⟩ = some (.int .i64 2) := blk_cell B5.out 1
  have g2 : w5.cell? ⟨B, 2, none⟩ = some (.slice (some ⟨n + 3, 0, none⟩) 2 2) := blk_cell B5.out 2
  have g3 : w5.cell? ⟨B, 3, none⟩ = some (.slice (some ⟨n + 4, 0, none⟩) 2 2) := blk_cell B5.out 3
  have g4 : w5.cell? ⟨B, 4, none⟩ = some (.slice (some ⟨n + 5, 0, none⟩) 1 1) := blk_cell B5.out 4
  have HPS := hide (putS_bad HCK.out (by decide))
  go_wp2_with (first | fail)
  refine (put_any _ ⟨1 - (1 + m), 2, plainP, [px0, px1], [po0]⟩ _ (HT.out.grown G5.out) C5.out).mono ?_; rintro e w6 ⟨rfl, hg⟩
  rw [HPS.out, HCK.out]
  have G6 := hide (grownBy_trans G5.out hg)
  clear hg
  go_wp2_with (first | (go_at_call 15; refine (num_any _ _).mono ?_; rintro e w' ⟨rfl, rfl⟩))
  go_ret
  exact ⟨rfl, G6.out⟩

set_option maxRecDepth 100000 in
set_option maxHeartbeats 2000000 in
theorem forms_1 (a x : Int) (hk : (IntKind.u64.wrap a).tmod 13 = 1) (w : World) (hT : Tab w) :
    Calls Tryd.prog 5 #[.int .i64 a, .int .i64 x] w fun e w' => e = .returned (.bool true) ∧ w.grownBy w' none := by
  have HT := hide hT
  have CA := hide (awake_any w hT)
  clear hT
  obtain ⟨m, m0, m1, e1⟩ := and63 x
  have HCK : Hid (checkN ⟨256 + (1 + m), 2, plainP, [px0, px1], [po0]⟩ = 501) := hide (chkF _ _ _ _ _ (by simp [frameB]; omega))
  go_enter Tryd.func5, Tryd.ntmps5
  go_wp2_with (first | fail)
  refine CA.out.mono ?_; rintro e w1 ⟨rfl, hg⟩
  have G1 := hide hg
  clear hg CA
  go_wp2_with (first | fail)
  refine (plain_any w1).mono ?_; rintro e w2 ⟨n, hn, rfl, hm, hg⟩
  have M2 := hide hm
  have G2 := hide (grownBy_trans G1.out hg)
  have hn2 := hm.lt
  have HN := hide (show w.heap.size ≤ n by have := G1.out.size; omega)
  clear hm hg
  have A2 := hide (World.grownBy_alloc w2 (.cells #[.int .i64 10, .int .i64 2, .slice (some ⟨n + 3, 0, none⟩) 2 2, .slice (some ⟨n + 4, 0, none⟩) 2 2, .slice (some ⟨n + 5, 0, none⟩) 1 1] 26) none)
  have B2 := hide (heap_alloc_new w2 (.cells #[.int .i64 10, .int .i64 2, .slice (some ⟨n + 3, 0, none⟩) 2 2, .slice (some ⟨n + 4, 0, none⟩) 2 2, .slice (some ⟨n + 5, 0, none⟩) 1 1] 26))
  go_wp2_with (first | fail)
  refine (check_any _ ⟨10, 2, plainP, [px0, px1], [po0]⟩ _ (HT.out.grown (grownBy_trans G2.out A2.out)) ((M2.out.grown A2.out).conf 10 2)).mono ?_; rintro e w3 ⟨rfl, hg⟩
  rw [plain_ok]
  have G3 := hide (grownBy_trans G2.out (grownBy_trans A2.out hg))
  have M3 := hide (M2.out.grown (grownBy_trans A2.out hg))
  have B3 := hide (box_grown B2.out hg (by simp))
  clear hg A2 B2 M2
  generalize w2.heap.size = B at *
  have hB := box_lt B3.out
  have hBn : B ≠ w3.heap.size := by omega
  have hwb : w.heap.size ≤ B := by have := HN.out; omega
  have kb := blk_free B3.out
  have f0 : w3.cell? ⟨B, 0, none⟩ = some (.int .i64 10) := blk_cell B3.out 0
  have f1 : w3.cell? ⟨B, 1, none⟩ = some (.int .i64 2) := blk_cell B3.out 1
  have f2 : w3.cell? ⟨B, 2, none⟩ = some (.slice (some ⟨n + 3, 0, none⟩) 2 2) := blk_cell B3.out 2
  have f3 : w3.cell? ⟨B, 3, none⟩ = some (.slice (some ⟨n + 4, 0, none⟩) 2 2) := blk_cell B3.out 3
  have f4 : w3.cell? ⟨B, 4, none⟩ = some (.slice (some ⟨n + 5, 0, none⟩) 1 1) := blk_cell B3.out 4
  have G4 := hide (grown_set_new (j := 0) (u := .int .i64 (256 + (1 + m))) (R := B) hwb G3.out)
  have B4 := hide (blk_set (j := 0) (u := .int .i64 (256 + (1 + m))) B3.out (cs' := #[.int .i64 (256 + (1 + m)), .int .i64 2, .slice (some ⟨n + 3, 0, none⟩) 2 2, .slice (some ⟨n + 4, 0, none⟩) 2 2, .slice (some ⟨n + 5, 0, none⟩) 1 1]) rfl)
  have M4 := hide (M3.out.above B 0 (.int .i64 (256 + (1 + m))) (by omega))
  have HCF := hide (show ConfAt n _ _ ⟨256 + (1 + m), 2, plainP, [px0, px1], [po0]⟩ from M4.out.conf (256 + (1 + m)) (2))
  go_wp2_with (first | fail)
  refine (check_any _ ⟨256 + (1 + m), 2, plainP, [px0, px1], [po0]⟩ _ (HT.out.grown G4.out) HCF.out).mono ?_; rintro e w5 ⟨rfl, hg⟩
  rw [HCK.out]
  have G5 := hide (grownBy_trans G4.out hg)
  have C5 := hide (ConfAt.grown HCF.out hg)
  have B5 := hide (box_grown B4.out hg (by simp))
  clear hg
  have g0 : w5.cell? ⟨B, 0, none⟩ = some (.int .i64 (256 + (1 + m))) := blk_cell B5.out 0
  have g1 : w5.cell? ⟨B, 1, none⟩ = some (.int .i64 2) := blk_cell B5.out 1
  have g2 : w5.cell? ⟨B, 2, none⟩ = some (.slice (some ⟨n + 3, 0, none⟩) 2 2) := blk_cell B5.out 2
  have g3 : w5.cell? ⟨B, 3, none⟩ = some (.slice (some ⟨n + 4, 0, none⟩) 2 2) := blk_cell B5.out 3
  have g4 : w5.cell? ⟨B, 4, none⟩ = some (.slice (some ⟨n + 5, 0, none⟩) 1 1) := blk_cell B5.out 4
  have HPS := hide (putS_bad HCK.out (by decide))
  go_wp2_with (first | fail)
  refine (put_any _ ⟨256 + (1 + m), 2, plainP, [px0, px1], [po0]⟩ _ (HT.out.grown G5.out) C5.out).mono ?_; rintro e w6 ⟨rfl, hg⟩
  rw [HPS.out, HCK.out]
  have G6 := hide (grownBy_trans G5.out hg)
  clear hg
  go_wp2_with (first | (go_at_call 15; refine (num_any _ _).mono ?_; rintro e w' ⟨rfl, rfl⟩))
  go_ret
  exact ⟨rfl, G6.out⟩

set_option maxRecDepth 100000 in
set_option maxHeartbeats 2000000 in
theorem forms_2 (a x : Int) (hk : (IntKind.u64.wrap a).tmod 13 = 2) (w : World) (hT : Tab w) :
    Calls Tryd.prog 5 #[.int .i64 a, .int .i64 x] w fun e w' => e = .returned (.bool true) ∧ w.grownBy w' none := by
  have HT := hide hT
  have CA := hide (awake_any w hT)
  clear hT
  obtain ⟨m, m0, m1, e1⟩ := and63 x
  have HCK : Hid (checkN ⟨10, 1 - (1 + m), plainP, [px0, px1], [po0]⟩ = 501) := hide (chkF _ _ _ _ _ (by simp [frameB]; omega))
  go_enter Tryd.func5, Tryd.ntmps5
  go_wp2_with (first | fail)
  refine CA.out.mono ?_; rintro e w1 ⟨rfl, hg⟩
  have G1 := hide hg
  clear hg CA
  go_wp2_with (first | fail)
  refine (plain_any w1).mono ?_; rintro e w2 ⟨n, hn, rfl, hm, hg⟩
  have M2 := hide hm
  have G2 := hide (grownBy_trans G1.out hg)
  have hn2 := hm.lt
  have HN := hide (show w.heap.size ≤ n by have := G1.out.size; omega)
  clear hm hg
  have A2 := hide (World.grownBy_alloc w2 (.cells #[.int .i64 10, .int .i64 2, .slice (some ⟨n + 3, 0, none⟩) 2 2, .slice (some ⟨n + 4, 0, none⟩) 2 2, .slice (some ⟨n + 5, 0, none⟩) 1 1] 26) none)
  have B2 := hide (heap_alloc_new w2 (.cells #[.int .i64 10, .int .i64 2, .slice (some ⟨n + 3, 0, none⟩) 2 2, .slice (some ⟨n + 4, 0, none⟩) 2 2, .slice (some ⟨n + 5, 0, none⟩) 1 1] 26))
  go_wp2_with (first | fail)
  refine (check_any _ ⟨10, 2, plainP, [px0, px1], [po0]⟩ _ (HT.out.grown (grownBy_trans G2.out A2.out)) ((M2.out.grown A2.out).conf 10 2)).mono ?_; rintro e w3 ⟨rfl, hg⟩
  rw [plain_ok]
  have G3 := hide (grownBy_trans G2.out (grownBy_trans A2.out hg))
  have M3 := hide (M2.out.grown (grownBy_trans A2.out hg))
  have B3 := hide (box_grown B2.out hg (by simp))
  clear hg A2 B2 M2
  generalize w2.heap.size = B at *
  have hB := box_lt B3.out
  have hBn : B ≠ w3.heap.size := by omega
  have hwb : w.heap.size ≤ B := by have := HN.out; omega
  have kb := blk_free B3.out
  have f0 : w3.cell? ⟨B, 0, none⟩ = some (.int .i64 10) := blk_cell B3.out 0
  have f1 : w3.cell? ⟨B, 1, none⟩ = some (.int .i64 2) := blk_cell B3.out 1
  have f2 : w3.cell? ⟨B, 2, none⟩ = some (.slice (some ⟨n + 3, 0, none⟩) 2 2) := blk_cell B3.out 2
  have f3 : w3.cell? ⟨B, 3, none⟩ = some (.slice (some ⟨n + 4, 0, none⟩) 2 2) := blk_cell B3.out 3
  have f4 : w3.cell? ⟨B, 4, none⟩ = some (.slice (some ⟨n + 5, 0, none⟩) 1 1) := blk_cell B3.out 4
  have G4 := hide (grown_set_new (j := 1) (u := .int .i64 (1 - (1 + m))) (R := B) hwb G3.out)
  have B4 := hide (blk_set (j := 1) (u := .int .i64 (1 - (1 + m))) B3.out (cs' := #[.int .i64 10, .int .i64 (1 - (1 + m)), .slice (some ⟨n + 3, 0, none⟩) 2 2, .slice (some ⟨n + 4, 0, none⟩) 2 2, .slice (some ⟨n + 5, 0, none⟩) 1 1]) rfl)
  have M4 := hide (M3.out.above B 1 (.int .i64 (1 - (1 + m))) (by omega))
  have HCF := hide (show ConfAt n _ _ ⟨10, 1 - (1 + m), plainP, [px0, px1], [po0]⟩ from M4.out.conf (10) (1 - (1 + m)))
  go_wp2_with (first | fail)
  refine (check_any _ ⟨10, 1 - (1 + m), plainP, [px0, px1], [po0]⟩ _ (HT.out.grown G4.out) HCF.out).mono ?_; rintro e w5 ⟨rfl, hg⟩
  rw [HCK.out]
  have G5 := hide (grownBy_trans G4.out hg)
  have C5 := hide (ConfAt.grown HCF.out hg)
  have B5 := hide (box_grown B4.out hg (by simp))
  clear hg
  have g0 : w5.cell? ⟨B, 0, none⟩ = some (.int .i64 10) := blk_cell B5.out 0
  have g1 : w5.cell? ⟨B, 1, none⟩ = some (.int .i64 (1 - (1 + m))) := blk_cell B5.out 1
  have g2 : w5.cell? ⟨B, 2, none⟩ = some (.slice (some ⟨n + 3, 0, none⟩) 2 2) := blk_cell B5.out 2
  have g3 : w5.cell? ⟨B, 3, none⟩ = some (.slice (some ⟨n + 4, 0, none⟩) 2 2) := blk_cell B5.out 3
  have g4 : w5.cell? ⟨B, 4, none⟩ = some (.slice (some ⟨n + 5, 0, none⟩) 1 1) := blk_cell B5.out 4
  have HPS := hide (putS_bad HCK.out (by decide))
  go_wp2_with (first | fail)
  refine (put_any _ ⟨10, 1 - (1 + m), plainP, [px0, px1], [po0]⟩ _ (HT.out.grown G5.out) C5.out).mono ?_; rintro e w6 ⟨rfl, hg⟩
  rw [HPS.out, HCK.out]
  have G6 := hide (grownBy_trans G5.out hg)
  clear hg
  go_wp2_with (first | (go_at_call 15; refine (num_any _ _).mono ?_; rintro e w' ⟨rfl, rfl⟩))
  go_ret
  exact ⟨rfl, G6.out⟩

set_option maxRecDepth 100000 in
set_option maxHeartbeats 2000000 in
theorem forms_3 (a x : Int) (hk : (IntKind.u64.wrap a).tmod 13 = 3) (w : World) (hT : Tab w) :
    Calls Tryd.prog 5 #[.int .i64 a, .int .i64 x] w fun e w' => e = .returned (.bool true) ∧ w.grownBy w' none := by
  have HT := hide hT
  have CA := hide (awake_any w hT)
  clear hT
  obtain ⟨m, m0, m1, e1⟩ := and63 x
  have HCK : Hid (checkN ⟨10, 16 + (1 + m), plainP, [px0, px1], [po0]⟩ = 501) := hide (chkF _ _ _ _ _ (by simp [frameB]; omega))
  go_enter Tryd.func5, Tryd.ntmps5
  go_wp2_with (first | fail)
  refine CA.out.mono ?_; rintro e w1 ⟨rfl, hg⟩
  have G1 := hide hg
  clear hg CA
  go_wp2_with (first | fail)
  refine (plain_any w1).mono ?_; rintro e w2 ⟨n, hn, rfl, hm, hg⟩
  have M2 := hide hm
  have G2 := hide (grownBy_trans G1.out hg)
  have hn2 := hm.lt
  have HN := hide (show w.heap.size ≤ n by have := G1.out.size; omega)
  clear hm hg
  have A2 := hide (World.grownBy_alloc w2 (.cells #[.int .i64 10, .int .i64 2, .slice (some ⟨n + 3, 0, none⟩) 2 2, .slice (some ⟨n + 4, 0, none⟩) 2 2, .slice (some ⟨n + 5, 0, none⟩) 1 1] 26) none)
  have B2 := hide (heap_alloc_new w2 (.cells #[.int .i64 10, .int .i64 2, .slice (some ⟨n + 3, 0, none⟩) 2 2, .slice (some ⟨n + 4, 0, none⟩) 2 2, .slice (some ⟨n + 5, 0, none⟩) 1 1] 26))
  go_wp2_with (first | fail)
  refine (check_any _ ⟨10, 2, plainP, [px0, px1], [po0]⟩ _ (HT.out.grown (grownBy_trans G2.out A2.out)) ((M2.out.grown A2.out).conf 10 2)).mono ?_; rintro e w3 ⟨rfl, hg⟩
  rw [plain_ok]
  have G3 := hide (grownBy_trans G2.out (grownBy_trans A2.out hg))
  have M3 := hide (M2.out.grown (grownBy_trans A2.out hg))
  have B3 := hide (box_grown B2.out hg (by simp))
  clear hg A2 B2 M2
  generalize w2.heap.size = B at *
  have hB := box_lt B3.out
  have hBn : B ≠ w3.heap.size := by omega
  have hwb : w.heap.size ≤ B := by have := HN.out; omega
  have kb := blk_free B3.out
  have f0 : w3.cell? ⟨B, 0, none⟩ = some (.int .i64 10) := blk_cell B3.out 0
  have f1 : w3.cell? ⟨B, 1, none⟩ = some (.int .i64 2) := blk_cell B3.out 1
  have f2 : w3.cell? ⟨B, 2, none⟩ = some (.slice (some ⟨n + 3, 0, none⟩) 2 2) := blk_cell B3.out 2
  have f3 : w3.cell? ⟨B, 3, none⟩ = some (.slice (some ⟨n + 4, 0, none⟩) 2 2) := blk_cell B3.out 3
  have f4 : w3.cell? ⟨B, 4, none⟩ = some (.slice (some ⟨n + 5, 0, none⟩) 1 1) := blk_cell B3.out 4
  have G4 := hide (grown_set_new (j := 1) (u := .int .i64 (16 + (1 + m))) (R := B) hwb G3.out)
  have B4 := hide (blk_set (j := 1) (u := .int .i64 (16 + (1 + m))) B3.out (cs' := #[.int .i64 10, .int .i64 (16 + (1 + m)), .slice (some ⟨n + 3, 0, none⟩) 2 2, .slice (some ⟨n + 4, 0, none⟩) 2 2, .slice (some ⟨n + 5, 0, none⟩) 1 1]) rfl)
  have M4 := hide (M3.out.above B 1 (.int .i64 (16 + (1 + m))) (by omega))
  have HCF := hide (show ConfAt n _ _ ⟨10, 16 + (1 + m), plainP, [px0, px1], [po0]⟩ from M4.out.conf (10) (16 + (1 + m)))
  go_wp2_with (first | fail)
  refine (check_any _ ⟨10, 16 + (1 + m), plainP, [px0, px1], [po0]⟩ _ (HT.out.grown G4.out) HCF.out).mono ?_; rintro e w5 ⟨rfl, hg⟩
  rw [HCK.out]
  have G5 := hide (grownBy_trans G4.out hg)
  have C5 := hide (ConfAt.grown HCF.out hg)
  have B5 := hide (box_grown B4.out hg (by simp))
  clear hg
  have g0 : w5.cell? ⟨B, 0, none⟩ = some (.int .i64 10) := blk_cell B5.out 0
  have g1 : w5.cell? ⟨B, 1, none⟩ = some (.int .i64 (16 + (1 + m))) := blk_cell B5.out 1
  have g2 : w5.cell? ⟨B, 2, none⟩ = some (.slice (some ⟨n + 3, 0, none⟩) 2 2) := blk_cell B5.out 2
  have g3 : w5.cell? ⟨B, 3, none⟩ = some (.slice (some ⟨n + 4, 0, none⟩) 2 2) := blk_cell B5.out 3
  have g4 : w5.cell? ⟨B, 4, none⟩ = some (.slice (some ⟨n + 5, 0, none⟩) 1 1) := blk_cell B5.out 4
  have HPS := hide (putS_bad HCK.out (by decide))
  go_wp2_with (first | fail)
  refine (put_any _ ⟨10, 16 + (1 + m), plainP, [px0, px1], [po0]⟩ _ (HT.out.grown G5.out) C5.out).mono ?_; rintro e w6 ⟨rfl, hg⟩
  rw [HPS.out, HCK.out]
  have G6 := hide (grownBy_trans G5.out hg)
  clear hg
  go_wp2_with (first | (go_at_call 15; refine (num_any _ _).mono ?_; rintro e w' ⟨rfl, rfl⟩))
  go_ret
  exact ⟨rfl, G6.out⟩

set_option maxRecDepth 100000 in
set_option maxHeartbeats 2000000 in
theorem forms_4 (a x : Int) (hk : (IntKind.u64.wrap a).tmod 13 = 4) (w : World) (hT : Tab w) :
    Calls Tryd.prog 5 #[.int .i64 a, .int .i64 x] w fun e w' => e = .returned (.bool true) ∧ w.grownBy w' none := by
  have HT := hide hT
  have CA := hide (awake_any w hT)
  clear hT
  obtain ⟨m, m0, m1, e1⟩ := and63 x
  have HCK : Hid (checkN ⟨10, 2, [], [px0, px1], [po0]⟩ = 502) := hide (chkP _ _ _ (by decide))
  go_enter Tryd.func5, Tryd.ntmps5
  go_wp2_with (first | fail)
  refine CA.out.mono ?_; rintro e w1 ⟨rfl, hg⟩
  have G1 := hide hg
  clear hg CA
  go_wp2_with (first | fail)
  refine (plain_any w1).mono ?_; rintro e w2 ⟨n, hn, rfl, hm, hg⟩
  have M2 := hide hm
  have G2 := hide (grownBy_trans G1.out hg)
  have hn2 := hm.lt
  have HN := hide (show w.heap.size ≤ n by have := G1.out.size; omega)
  clear hm hg
  have A2 := hide (World.grownBy_alloc w2 (.cells #[.int .i64 10, .int .i64 2, .slice (some ⟨n + 3, 0, none⟩) 2 2, .slice (some ⟨n + 4, 0, none⟩) 2 2, .slice (some ⟨n + 5, 0, none⟩) 1 1] 26) none)
  have B2 := hide (heap_alloc_new w2 (.cells #[.int .i64 10, .int .i64 2, .slice (some ⟨n + 3, 0, none⟩) 2 2, .slice (some ⟨n + 4, 0, none⟩) 2 2, .slice (some ⟨n + 5, 0, none⟩) 1 1] 26))
  go_wp2_with (first | fail)
  refine (check_any _ ⟨10, 2, plainP, [px0, px1], [po0]⟩ _ (HT.out.grown (grownBy_trans G2.out A2.out)) ((M2.out.grown A2.out).conf 10 2)).mono ?_; rintro e w3 ⟨rfl, hg⟩
  rw [plain_ok]
  have G3 := hide (grownBy_trans G2.out (grownBy_trans A2.out hg))
  have M3 := hide (M2.out.grown (grownBy_trans A2.out hg))
  have B3 := hide (box_grown B2.out hg (by simp))
  clear hg A2 B2 M2
  generalize w2.heap.size = B at *
  have hB := box_lt B3.out
  have hBn : B ≠ w3.heap.size := by omega
  have hwb : w.heap.size ≤ B := by have := HN.out; omega
  have kb := blk_free B3.out
  have f0 : w3.cell? ⟨B, 0, none⟩ = some (.int .i64 10) := blk_cell B3.out 0
  have f1 : w3.cell? ⟨B, 1, none⟩ = some (.int .i64 2) := blk_cell B3.out 1
  have f2 : w3.cell? ⟨B, 2, none⟩ = some (.slice (some ⟨n + 3, 0, none⟩) 2 2) := blk_cell B3.out 2
  have f3 : w3.cell? ⟨B, 3, none⟩ = some (.slice (some ⟨n + 4, 0, none⟩) 2 2) := blk_cell B3.out 3
  have f4 : w3.cell? ⟨B, 4, none⟩ = some (.slice (some ⟨n + 5, 0, none⟩) 1 1) := blk_cell B3.out 4
  have G4 := hide (grown_set_new (j := 2) (u := .slice none 0 0) (R := B) hwb G3.out)
  have B4 := hide (blk_set (j := 2) (u := .slice none 0 0) B3.out (cs' := #[.int .i64 10, .int .i64 2, .slice none 0 0, .slice (some ⟨n + 4, 0, none⟩) 2 2, .slice (some ⟨n + 5, 0, none⟩) 1 1]) rfl)
  have M4 := hide (M3.out.above B 2 (.slice none 0 0) (by omega))
  have HCF : Hid (ConfAt n (w3.setCell ⟨B, 2, none⟩ (.slice none 0 0)) (.agg #[.int .i64 10, .int .i64 2, .slice none 0 0, .slice (some ⟨n + 4, 0, none⟩) 2 2, .slice (some ⟨n + 5, 0, none⟩) 1 1]) ⟨10, 2, [], [px0, px1], [po0]⟩) := by
    obtain ⟨vp, vw, vo, e, h1, h2, h3⟩ := M4.out.conf 10 2
    simp only [Value.agg.injEq, List.cons.injEq, Array.mk.injEq, true_and, and_true] at e
    obtain ⟨rfl, rfl, rfl⟩ := e
    exact ⟨_, _, _, rfl, ⟨[], rfl, rowAt_nil _ _ _ _, fun i q p hq _ => by simp at hq⟩, h2, h3⟩
  go_wp2_with (first | fail)
  refine (check_any _ ⟨10, 2, [], [px0, px1], [po0]⟩ _ (HT.out.grown G4.out) HCF.out).mono ?_; rintro e w5 ⟨rfl, hg⟩
  rw [HCK.out]
  have G5 := hide (grownBy_trans G4.out hg)
  have C5 := hide (ConfAt.grown HCF.out hg)
  have B5 := hide (box_grown B4.out hg (by simp))
  clear hg
  have g0 : w5.cell? ⟨B, 0, none⟩ = some (.int .i64 10) := blk_cell B5.out 0
  have g1 : w5.cell? ⟨B, 1, none⟩ = some (.int .i64 2) := blk_cell B5.out 1
  have g2 : w5.cell? ⟨B, 2, none⟩ = some (.slice none 0 0) := blk_cell B5.out 2
  have g3 : w5.cell? ⟨B, 3, none⟩ = some (.slice (some ⟨n + 4, 0, none⟩) 2 2) := blk_cell B5.out 3
  have g4 : w5.cell? ⟨B, 4, none⟩ = some (.slice (some ⟨n + 5, 0, none⟩) 1 1) := blk_cell B5.out 4
  have HPS := hide (putS_bad HCK.out (by decide))
  go_wp2_with (first | fail)
  refine (put_any _ ⟨10, 2, [], [px0, px1], [po0]⟩ _ (HT.out.grown G5.out) C5.out).mono ?_; rintro e w6 ⟨rfl, hg⟩
  rw [HPS.out, HCK.out]
  have G6 := hide (grownBy_trans G5.out hg)
  clear hg
  go_wp2_with (first | (go_at_call 15; refine (num_any _ _).mono ?_; rintro e w' ⟨rfl, rfl⟩))
  go_ret
  exact ⟨rfl, G6.out⟩

theorem make_parts (k : Int) (h0 : 0 ≤ k) (h1 : k ≤ 1000) (w : World) : (Instr.makeSlice 22 (.int .i64 k) (.int .i64 k)).run Tryd.prog w = .ok (.slice (some ⟨w.heap.size, 0, none⟩) k.toNat k.toNat) (w.alloc (.cells (madeCells #[.int .i64 0, .slice none 0 0, .slice none 0 0] (k.toNat * 3)) 50)) := by
  obtain ⟨i0, hi, hz0, hz1, hz2⟩ := info_parts info50
  have := run_make (P := Tryd.prog) w 22 50 i0 _ Tryd.underlying22 hi hz0 .i64 .i64 k k h0 (Int.le_refl _) (by rw [hz2]; omega) (by omega)
  rw [hz1] at this
  exact this
def qz : PartM := ⟨0, none, 0, 0, none, 0, 0⟩
set_option maxRecDepth 100000 in
set_option maxHeartbeats 2000000 in
theorem forms_5 (a x : Int) (hk : (IntKind.u64.wrap a).tmod 13 = 5) (w : World) (hT : Tab w) :
    Calls Tryd.prog 5 #[.int .i64 a, .int .i64 x] w fun e w' => e = .returned (.bool true) ∧ w.grownBy w' none := by
  have HT := hide hT
  have CA := hide (awake_any w hT)
  clear hT
  obtain ⟨m, m0, m1, e1⟩ := and63 x
  have HCK : Hid (checkN ⟨10, 2, List.replicate (8 + (1 + m)).toNat pz, [px0, px1], [po0]⟩ = 502) := hide (chkP _ _ _ (by unfold partsB; rw [List.length_replicate, decide_eq_false (show ¬ (8 + (1 + m)).toNat ≤ 8 by omega)]; simp))
  have hmk := make_parts (8 + (1 + m)) (by omega) (by omega)
  have hm33 : 9 ≤ (8 + (1 + m)).toNat := by omega
  have hm96 : (8 + (1 + m)).toNat ≤ 96 := by omega
  go_enter Tryd.func5, Tryd.ntmps5
  go_wp2_with (first | fail)
  refine CA.out.mono ?_; rintro e w1 ⟨rfl, hg⟩
  have G1 := hide hg
  clear hg CA
  go_wp2_with (first | fail)
  refine (plain_any w1).mono ?_; rintro e w2 ⟨n, hn, rfl, hm, hg⟩
  have M2 := hide hm
  have G2 := hide (grownBy_trans G1.out hg)
  have hn2 := hm.lt
  have HN := hide (show w.heap.size ≤ n by have := G1.out.size; omega)
  clear hm hg
  have A2 := hide (World.grownBy_alloc w2 (.cells #[.int .i64 10, .int .i64 2, .slice (some ⟨n + 3, 0, none⟩) 2 2, .slice (some ⟨n + 4, 0, none⟩) 2 2, .slice (some ⟨n + 5, 0, none⟩) 1 1] 26) none)
  have B2 := hide (heap_alloc_new w2 (.cells #[.int .i64 10, .int .i64 2, .slice (some ⟨n + 3, 0, none⟩) 2 2, .slice (some ⟨n + 4, 0, none⟩) 2 2, .slice (some ⟨n + 5, 0, none⟩) 1 1] 26))
  go_wp2_with (first | fail)
  refine (check_any _ ⟨10, 2, plainP, [px0, px1], [po0]⟩ _ (HT.out.grown (grownBy_trans G2.out A2.out)) ((M2.out.grown A2.out).conf 10 2)).mono ?_; rintro e w3 ⟨rfl, hg⟩
  rw [plain_ok]
  have G3 := hide (grownBy_trans G2.out (grownBy_trans A2.out hg))
  have M3 := hide (M2.out.grown (grownBy_trans A2.out hg))
  have B3 := hide (box_grown B2.out hg (by simp))
  clear hg A2 B2 M2
  generalize w2.heap.size = B at *
  have hB := box_lt B3.out
  have hBn : B ≠ w3.heap.size := by omega
  have hwb : w.heap.size ≤ B := by have := HN.out; omega
  have kb := blk_free B3.out
  have f0 : w3.cell? ⟨B, 0, none⟩ = some (.int .i64 10) := blk_cell B3.out 0
  have f1 : w3.cell? ⟨B, 1, none⟩ = some (.int .i64 2) := blk_cell B3.out 1
  have f2 : w3.cell? ⟨B, 2, none⟩ = some (.slice (some ⟨n + 3, 0, none⟩) 2 2) := blk_cell B3.out 2
  have f3 : w3.cell? ⟨B, 3, none⟩ = some (.slice (some ⟨n + 4, 0, none⟩) 2 2) := blk_cell B3.out 3
  have f4 : w3.cell? ⟨B, 4, none⟩ = some (.slice (some ⟨n + 5, 0, none⟩) 1 1) := blk_cell B3.out 4
  have G4' := hide (grown_set_new (j := 2) (u := .slice (some ⟨w3.heap.size, 0, none⟩) (8 + (1 + m)).toNat (8 + (1 + m)).toNat) (R := B) hwb G3.out)
  have B4' := hide (blk_set (j := 2) (u := .slice (some ⟨w3.heap.size, 0, none⟩) (8 + (1 + m)).toNat (8 + (1 + m)).toNat) B3.out (cs' := #[.int .i64 10, .int .i64 2, .slice (some ⟨w3.heap.size, 0, none⟩) (8 + (1 + m)).toNat (8 + (1 + m)).toNat, .slice (some ⟨n + 4, 0, none⟩) 2 2, .slice (some ⟨n + 5, 0, none⟩) 1 1]) rfl)
  have M4' := hide (M3.out.above B 2 (.slice (some ⟨w3.heap.size, 0, none⟩) (8 + (1 + m)).toNat (8 + (1 + m)).toNat) (by omega))
  have hsz : (w3.setCell ⟨B, 2, none⟩ (.slice (some ⟨w3.heap.size, 0, none⟩) (8 + (1 + m)).toNat (8 + (1 + m)).toNat)).heap.size = w3.heap.size := by simp [World.setCell]
  have R5 := make_new shP qz (8 + (1 + m)).toNat 50 (w3.setCell ⟨B, 2, none⟩ (.slice (some ⟨w3.heap.size, 0, none⟩) (8 + (1 + m)).toNat (8 + (1 + m)).toNat)) (by omega)
  rw [hsz] at R5
  have HR5 := hide R5
  clear R5 hsz
  have A5 := hide (World.grownBy_alloc (w3.setCell ⟨B, 2, none⟩ (.slice (some ⟨w3.heap.size, 0, none⟩) (8 + (1 + m)).toNat (8 + (1 + m)).toNat)) (.cells (madeCells #[.int .i64 0, .slice none 0 0, .slice none 0 0] ((8 + (1 + m)).toNat * 3)) 50) none)
  have B4 := hide (box_grown B4'.out A5.out (by simp))
  have G4 := hide (grownBy_trans G4'.out A5.out)
  have M5 := hide (M4'.out.grown A5.out)
  have HCF : Hid (ConfAt 0 ((w3.setCell ⟨B, 2, none⟩ (.slice (some ⟨w3.heap.size, 0, none⟩) (8 + (1 + m)).toNat (8 + (1 + m)).toNat)).alloc (.cells (madeCells #[.int .i64 0, .slice none 0 0, .slice none 0 0] ((8 + (1 + m)).toNat * 3)) 50)) (.agg #[.int .i64 10, .int .i64 2, .slice (some ⟨w3.heap.size, 0, none⟩) (8 + (1 + m)).toNat (8 + (1 + m)).toNat, .slice (some ⟨n + 4, 0, none⟩) 2 2, .slice (some ⟨n + 5, 0, none⟩) 1 1]) ⟨10, 2, List.replicate (8 + (1 + m)).toNat pz, [px0, px1], [po0]⟩) := by
    obtain ⟨vp, vw, vo, e, h1, h2, h3⟩ := M5.out.conf 10 2
    simp only [Value.agg.injEq, List.cons.injEq, Array.mk.injEq, true_and, and_true] at e
    obtain ⟨rfl, rfl, rfl⟩ := e
    refine ⟨_, _, _, rfl, ⟨List.replicate (8 + (1 + m)).toNat qz, by simp, HR5.out.mono (Nat.zero_le _), fun i q p hq hp => ?_⟩, h2.mono (Nat.zero_le _), h3.mono (Nat.zero_le _)⟩
    rw [List.getElem?_replicate] at hq hp
    split at hq
    · rename_i hi
      rw [if_pos hi] at hp
      obtain rfl := Option.some.inj hq
      obtain rfl := Option.some.inj hp
      exact ⟨rfl, rowAt_nil _ _ _ _, rowAt_nil _ _ _ _⟩
    · cases hq
  go_wp2_with (first | fail)
  refine (check_any _ ⟨10, 2, List.replicate (8 + (1 + m)).toNat pz, [px0, px1], [po0]⟩ _ (HT.out.grown G4.out) HCF.out).mono ?_; rintro e w5 ⟨rfl, hg⟩
  rw [HCK.out]
  have G5 := hide (grownBy_trans G4.out hg)
  have C5 := hide (ConfAt.grown HCF.out hg)
  have B5 := hide (box_grown B4.out hg (by simp))
  clear hg
  have g0 : w5.cell? ⟨B, 0, none⟩ = some (.int .i64 10) := blk_cell B5.out 0
  have g1 : w5.cell? ⟨B, 1, none⟩ = some (.int .i64 2) := blk_cell B5.out 1
  have g2 : w5.cell? ⟨B, 2, none⟩ = some (.slice (some ⟨w3.heap.size, 0, none⟩) (8 + (1 + m)).toNat (8 + (1 + m)).toNat) := blk_cell B5.out 2
  have g3 : w5.cell? ⟨B, 3, none⟩ = some (.slice (some ⟨n + 4, 0, none⟩) 2 2) := blk_cell B5.out 3
  have g4 : w5.cell? ⟨B, 4, none⟩ = some (.slice (some ⟨n + 5, 0, none⟩) 1 1) := blk_cell B5.out 4
  have HPS := hide (putS_bad HCK.out (by decide))
  go_wp2_with (first | fail)
  refine (put_any _ ⟨10, 2, List.replicate (8 + (1 + m)).toNat pz, [px0, px1], [po0]⟩ _ (HT.out.grown G5.out) C5.out).mono ?_; rintro e w6 ⟨rfl, hg⟩
  rw [HPS.out, HCK.out]
  have G6 := hide (grownBy_trans G5.out hg)
  clear hg
  go_wp2_with (first | (go_at_call 15; refine (num_any _ _).mono ?_; rintro e w' ⟨rfl, rfl⟩))
  go_ret
  exact ⟨rfl, G6.out⟩

set_option maxRecDepth 100000 in
set_option maxHeartbeats 2000000 in
theorem forms_6 (a x : Int) (hk : (IntKind.u64.wrap a).tmod 13 = 6) (w : World) (hT : Tab w) :
    Calls Tryd.prog 5 #[.int .i64 a, .int .i64 x] w fun e w' => e = .returned (.bool true) ∧ w.grownBy w' none := by
  have HT := hide hT
  have CA := hide (awake_any w hT)
  clear hT
  obtain ⟨m, m0, m1, e1⟩ := and63 x
  have HCK : Hid (checkN ⟨10, 2, [⟨1, [pt0], [(1, 7), (9, 0)]⟩, ⟨1 + (1 + m), [pt1], []⟩], [px0, px1], [po0]⟩ = 502) := hide (chkP _ _ _ (by unfold partsB; rw [allB_false (i := 1) (by simp) (by simp [levelB, partAt]; omega)]; simp))
  go_enter Tryd.func5, Tryd.ntmps5
  go_wp2_with (first | fail)
  refine CA.out.mono ?_; rintro e w1 ⟨rfl, hg⟩
  have G1 := hide hg
  clear hg CA
  go_wp2_with (first | fail)
  refine (plain_any w1).mono ?_; rintro e w2 ⟨n, hn, rfl, hm, hg⟩
  have M2 := hide hm
  have G2 := hide (grownBy_trans G1.out hg)
  have hn2 := hm.lt
  have HN := hide (show w.heap.size ≤ n by have := G1.out.size; omega)
  clear hm hg
  have A2 := hide (World.grownBy_alloc w2 (.cells #[.int .i64 10, .int .i64 2, .slice (some ⟨n + 3, 0, none⟩) 2 2, .slice (some ⟨n + 4, 0, none⟩) 2 2, .slice (some ⟨n + 5, 0, none⟩) 1 1] 26) none)
  have B2 := hide (heap_alloc_new w2 (.cells #[.int .i64 10, .int .i64 2, .slice (some ⟨n + 3, 0, none⟩) 2 2, .slice (some ⟨n + 4, 0, none⟩) 2 2, .slice (some ⟨n + 5, 0, none⟩) 1 1] 26))
  go_wp2_with (first | fail)
  refine (check_any _ ⟨10, 2, plainP, [px0, px1], [po0]⟩ _ (HT.out.grown (grownBy_trans G2.out A2.out)) ((M2.out.grown A2.out).conf 10 2)).mono ?_; rintro e w3 ⟨rfl, hg⟩
  rw [plain_ok]
  have G3 := hide (grownBy_trans G2.out (grownBy_trans A2.out hg))
  have M3 := hide (M2.out.grown (grownBy_trans A2.out hg))
  have B3 := hide (box_grown B2.out hg (by simp))
  clear hg A2 B2 M2
  generalize w2.heap.size = B at *
  have hB := box_lt B3.out
  have hBn : B ≠ w3.heap.size := by omega
  have hwb : w.heap.size ≤ B := by have := HN.out; omega
  have kb := blk_free B3.out
  have f0 : w3.cell? ⟨B, 0, none⟩ = some (.int .i64 10) := blk_cell B3.out 0
  have f1 : w3.cell? ⟨B, 1, none⟩ = some (.int .i64 2) := blk_cell B3.out 1
  have f2 : w3.cell? ⟨B, 2, none⟩ = some (.slice (some ⟨n + 3, 0, none⟩) 2 2) := blk_cell B3.out 2
  have f3 : w3.cell? ⟨B, 3, none⟩ = some (.slice (some ⟨n + 4, 0, none⟩) 2 2) := blk_cell B3.out 3
  have f4 : w3.cell? ⟨B, 4, none⟩ = some (.slice (some ⟨n + 5, 0, none⟩) 1 1) := blk_cell B3.out 4
  have j0 : w3.cell? ⟨n + 3, 3, none⟩ = some (.int .i64 0) := blk_cell M3.out.bp 3
  have k0 : w3.frozen? ⟨n + 3, 3, none⟩ = false := blk_free M3.out.bp 3
  have hne1 : n + 3 ≠ B := by omega
  have hne2 : B ≠ n + 3 := by omega
  have M4 := hide (M3.out.setl1 (1 + (1 + m)))
  have G4 := hide (grown_set_new (j := 3) (u := .int .i64 (1 + (1 + m))) (R := n + 3) (by have := HN.out; omega) G3.out)
  have B4 := hide (blk_other (j := 3) (u := .int .i64 (1 + (1 + m))) (b := n + 3) B3.out (by omega))
  have HCF := hide (show ConfAt n _ _ ⟨10, 2, [⟨1, [pt0], [(1, 7), (9, 0)]⟩, ⟨1 + (1 + m), [pt1], []⟩], [px0, px1], [po0]⟩ from M4.out.conf 10 2)
  go_wp2_with (first | fail)
  refine (check_any _ ⟨10, 2, [⟨1, [pt0], [(1, 7), (9, 0)]⟩, ⟨1 + (1 + m), [pt1], []⟩], [px0, px1], [po0]⟩ _ (HT.out.grown G4.out) HCF.out).mono ?_; rintro e w5 ⟨rfl, hg⟩
  rw [HCK.out]
  have G5 := hide (grownBy_trans G4.out hg)
  have C5 := hide (ConfAt.grown HCF.out hg)
  have B5 := hide (box_grown B4.out hg (by simp))
  clear hg
  have g0 : w5.cell? ⟨B, 0, none⟩ = some (.int .i64 10) := blk_cell B5.out 0
  have g1 : w5.cell? ⟨B, 1, none⟩ = some (.int .i64 2) := blk_cell B5.out 1
  have g2 : w5.cell? ⟨B, 2, none⟩ = some (.slice (some ⟨n + 3, 0, none⟩) 2 2) := blk_cell B5.out 2
  have g3 : w5.cell? ⟨B, 3, none⟩ = some (.slice (some ⟨n + 4, 0, none⟩) 2 2) := blk_cell B5.out 3
  have g4 : w5.cell? ⟨B, 4, none⟩ = some (.slice (some ⟨n + 5, 0, none⟩) 1 1) := blk_cell B5.out 4
  have HPS := hide (putS_bad HCK.out (by decide))
  go_wp2_with (first | fail)
  refine (put_any _ ⟨10, 2, [⟨1, [pt0], [(1, 7), (9, 0)]⟩, ⟨1 + (1 + m), [pt1], []⟩], [px0, px1], [po0]⟩ _ (HT.out.grown G5.out) C5.out).mono ?_; rintro e w6 ⟨rfl, hg⟩
  rw [HPS.out, HCK.out]
  have G6 := hide (grownBy_trans G5.out hg)
  clear hg
  go_wp2_with (first | (go_at_call 15; refine (num_any _ _).mono ?_; rintro e w' ⟨rfl, rfl⟩))
  go_ret
  exact ⟨rfl, G6.out⟩

set_option maxRecDepth 100000 in
set_option maxHeartbeats 2000000 in
theorem forms_7 (a x : Int) (hk : (IntKind.u64.wrap a).tmod 13 = 7) (w : World) (hT : Tab w) :
    Calls Tryd.prog 5 #[.int .i64 a, .int .i64 x] w fun e w' => e = .returned (.bool true) ∧ w.grownBy w' none := by
  have HT := hide hT
  have CA := hide (awake_any w hT)
  clear hT
  obtain ⟨m, m0, m1, e1⟩ := and63 x
  have HCK : Hid (checkN ⟨10, 2, [⟨1, [pt0], [(1, 7), (9, 0)]⟩, ⟨-(1 + m), [pt1], []⟩], [px0, px1], [po0]⟩ = 502) := hide (chkP _ _ _ (by unfold partsB; rw [allB_false (i := 1) (by simp) (by simp [levelB, partAt]; omega)]; simp))
  go_enter Tryd.func5, Tryd.ntmps5
  go_wp2_with (first | fail)
  refine CA.out.mono ?_; rintro e w1 ⟨rfl, hg⟩
  have G1 := hide hg
  clear hg CA
  go_wp2_with (first | fail)
  refine (plain_any w1).mono ?_; rintro e w2 ⟨n, hn, rfl, hm, hg⟩
  have M2 := hide hm
  have G2 := hide (grownBy_trans G1.out hg)
  have hn2 := hm.lt
  have HN := hide (show w.heap.size ≤ n by have := G1.out.size; omega)
  clear hm hg
  have A2 := hide (World.grownBy_alloc w2 (.cells #[.int .i64 10, .int .i64 2, .slice (some ⟨n + 3, 0, none⟩) 2 2, .slice (some ⟨n + 4, 0, none⟩) 2 2, .slice (some ⟨n + 5, 0, none⟩) 1 1] 26) none)
  have B2 := hide (heap_alloc_new w2 (.cells #[.int .i64 10, .int .i64 2, .slice (some ⟨n + 3, 0, none⟩) 2 2, .slice (some ⟨n + 4, 0, none⟩) 2 2, .slice (some ⟨n + 5, 0, none⟩) 1 1] 26))
  go_wp2_with (first | fail)
  refine (check_any _ ⟨10, 2, plainP, [px0, px1], [po0]⟩ _ (HT.out.grown (grownBy_trans G2.out A2.out)) ((M2.out.grown A2.out).conf 10 2)).mono ?_; rintro e w3 ⟨rfl, hg⟩
  rw [plain_ok]
  have G3 := hide (grownBy_trans G2.out (grownBy_trans A2.out hg))
  have M3 := hide (M2.out.grown (grownBy_trans A2.out hg))
  have B3 := hide (box_grown B2.out hg (by simp))
  clear hg A2 B2 M2
  generalize w2.heap.size = B at *
  have hB := box_lt B3.out
  have hBn : B ≠ w3.heap.size := by omega
  have hwb : w.heap.size ≤ B := by have := HN.out; omega
  have kb := blk_free B3.out
  have f0 : w3.cell? ⟨B, 0, none⟩ = some (.int .i64 10) := blk_cell B3.out 0
  have f1 : w3.cell? ⟨B, 1, none⟩ = some (.int .i64 2) := blk_cell B3.out 1
  have f2 : w3.cell? ⟨B, 2, none⟩ = some (.slice (some ⟨n + 3, 0, none⟩) 2 2) := blk_cell B3.out 2
  have f3 : w3.cell? ⟨B, 3, none⟩ = some (.slice (some ⟨n + 4, 0, none⟩) 2 2) := blk_cell B3.out 3
  have f4 : w3.cell? ⟨B, 4, none⟩ = some (.slice (some ⟨n + 5, 0, none⟩) 1 1) := blk_cell B3.out 4
  have j0 : w3.cell? ⟨n + 3, 3, none⟩ = some (.int .i64 0) := blk_cell M3.out.bp 3
  have k0 : w3.frozen? ⟨n + 3, 3, none⟩ = false := blk_free M3.out.bp 3
  have hne1 : n + 3 ≠ B := by omega
  have hne2 : B ≠ n + 3 := by omega
  have M4 := hide (M3.out.setl1 (-(1 + m)))
  have G4 := hide (grown_set_new (j := 3) (u := .int .i64 (-(1 + m))) (R := n + 3) (by have := HN.out; omega) G3.out)
  have B4 := hide (blk_other (j := 3) (u := .int .i64 (-(1 + m))) (b := n + 3) B3.out (by omega))
  have HCF := hide (show ConfAt n _ _ ⟨10, 2, [⟨1, [pt0], [(1, 7), (9, 0)]⟩, ⟨-(1 + m), [pt1], []⟩], [px0, px1], [po0]⟩ from M4.out.conf 10 2)
  go_wp2_with (first | fail)
  refine (check_any _ ⟨10, 2, [⟨1, [pt0], [(1, 7), (9, 0)]⟩, ⟨-(1 + m), [pt1], []⟩], [px0, px1], [po0]⟩ _ (HT.out.grown G4.out) HCF.out).mono ?_; rintro e w5 ⟨rfl, hg⟩
  rw [HCK.out]
  have G5 := hide (grownBy_trans G4.out hg)
  have C5 := hide (ConfAt.grown HCF.out hg)
  have B5 := hide (box_grown B4.out hg (by simp))
  clear hg
  have g0 : w5.cell? ⟨B, 0, none⟩ = some (.int .i64 10) := blk_cell B5.out 0
  have g1 : w5.cell? ⟨B, 1, none⟩ = some (.int .i64 2) := blk_cell B5.out 1
  have g2 : w5.cell? ⟨B, 2, none⟩ = some (.slice (some ⟨n + 3, 0, none⟩) 2 2) := blk_cell B5.out 2
  have g3 : w5.cell? ⟨B, 3, none⟩ = some (.slice (some ⟨n + 4, 0, none⟩) 2 2) := blk_cell B5.out 3
  have g4 : w5.cell? ⟨B, 4, none⟩ = some (.slice (some ⟨n + 5, 0, none⟩) 1 1) := blk_cell B5.out 4
  have HPS := hide (putS_bad HCK.out (by decide))
  go_wp2_with (first | fail)
  refine (put_any _ ⟨10, 2, [⟨1, [pt0], [(1, 7), (9, 0)]⟩, ⟨-(1 + m), [pt1], []⟩], [px0, px1], [po0]⟩ _ (HT.out.grown G5.out) C5.out).mono ?_; rintro e w6 ⟨rfl, hg⟩
  rw [HPS.out, HCK.out]
  have G6 := hide (grownBy_trans G5.out hg)
  clear hg
  go_wp2_with (first | (go_at_call 15; refine (num_any _ _).mono ?_; rintro e w' ⟨rfl, rfl⟩))
  go_ret
  exact ⟨rfl, G6.out⟩

set_option maxRecDepth 100000 in
set_option maxHeartbeats 2000000 in
theorem forms_8 (a x : Int) (hk : (IntKind.u64.wrap a).tmod 13 = 8) (w : World) (hT : Tab w) :
    Calls Tryd.prog 5 #[.int .i64 a, .int .i64 x] w fun e w' => e = .returned (.bool true) ∧ w.grownBy w' none := by
  have HT := hide hT
  have CA := hide (awake_any w hT)
  clear hT
  obtain ⟨m, m0, m1, e1⟩ := and63 x
  have HCK : Hid (checkN ⟨10, 2, [⟨1, [⟨0, 10, 10 + (1 + m), 2, 4, 1⟩], [(1, 7), (9, 0)]⟩, ⟨0, [pt1], []⟩], [px0, px1], [po0]⟩ = 503) := hide (chkT _ _ _ (by rfl) (by rw [allB_false (i := 0) (by simp) (by simp [tasksB, partAt, taskOK, taskAt, taskMay, allB]; omega)]))
  go_enter Tryd.func5, Tryd.ntmps5
  go_wp2_with (first | fail)
  refine CA.out.mono ?_; rintro e w1 ⟨rfl, hg⟩
  have G1 := hide hg
  clear hg CA
  go_wp2_with (first | fail)
  refine (plain_any w1).mono ?_; rintro e w2 ⟨n, hn, rfl, hm, hg⟩
  have M2 := hide hm
  have G2 := hide (grownBy_trans G1.out hg)
  have hn2 := hm.lt
  have HN := hide (show w.heap.size ≤ n by have := G1.out.size; omega)
  clear hm hg
  have A2 := hide (World.grownBy_alloc w2 (.cells #[.int .i64 10, .int .i64 2, .slice (some ⟨n + 3, 0, none⟩) 2 2, .slice (some ⟨n + 4, 0, none⟩) 2 2, .slice (some ⟨n + 5, 0, none⟩) 1 1] 26) none)
  have B2 := hide (heap_alloc_new w2 (.cells #[.int .i64 10, .int .i64 2, .slice (some ⟨n + 3, 0, none⟩) 2 2, .slice (some ⟨n + 4, 0, none⟩) 2 2, .slice (some ⟨n + 5, 0, none⟩) 1 1] 26))
  go_wp2_with (first | fail)
  refine (check_any _ ⟨10, 2, plainP, [px0, px1], [po0]⟩ _ (HT.out.grown (grownBy_trans G2.out A2.out)) ((M2.out.grown A2.out).conf 10 2)).mono ?_; rintro e w3 ⟨rfl, hg⟩
  rw [plain_ok]
  have G3 := hide (grownBy_trans G2.out (grownBy_trans A2.out hg))
  have M3 := hide (M2.out.grown (grownBy_trans A2.out hg))
  have B3 := hide (box_grown B2.out hg (by simp))
  clear hg A2 B2 M2
  generalize w2.heap.size = B at *
  have hB := box_lt B3.out
  have hBn : B ≠ w3.heap.size := by omega
  have hwb : w.heap.size ≤ B := by have := HN.out; omega
  have kb := blk_free B3.out
  have f0 : w3.cell? ⟨B, 0, none⟩ = some (.int .i64 10) := blk_cell B3.out 0
  have f1 : w3.cell? ⟨B, 1, none⟩ = some (.int .i64 2) := blk_cell B3.out 1
  have f2 : w3.cell? ⟨B, 2, none⟩ = some (.slice (some ⟨n + 3, 0, none⟩) 2 2) := blk_cell B3.out 2
  have f3 : w3.cell? ⟨B, 3, none⟩ = some (.slice (some ⟨n + 4, 0, none⟩) 2 2) := blk_cell B3.out 3
  have f4 : w3.cell? ⟨B, 4, none⟩ = some (.slice (some ⟨n + 5, 0, none⟩) 1 1) := blk_cell B3.out 4
  have j0 : w3.cell? ⟨n, 2, none⟩ = some (.int .i64 10) := blk_cell M3.out.bt0 2
  have k0 : w3.frozen? ⟨n, 2, none⟩ = false := blk_free M3.out.bt0 2
  have jp : w3.cell? ⟨n + 3, 1, none⟩ = some (.slice (some ⟨n, 0, none⟩) 1 1) := blk_cell M3.out.bp 1
  have hne1 : n ≠ B := by omega
  have hne2 : B ≠ n := by omega
  have M4 := hide (M3.out.sett0 2 (.int .i64 (10 + (1 + m))) ⟨0, 10, 10 + (1 + m), 2, 4, 1⟩ rfl)
  have G4 := hide (grown_set_new (j := 2) (u := .int .i64 (10 + (1 + m))) (R := n) (by have := HN.out; omega) G3.out)
  have B4 := hide (blk_other (j := 2) (u := .int .i64 (10 + (1 + m))) (b := n) B3.out (by omega))
  have HCF := hide (show ConfAt n _ _ ⟨10, 2, [⟨1, [⟨0, 10, 10 + (1 + m), 2, 4, 1⟩], [(1, 7), (9, 0)]⟩, ⟨0, [pt1], []⟩], [px0, px1], [po0]⟩ from M4.out.conf 10 2)
  go_wp2_with (first | fail)
  refine (check_any _ ⟨10, 2, [⟨1, [⟨0, 10, 10 + (1 + m), 2, 4, 1⟩], [(1, 7), (9, 0)]⟩, ⟨0, [pt1], []⟩], [px0, px1], [po0]⟩ _ (HT.out.grown G4.out) HCF.out).mono ?_; rintro e w5 ⟨rfl, hg⟩
  rw [HCK.out]
  have G5 := hide (grownBy_trans G4.out hg)
  have C5 := hide (ConfAt.grown HCF.out hg)
  have B5 := hide (box_grown B4.out hg (by simp))
  clear hg
  have g0 : w5.cell? ⟨B, 0, none⟩ = some (.int .i64 10) := blk_cell B5.out 0
  have g1 : w5.cell? ⟨B, 1, none⟩ = some (.int .i64 2) := blk_cell B5.out 1
  have g2 : w5.cell? ⟨B, 2, none⟩ = some (.slice (some ⟨n + 3, 0, none⟩) 2 2) := blk_cell B5.out 2
  have g3 : w5.cell? ⟨B, 3, none⟩ = some (.slice (some ⟨n + 4, 0, none⟩) 2 2) := blk_cell B5.out 3
  have g4 : w5.cell? ⟨B, 4, none⟩ = some (.slice (some ⟨n + 5, 0, none⟩) 1 1) := blk_cell B5.out 4
  have HPS := hide (putS_bad HCK.out (by decide))
  go_wp2_with (first | fail)
  refine (put_any _ ⟨10, 2, [⟨1, [⟨0, 10, 10 + (1 + m), 2, 4, 1⟩], [(1, 7), (9, 0)]⟩, ⟨0, [pt1], []⟩], [px0, px1], [po0]⟩ _ (HT.out.grown G5.out) C5.out).mono ?_; rintro e w6 ⟨rfl, hg⟩
  rw [HPS.out, HCK.out]
  have G6 := hide (grownBy_trans G5.out hg)
  clear hg
  go_wp2_with (first | (go_at_call 15; refine (num_any _ _).mono ?_; rintro e w' ⟨rfl, rfl⟩))
  go_ret
  exact ⟨rfl, G6.out⟩

set_option maxRecDepth 100000 in
set_option maxHeartbeats 2000000 in
theorem forms_9 (a x : Int) (hk : (IntKind.u64.wrap a).tmod 13 = 9) (w : World) (hT : Tab w) :
    Calls Tryd.prog 5 #[.int .i64 a, .int .i64 x] w fun e w' => e = .returned (.bool true) ∧ w.grownBy w' none := by
  have HT := hide hT
  have CA := hide (awake_any w hT)
  clear hT
  obtain ⟨m, m0, m1, e1⟩ := and63 x
  have HCK : Hid (checkN ⟨10, 2, [⟨1, [pt0], [(1, 7), (9, 0)]⟩, ⟨0, [⟨1, 5, 5, 3, 4, 0⟩], []⟩], [px0, px1], [po0]⟩ = 503) := hide (chkT _ _ _ (by rfl) (by decide))
  go_enter Tryd.func5, Tryd.ntmps5
  go_wp2_with (first | fail)
  refine CA.out.mono ?_; rintro e w1 ⟨rfl, hg⟩
  have G1 := hide hg
  clear hg CA
  go_wp2_with (first | fail)
  refine (plain_any w1).mono ?_; rintro e w2 ⟨n, hn, rfl, hm, hg⟩
  have M2 := hide hm
  have G2 := hide (grownBy_trans G1.out hg)
  have hn2 := hm.lt
  have HN := hide (show w.heap.size ≤ n by have := G1.out.size; omega)
  clear hm hg
  have A2 := hide (World.grownBy_alloc w2 (.cells #[.int .i64 10, .int .i64 2, .slice (some ⟨n + 3, 0, none⟩) 2 2, .slice (some ⟨n + 4, 0, none⟩) 2 2, .slice (some ⟨n + 5, 0, none⟩) 1 1] 26) none)
  have B2 := hide (heap_alloc_new w2 (.cells #[.int .i64 10, .int .i64 2, .slice (some ⟨n + 3, 0, none⟩) 2 2, .slice (some ⟨n + 4, 0, none⟩) 2 2, .slice (some ⟨n + 5, 0, none⟩) 1 1] 26))
  go_wp2_with (first | fail)
  refine (check_any _ ⟨10, 2, plainP, [px0, px1], [po0]⟩ _ (HT.out.grown (grownBy_trans G2.out A2.out)) ((M2.out.grown A2.out).conf 10 2)).mono ?_; rintro e w3 ⟨rfl, hg⟩
  rw [plain_ok]
  have G3 := hide (grownBy_trans G2.out (grownBy_trans A2.out hg))
  have M3 := hide (M2.out.grown (grownBy_trans A2.out hg))
  have B3 := hide (box_grown B2.out hg (by simp))
  clear hg A2 B2 M2
  generalize w2.heap.size = B at *
  have hB := box_lt B3.out
  have hBn : B ≠ w3.heap.size := by omega
  have hwb : w.heap.size ≤ B := by have := HN.out; omega
  have kb := blk_free B3.out
  have f0 : w3.cell? ⟨B, 0, none⟩ = some (.int .i64 10) := blk_cell B3.out 0
  have f1 : w3.cell? ⟨B, 1, none⟩ = some (.int .i64 2) := blk_cell B3.out 1
  have f2 : w3.cell? ⟨B, 2, none⟩ = some (.slice (some ⟨n + 3, 0, none⟩) 2 2) := blk_cell B3.out 2
  have f3 : w3.cell? ⟨B, 3, none⟩ = some (.slice (some ⟨n + 4, 0, none⟩) 2 2) := blk_cell B3.out 3
  have f4 : w3.cell? ⟨B, 4, none⟩ = some (.slice (some ⟨n + 5, 0, none⟩) 1 1) := blk_cell B3.out 4
  have j0 : w3.cell? ⟨n + 2, 4, none⟩ = some (.int .i64 3) := blk_cell M3.out.bt1 4
  have k0 : w3.frozen? ⟨n + 2, 4, none⟩ = false := blk_free M3.out.bt1 4
  have jp : w3.cell? ⟨n + 3, 4, none⟩ = some (.slice (some ⟨n + 2, 0, none⟩) 1 1) := blk_cell M3.out.bp 4
  have hne1 : n + 2 ≠ B := by omega
  have hne2 : B ≠ n + 2 := by omega
  have M4 := hide (M3.out.sett1 4 (.int .i64 (4)) ⟨1, 5, 5, 3, 4, 0⟩ rfl)
  have G4 := hide (grown_set_new (j := 4) (u := .int .i64 (4)) (R := n + 2) (by have := HN.out; omega) G3.out)
  have B4 := hide (blk_other (j := 4) (u := .int .i64 (4)) (b := n + 2) B3.out (by omega))
  have HCF := hide (show ConfAt n _ _ ⟨10, 2, [⟨1, [pt0], [(1, 7), (9, 0)]⟩, ⟨0, [⟨1, 5, 5, 3, 4, 0⟩], []⟩], [px0, px1], [po0]⟩ from M4.out.conf 10 2)
  go_wp2_with (first | fail)
  refine (check_any _ ⟨10, 2, [⟨1, [pt0], [(1, 7), (9, 0)]⟩, ⟨0, [⟨1, 5, 5, 3, 4, 0⟩], []⟩], [px0, px1], [po0]⟩ _ (HT.out.grown G4.out) HCF.out).mono ?_; rintro e w5 ⟨rfl, hg⟩
  rw [HCK.out]
  have G5 := hide (grownBy_trans G4.out hg)
  have C5 := hide (ConfAt.grown HCF.out hg)
  have B5 := hide (box_grown B4.out hg (by simp))
  clear hg
  have g0 : w5.cell? ⟨B, 0, none⟩ = some (.int .i64 10) := blk_cell B5.out 0
  have g1 : w5.cell? ⟨B, 1, none⟩ = some (.int .i64 2) := blk_cell B5.out 1
  have g2 : w5.cell? ⟨B, 2, none⟩ = some (.slice (some ⟨n + 3, 0, none⟩) 2 2) := blk_cell B5.out 2
  have g3 : w5.cell? ⟨B, 3, none⟩ = some (.slice (some ⟨n + 4, 0, none⟩) 2 2) := blk_cell B5.out 3
  have g4 : w5.cell? ⟨B, 4, none⟩ = some (.slice (some ⟨n + 5, 0, none⟩) 1 1) := blk_cell B5.out 4
  have HPS := hide (putS_bad HCK.out (by decide))
  go_wp2_with (first | fail)
  refine (put_any _ ⟨10, 2, [⟨1, [pt0], [(1, 7), (9, 0)]⟩, ⟨0, [⟨1, 5, 5, 3, 4, 0⟩], []⟩], [px0, px1], [po0]⟩ _ (HT.out.grown G5.out) C5.out).mono ?_; rintro e w6 ⟨rfl, hg⟩
  rw [HPS.out, HCK.out]
  have G6 := hide (grownBy_trans G5.out hg)
  clear hg
  go_wp2_with (first | (go_at_call 15; refine (num_any _ _).mono ?_; rintro e w' ⟨rfl, rfl⟩))
  go_ret
  exact ⟨rfl, G6.out⟩


#print axioms forms_0
end Go.Proofs.YtgaegggiehhcpaaDoor
