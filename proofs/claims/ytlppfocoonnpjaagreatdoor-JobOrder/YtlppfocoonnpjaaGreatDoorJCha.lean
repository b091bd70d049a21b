/- The contract of package meter's Charge, proved over the translation. -/
import Derived.Test.YtlppfocoonnpjaaGreatDoorJSmall
namespace Go.Proofs.YtlppfocoonnpjaaGreatDoor.J
open Go.RowKit
attribute [local go_sem] alloc_drewN setCell_drewN

theorem sizeV : (Tryz.prog.info? 50).map (·.size) = some 3 := by kernel_rfl
theorem results_rrt {P : Program} {fn : Func} {p p2 u : Tmp} {ty ty2 : TypeId} (h : fn.results = #[.cell p ty, .cell p2 ty2, .tmp u]) (tmps : Array Value) (w : World) (g : Nat) (t : TypeId) (cs : Array Value) (fr : Nat × Nat) (d : TypeDesc) (g2 : Nat) (t2 : TypeId) (cs2 : Array Value) (fr2 : Nat × Nat) (d2 : TypeDesc)
    (hp : tmps.getD p undef = .pointer (some ⟨g, 0, none⟩)) (hg : w.heap[g]? = some (.cells cs t fr))
    (hu : P.underlying ty = some d) (hd : (match d with | .struct _ | .array _ _ => true | _ => false) = true) (hi : (P.info? ty).map (·.size) = some cs.size)
    (hp2 : tmps.getD p2 undef = .pointer (some ⟨g2, 0, none⟩)) (hg2 : w.heap[g2]? = some (.cells cs2 t2 fr2))
    (hu2 : P.underlying ty2 = some d2) (hd2 : (match d2 with | .struct _ | .array _ _ => true | _ => false) = true) (hi2 : (P.info? ty2).map (·.size) = some cs2.size) :
    (results fn tmps).run P w = .ok (.tuple #[.agg cs, .agg cs2, tmps.getD u undef]) w := by
  have hp' : tmps[p]?.getD undef = .pointer (some ⟨g, 0, none⟩) := by simpa using hp
  have hp2' : tmps[p2]?.getD undef = .pointer (some ⟨g2, 0, none⟩) := by simpa using hp2
  simp [results, h, hp', hp2', asAddr, run_loadVar_row w g t ty cs fr d hg hu hd hi, run_loadVar_row w g2 t2 ty2 cs2 fr2 d2 hg2 hu2 hd2 hi2]
set_option maxRecDepth 100000 in
set_option maxHeartbeats 8000000 in
theorem ch_bad (j : JobV) (t : TaskV) (l : Int) (w w0 : World) (hg0 : w.grownBy w0 none) (h : chMay j t l = false) :
    Calls Tryz.prog 51 #[jobVal j, taskVal t, .int .i64 l] w0 fun e w' => e = .returned (.tuple #[jobVal jz, verVal false false false, .int .i64 1300]) ∧ w.grownBy w' none := by
  have CM := hide (fun W => cmay_any j t l W)
  rw [h] at CM
  have HG := hide hg0
  clear hg0 h
  obtain ⟨y0, y1, y2, y3, y4, y5, y6⟩ := j
  obtain ⟨x0, x1, x2, x3, x4, x5⟩ := t
  dsimp only [jobVal, taskVal] at *
  go_enter Tryz.func51, Tryz.ntmps51
  go_upto_region 1 with (first | fail)
  have hg : w0.grownBy ((((w0.alloc (.cells #[.int .i64 y0, .int .i64 y1, .int .i64 y2, .int .i64 y3, .int .i64 y4, .int .i64 y5, .int .i64 y6] 70)).alloc (.cells #[.int .i64 x0, .int .i64 x1, .int .i64 x2, .int .i64 x3, .int .i64 x4, .int .i64 x5] 73)).alloc (.cells #[.int .i64 0, .int .i64 0, .int .i64 0, .int .i64 0, .int .i64 0, .int .i64 0, .int .i64 0] 70)).alloc (.cells #[.bool false, .bool false, .bool false] 50)) none := (grownBy_trans (grownBy_trans (grownBy_trans (grownBy_trans (grownBy_refl _ _) (World.grownBy_alloc _ _ none)) (World.grownBy_alloc _ _ none)) (World.grownBy_alloc _ _ none)) (World.grownBy_alloc _ _ none))
  have hJ := heap_alloc_new w0 (.cells #[.int .i64 y0, .int .i64 y1, .int .i64 y2, .int .i64 y3, .int .i64 y4, .int .i64 y5, .int .i64 y6] 70)
  have HJq := hide (hp_up (hp_up (hp_up hJ (.cells #[.int .i64 x0, .int .i64 x1, .int .i64 x2, .int .i64 x3, .int .i64 x4, .int .i64 x5] 73)) (.cells #[.int .i64 0, .int .i64 0, .int .i64 0, .int .i64 0, .int .i64 0, .int .i64 0, .int .i64 0] 70)) (.cells #[.bool false, .bool false, .bool false] 50))
  clear hJ
  have LJ : Hid (w.heap.size ≤ w0.heap.size) := hide (by have := HG.out.size; omega)
  have hT : ((w0.alloc (.cells #[.int .i64 y0, .int .i64 y1, .int .i64 y2, .int .i64 y3, .int .i64 y4, .int .i64 y5, .int .i64 y6] 70)).alloc (.cells #[.int .i64 x0, .int .i64 x1, .int .i64 x2, .int .i64 x3, .int .i64 x4, .int .i64 x5] 73)).heap[w0.heap.size + 1]? = some (.cells #[.int .i64 x0, .int .i64 x1, .int .i64 x2, .int .i64 x3, .int .i64 x4, .int .i64 x5] 73) := by have h := heap_alloc_new (w0.alloc (.cells #[.int .i64 y0, .int .i64 y1, .int .i64 y2, .int .i64 y3, .int .i64 y4, .int .i64 y5, .int .i64 y6] 70)) (.cells #[.int .i64 x0, .int .i64 x1, .int .i64 x2, .int .i64 x3, .int .i64 x4, .int .i64 x5] 73); rwa [show (w0.alloc (.cells #[.int .i64 y0, .int .i64 y1, .int .i64 y2, .int .i64 y3, .int .i64 y4, .int .i64 y5, .int .i64 y6] 70)).heap.size = w0.heap.size + 1 by simp] at h
  have HTq := hide (hp_up (hp_up hT (.cells #[.int .i64 0, .int .i64 0, .int .i64 0, .int .i64 0, .int .i64 0, .int .i64 0, .int .i64 0] 70)) (.cells #[.bool false, .bool false, .bool false] 50))
  clear hT
  have LT : Hid (w.heap.size ≤ w0.heap.size + 1) := hide (by have := HG.out.size; omega)
  have hR : (((w0.alloc (.cells #[.int .i64 y0, .int .i64 y1, .int .i64 y2, .int .i64 y3, .int .i64 y4, .int .i64 y5, .int .i64 y6] 70)).alloc (.cells #[.int .i64 x0, .int .i64 x1, .int .i64 x2, .int .i64 x3, .int .i64 x4, .int .i64 x5] 73)).alloc (.cells #[.int .i64 0, .int .i64 0, .int .i64 0, .int .i64 0, .int .i64 0, .int .i64 0, .int .i64 0] 70)).heap[w0.heap.size + 1 + 1]? = some (.cells #[.int .i64 0, .int .i64 0, .int .i64 0, .int .i64 0, .int .i64 0, .int .i64 0, .int .i64 0] 70) := by have h := heap_alloc_new ((w0.alloc (.cells #[.int .i64 y0, .int .i64 y1, .int .i64 y2, .int .i64 y3, .int .i64 y4, .int .i64 y5, .int .i64 y6] 70)).alloc (.cells #[.int .i64 x0, .int .i64 x1, .int .i64 x2, .int .i64 x3, .int .i64 x4, .int .i64 x5] 73)) (.cells #[.int .i64 0, .int .i64 0, .int .i64 0, .int .i64 0, .int .i64 0, .int .i64 0, .int .i64 0] 70); rwa [show ((w0.alloc (.cells #[.int .i64 y0, .int .i64 y1, .int .i64 y2, .int .i64 y3, .int .i64 y4, .int .i64 y5, .int .i64 y6] 70)).alloc (.cells #[.int .i64 x0, .int .i64 x1, .int .i64 x2, .int .i64 x3, .int .i64 x4, .int .i64 x5] 73)).heap.size = w0.heap.size + 1 + 1 by simp] at h
  have HRq := hide (hp_up hR (.cells #[.bool false, .bool false, .bool false] 50))
  clear hR
  have LR : Hid (w.heap.size ≤ w0.heap.size + 1 + 1) := hide (by have := HG.out.size; omega)
  have hV : ((((w0.alloc (.cells #[.int .i64 y0, .int .i64 y1, .int .i64 y2, .int .i64 y3, .int .i64 y4, .int .i64 y5, .int .i64 y6] 70)).alloc (.cells #[.int .i64 x0, .int .i64 x1, .int .i64 x2, .int .i64 x3, .int .i64 x4, .int .i64 x5] 73)).alloc (.cells #[.int .i64 0, .int .i64 0, .int .i64 0, .int .i64 0, .int .i64 0, .int .i64 0, .int .i64 0] 70)).alloc (.cells #[.bool false, .bool false, .bool false] 50)).heap[w0.heap.size + 1 + 1 + 1]? = some (.cells #[.bool false, .bool false, .bool false] 50) := by have h := heap_alloc_new (((w0.alloc (.cells #[.int .i64 y0, .int .i64 y1, .int .i64 y2, .int .i64 y3, .int .i64 y4, .int .i64 y5, .int .i64 y6] 70)).alloc (.cells #[.int .i64 x0, .int .i64 x1, .int .i64 x2, .int .i64 x3, .int .i64 x4, .int .i64 x5] 73)).alloc (.cells #[.int .i64 0, .int .i64 0, .int .i64 0, .int .i64 0, .int .i64 0, .int .i64 0, .int .i64 0] 70)) (.cells #[.bool false, .bool false, .bool false] 50); rwa [show (((w0.alloc (.cells #[.int .i64 y0, .int .i64 y1, .int .i64 y2, .int .i64 y3, .int .i64 y4, .int .i64 y5, .int .i64 y6] 70)).alloc (.cells #[.int .i64 x0, .int .i64 x1, .int .i64 x2, .int .i64 x3, .int .i64 x4, .int .i64 x5] 73)).alloc (.cells #[.int .i64 0, .int .i64 0, .int .i64 0, .int .i64 0, .int .i64 0, .int .i64 0, .int .i64 0] 70)).heap.size = w0.heap.size + 1 + 1 + 1 by simp] at h
  have HVq := hide hV
  clear hV
  have LV : Hid (w.heap.size ≤ w0.heap.size + 1 + 1 + 1) := hide (by have := HG.out.size; omega)
  have HGn := hide (grownBy_trans HG.out hg)
  clear HG
  have HG := HGn
  clear HGn
  clear hg
  have HJ := HJq
  clear HJq
  have HT := HTq
  clear HTq
  have HR := HRq
  clear HRq
  have HV := HVq
  clear HVq
  have HOJ : Hid (w0.heap.size < w0.heap.size + 1 ∧ w0.heap.size + 1 < w0.heap.size + 1 + 1 ∧ w0.heap.size + 1 + 1 < w0.heap.size + 1 + 1 + 1) := hide (by omega)
  generalize hWx : ((((w0.alloc (.cells #[.int .i64 y0, .int .i64 y1, .int .i64 y2, .int .i64 y3, .int .i64 y4, .int .i64 y5, .int .i64 y6] 70)).alloc (.cells #[.int .i64 x0, .int .i64 x1, .int .i64 x2, .int .i64 x3, .int .i64 x4, .int .i64 x5] 73)).alloc (.cells #[.int .i64 0, .int .i64 0, .int .i64 0, .int .i64 0, .int .i64 0, .int .i64 0, .int .i64 0] 70)).alloc (.cells #[.bool false, .bool false, .bool false] 50)) = w1 at *
  clear hWx
  generalize hBx : w0.heap.size + 1 + 1 + 1 = BV at *
  clear hBx
  generalize hBx : w0.heap.size + 1 + 1 = BR at *
  clear hBx
  generalize hBx : w0.heap.size + 1 = BT at *
  clear hBx
  generalize hBx : w0.heap.size = BJ at *
  clear hBx
  have cJ0 : w1.cell? ⟨BJ, 0, none⟩ = some (.int .i64 y0) := blk_cell HJ.out 0
  have cJ1 : w1.cell? ⟨BJ, 1, none⟩ = some (.int .i64 y1) := blk_cell HJ.out 1
  have cJ2 : w1.cell? ⟨BJ, 2, none⟩ = some (.int .i64 y2) := blk_cell HJ.out 2
  have cJ3 : w1.cell? ⟨BJ, 3, none⟩ = some (.int .i64 y3) := blk_cell HJ.out 3
  have cJ4 : w1.cell? ⟨BJ, 4, none⟩ = some (.int .i64 y4) := blk_cell HJ.out 4
  have cJ5 : w1.cell? ⟨BJ, 5, none⟩ = some (.int .i64 y5) := blk_cell HJ.out 5
  have cJ6 : w1.cell? ⟨BJ, 6, none⟩ = some (.int .i64 y6) := blk_cell HJ.out 6
  have cT0 : w1.cell? ⟨BT, 0, none⟩ = some (.int .i64 x0) := blk_cell HT.out 0
  have cT1 : w1.cell? ⟨BT, 1, none⟩ = some (.int .i64 x1) := blk_cell HT.out 1
  have cT2 : w1.cell? ⟨BT, 2, none⟩ = some (.int .i64 x2) := blk_cell HT.out 2
  have cT3 : w1.cell? ⟨BT, 3, none⟩ = some (.int .i64 x3) := blk_cell HT.out 3
  have cT4 : w1.cell? ⟨BT, 4, none⟩ = some (.int .i64 x4) := blk_cell HT.out 4
  have cT5 : w1.cell? ⟨BT, 5, none⟩ = some (.int .i64 x5) := blk_cell HT.out 5
  go_wp2_with (first | fail)
  refine (CM.out _).mono ?_; rintro e w2 ⟨rfl, hg⟩
  clear cJ0 cJ1 cJ2 cJ3 cJ4 cJ5 cJ6 cT0 cT1 cT2 cT3 cT4 cT5
  have HGn := hide (grownBy_trans HG.out hg)
  have HJn := hide (box_grown HJ.out hg (by simp))
  have HTn := hide (box_grown HT.out hg (by simp))
  have HRn := hide (box_grown HR.out hg (by simp))
  have HVn := hide (box_grown HV.out hg (by simp))
  clear HG HJ HT HR HV
  have HG := HGn
  have HJ := HJn
  have HT := HTn
  have HR := HRn
  have HV := HVn
  clear HGn HJn HTn HRn HVn
  clear hg
  go_wp2_with (first | ((with_reducible refine list_store 70 (.tmp 6) (.tmp 15) BR #[.int .i64 0, .int .i64 0, .int .i64 0, .int .i64 0, .int .i64 0, .int .i64 0, .int .i64 0] 70 #[.int .i64 0, .int .i64 0, .int .i64 0, .int .i64 0, .int .i64 0, .int .i64 0, .int .i64 0] ?hx ?hy ?hg ?hi ?ho ?h1 ?_); (case hx => rfl); (case hy => rfl); (case hg => exact HR.out); (case hi => exact sizeJ); (case ho => rfl); (case h1 => simp [Value.oneCell']); intro w8 h1 e1 g1; have HVn := hide ((e1 BV (by have := HOJ.out; omega)).trans HV.out); have HRn := hide h1; have HGn := hide (grown_spoil HG.out LR.out g1); clear h1 e1 g1 HG HR HV) | ((with_reducible refine list_store 50 (.tmp 7) (.tmp 16) BV #[.bool false, .bool false, .bool false] 50 #[.bool false, .bool false, .bool false] ?hx ?hy ?hg ?hi ?ho ?h1 ?_); (case hx => rfl); (case hy => rfl); (case hg => exact HVn.out); (case hi => exact sizeV); (case ho => rfl); (case h1 => simp [Value.oneCell']); intro w9 h1 e1 g1; have HRm := hide ((e1 BR (by have := HOJ.out; omega)).trans HRn.out); have HVm := hide h1; have HGm := hide (grown_spoil HGn.out LV.out g1); clear h1 e1 g1 HGn HRn HVn) | fail)
  refine bodyPost_ret (results_rrt rfl _ _ BR 70 #[.int .i64 0, .int .i64 0, .int .i64 0, .int .i64 0, .int .i64 0, .int .i64 0, .int .i64 0] (0, 0) _ BV 50 #[.bool false, .bool false, .bool false] (0, 0) _ rfl HRm.out Tryz.underlying70 rfl sizeJ rfl HVm.out Tryz.underlying50 rfl sizeV) rfl ?_
  exact ⟨rfl, HGm.out⟩
set_option maxRecDepth 100000 in
set_option maxHeartbeats 8000000 in
theorem ch_high (j : JobV) (t : TaskV) (w w0 : World) (hg0 : w.grownBy w0 none) (h : chMay j t 1 = true) :
    Calls Tryz.prog 51 #[jobVal j, taskVal t, .int .i64 1] w0 fun e w' => e = .returned (.tuple #[jobVal (oneMore j), verVal (spentB t.clow (oneMore j)) (decide (j.used + 1 = j.dem)) (spentB t.chigh (oneMore j)), .int .i64 0]) ∧ w.grownBy w' none := by
  have CM := hide (fun W => cmay_any j t 1 W)
  rw [h] at CM
  have hj := job_parts (show jobMay j = true by unfold chMay at h; rw [Bool.and_eq_true] at h; exact h.1)
  have HG := hide hg0
  have CH := hide (fun W => hoped_any t W)
  have CO := hide (fun W => spent_any t.clow (oneMore j) W)
  have CG := hide (fun W => granted_high t W)
  have CK := hide (fun W => spent_any t.chigh (oneMore j) W)
  generalize spentB t.clow (oneMore j) = bo at *
  generalize spentB t.chigh (oneMore j) = bk at *
  clear hg0 h
  obtain ⟨y0, y1, y2, y3, y4, y5, y6⟩ := j
  obtain ⟨x0, x1, x2, x3, x4, x5⟩ := t
  dsimp only [jobVal, taskVal, oneMore] at *
  have hu1 : 0 ≤ y6 := hj.2.2.2.2.2.2.2.2.2.2.1
  have hu2 : y6 < 65535 := by omega
  clear hj
  go_enter Tryz.func51, Tryz.ntmps51
  go_upto_region 1 with (first | fail)
  have hg : w0.grownBy ((((w0.alloc (.cells #[.int .i64 y0, .int .i64 y1, .int .i64 y2, .int .i64 y3, .int .i64 y4, .int .i64 y5, .int .i64 y6] 70)).alloc (.cells #[.int .i64 x0, .int .i64 x1, .int .i64 x2, .int .i64 x3, .int .i64 x4, .int .i64 x5] 73)).alloc (.cells #[.int .i64 0, .int .i64 0, .int .i64 0, .int .i64 0, .int .i64 0, .int .i64 0, .int .i64 0] 70)).alloc (.cells #[.bool false, .bool false, .bool false] 50)) none := (grownBy_trans (grownBy_trans (grownBy_trans (grownBy_trans (grownBy_refl _ _) (World.grownBy_alloc _ _ none)) (World.grownBy_alloc _ _ none)) (World.grownBy_alloc _ _ none)) (World.grownBy_alloc _ _ none))
  have hJ := heap_alloc_new w0 (.cells #[.int .i64 y0, .int .i64 y1, .int .i64 y2, .int .i64 y3, .int .i64 y4, .int .i64 y5, .int .i64 y6] 70)
  have HJq := hide (hp_up (hp_up (hp_up hJ (.cells #[.int .i64 x0, .int .i64 x1, .int .i64 x2, .int .i64 x3, .int .i64 x4, .int .i64 x5] 73)) (.cells #[.int .i64 0, .int .i64 0, .int .i64 0, .int .i64 0, .int .i64 0, .int .i64 0, .int .i64 0] 70)) (.cells #[.bool false, .bool false, .bool false] 50))
  clear hJ
  have LJ : Hid (w.heap.size ≤ w0.heap.size) := hide (by have := HG.out.size; omega)
  have hT : ((w0.alloc (.cells #[.int .i64 y0, .int .i64 y1, .int .i64 y2, .int .i64 y3, .int .i64 y4, .int .i64 y5, .int .i64 y6] 70)).alloc (.cells #[.int .i64 x0, .int .i64 x1, .int .i64 x2, .int .i64 x3, .int .i64 x4, .int .i64 x5] 73)).heap[w0.heap.size + 1]? = some (.cells #[.int .i64 x0, .int .i64 x1, .int .i64 x2, .int .i64 x3, .int .i64 x4, .int .i64 x5] 73) := by have h := heap_alloc_new (w0.alloc (.cells #[.int .i64 y0, .int .i64 y1, .int .i64 y2, .int .i64 y3, .int .i64 y4, .int .i64 y5, .int .i64 y6] 70)) (.cells #[.int .i64 x0, .int .i64 x1, .int .i64 x2, .int .i64 x3, .int .i64 x4, .int .i64 x5] 73); rwa [show (w0.alloc (.cells #[.int .i64 y0, .int .i64 y1, .int .i64 y2, .int .i64 y3, .int .i64 y4, .int .i64 y5, .int .i64 y6] 70)).heap.size = w0.heap.size + 1 by simp] at h
  have HTq := hide (hp_up (hp_up hT (.cells #[.int .i64 0, .int .i64 0, .int .i64 0, .int .i64 0, .int .i64 0, .int .i64 0, .int .i64 0] 70)) (.cells #[.bool false, .bool false, .bool false] 50))
  clear hT
  have LT : Hid (w.heap.size ≤ w0.heap.size + 1) := hide (by have := HG.out.size; omega)
  have hR : (((w0.alloc (.cells #[.int .i64 y0, .int .i64 y1, .int .i64 y2, .int .i64 y3, .int .i64 y4, .int .i64 y5, .int .i64 y6] 70)).alloc (.cells #[.int .i64 x0, .int .i64 x1, .int .i64 x2, .int .i64 x3, .int .i64 x4, .int .i64 x5] 73)).alloc (.cells #[.int .i64 0, .int .i64 0, .int .i64 0, .int .i64 0, .int .i64 0, .int .i64 0, .int .i64 0] 70)).heap[w0.heap.size + 1 + 1]? = some (.cells #[.int .i64 0, .int .i64 0, .int .i64 0, .int .i64 0, .int .i64 0, .int .i64 0, .int .i64 0] 70) := by have h := heap_alloc_new ((w0.alloc (.cells #[.int .i64 y0, .int .i64 y1, .int .i64 y2, .int .i64 y3, .int .i64 y4, .int .i64 y5, .int .i64 y6] 70)).alloc (.cells #[.int .i64 x0, .int .i64 x1, .int .i64 x2, .int .i64 x3, .int .i64 x4, .int .i64 x5] 73)) (.cells #[.int .i64 0, .int .i64 0, .int .i64 0, .int .i64 0, .int .i64 0, .int .i64 0, .int .i64 0] 70); rwa [show ((w0.alloc (.cells #[.int .i64 y0, .int .i64 y1, .int .i64 y2, .int .i64 y3, .int .i64 y4, .int .i64 y5, .int .i64 y6] 70)).alloc (.cells #[.int .i64 x0, .int .i64 x1, .int .i64 x2, .int .i64 x3, .int .i64 x4, .int .i64 x5] 73)).heap.size = w0.heap.size + 1 + 1 by simp] at h
  have HRq := hide (hp_up hR (.cells #[.bool false, .bool false, .bool false] 50))
  clear hR
  have LR : Hid (w.heap.size ≤ w0.heap.size + 1 + 1) := hide (by have := HG.out.size; omega)
  have hV : ((((w0.alloc (.cells #[.int .i64 y0, .int .i64 y1, .int .i64 y2, .int .i64 y3, .int .i64 y4, .int .i64 y5, .int .i64 y6] 70)).alloc (.cells #[.int .i64 x0, .int .i64 x1, .int .i64 x2, .int .i64 x3, .int .i64 x4, .int .i64 x5] 73)).alloc (.cells #[.int .i64 0, .int .i64 0, .int .i64 0, .int .i64 0, .int .i64 0, .int .i64 0, .int .i64 0] 70)).alloc (.cells #[.bool false, .bool false, .bool false] 50)).heap[w0.heap.size + 1 + 1 + 1]? = some (.cells #[.bool false, .bool false, .bool false] 50) := by have h := heap_alloc_new (((w0.alloc (.cells #[.int .i64 y0, .int .i64 y1, .int .i64 y2, .int .i64 y3, .int .i64 y4, .int .i64 y5, .int .i64 y6] 70)).alloc (.cells #[.int .i64 x0, .int .i64 x1, .int .i64 x2, .int .i64 x3, .int .i64 x4, .int .i64 x5] 73)).alloc (.cells #[.int .i64 0, .int .i64 0, .int .i64 0, .int .i64 0, .int .i64 0, .int .i64 0, .int .i64 0] 70)) (.cells #[.bool false, .bool false, .bool false] 50); rwa [show (((w0.alloc (.cells #[.int .i64 y0, .int .i64 y1, .int .i64 y2, .int .i64 y3, .int .i64 y4, .int .i64 y5, .int .i64 y6] 70)).alloc (.cells #[.int .i64 x0, .int .i64 x1, .int .i64 x2, .int .i64 x3, .int .i64 x4, .int .i64 x5] 73)).alloc (.cells #[.int .i64 0, .int .i64 0, .int .i64 0, .int .i64 0, .int .i64 0, .int .i64 0, .int .i64 0] 70)).heap.size = w0.heap.size + 1 + 1 + 1 by simp] at h
  have HVq := hide hV
  clear hV
  have LV : Hid (w.heap.size ≤ w0.heap.size + 1 + 1 + 1) := hide (by have := HG.out.size; omega)
  have HGn := hide (grownBy_trans HG.out hg)
  clear HG
  have HG := HGn
  clear HGn
  clear hg
  have HJ := HJq
  clear HJq
  have HT := HTq
  clear HTq
  have HR := HRq
  clear HRq
  have HV := HVq
  clear HVq
  have HOJ : Hid (w0.heap.size < w0.heap.size + 1 ∧ w0.heap.size + 1 < w0.heap.size + 1 + 1 ∧ w0.heap.size + 1 + 1 < w0.heap.size + 1 + 1 + 1) := hide (by omega)
  generalize hWx : ((((w0.alloc (.cells #[.int .i64 y0, .int .i64 y1, .int .i64 y2, .int .i64 y3, .int .i64 y4, .int .i64 y5, .int .i64 y6] 70)).alloc (.cells #[.int .i64 x0, .int .i64 x1, .int .i64 x2, .int .i64 x3, .int .i64 x4, .int .i64 x5] 73)).alloc (.cells #[.int .i64 0, .int .i64 0, .int .i64 0, .int .i64 0, .int .i64 0, .int .i64 0, .int .i64 0] 70)).alloc (.cells #[.bool false, .bool false, .bool false] 50)) = w1 at *
  clear hWx
  generalize hBx : w0.heap.size + 1 + 1 + 1 = BV at *
  clear hBx
  generalize hBx : w0.heap.size + 1 + 1 = BR at *
  clear hBx
  generalize hBx : w0.heap.size + 1 = BT at *
  clear hBx
  generalize hBx : w0.heap.size = BJ at *
  clear hBx
  have cJ0 : w1.cell? ⟨BJ, 0, none⟩ = some (.int .i64 y0) := blk_cell HJ.out 0
  have cJ1 : w1.cell? ⟨BJ, 1, none⟩ = some (.int .i64 y1) := blk_cell HJ.out 1
  have cJ2 : w1.cell? ⟨BJ, 2, none⟩ = some (.int .i64 y2) := blk_cell HJ.out 2
  have cJ3 : w1.cell? ⟨BJ, 3, none⟩ = some (.int .i64 y3) := blk_cell HJ.out 3
  have cJ4 : w1.cell? ⟨BJ, 4, none⟩ = some (.int .i64 y4) := blk_cell HJ.out 4
  have cJ5 : w1.cell? ⟨BJ, 5, none⟩ = some (.int .i64 y5) := blk_cell HJ.out 5
  have cJ6 : w1.cell? ⟨BJ, 6, none⟩ = some (.int .i64 y6) := blk_cell HJ.out 6
  have cT0 : w1.cell? ⟨BT, 0, none⟩ = some (.int .i64 x0) := blk_cell HT.out 0
  have cT1 : w1.cell? ⟨BT, 1, none⟩ = some (.int .i64 x1) := blk_cell HT.out 1
  have cT2 : w1.cell? ⟨BT, 2, none⟩ = some (.int .i64 x2) := blk_cell HT.out 2
  have cT3 : w1.cell? ⟨BT, 3, none⟩ = some (.int .i64 x3) := blk_cell HT.out 3
  have cT4 : w1.cell? ⟨BT, 4, none⟩ = some (.int .i64 x4) := blk_cell HT.out 4
  have cT5 : w1.cell? ⟨BT, 5, none⟩ = some (.int .i64 x5) := blk_cell HT.out 5
  go_wp2_with (first | fail)
  refine (CM.out _).mono ?_; rintro e w2 ⟨rfl, hg⟩
  clear cJ0 cJ1 cJ2 cJ3 cJ4 cJ5 cJ6 cT0 cT1 cT2 cT3 cT4 cT5
  have HGn := hide (grownBy_trans HG.out hg)
  have HJn := hide (box_grown HJ.out hg (by simp))
  have HTn := hide (box_grown HT.out hg (by simp))
  have HRn := hide (box_grown HR.out hg (by simp))
  have HVn := hide (box_grown HV.out hg (by simp))
  clear HG HJ HT HR HV
  have HG := HGn
  have HJ := HJn
  have HT := HTn
  have HR := HRn
  have HV := HVn
  clear HGn HJn HTn HRn HVn
  clear hg
  have cJ6 : w2.cell? ⟨BJ, 6, none⟩ = some (.int .i64 y6) := blk_cell HJ.out 6
  have fJ6 := blk_free HJ.out 6
  go_upto_region 4 with (first | fail)
  generalize hU : y6 + 1 = u at *
  have HU := hide hU
  clear hU hu1 hu2
  clear cJ6 fJ6
  have hg := grownBy_set w2 BJ 6 (.int .i64 u)
  have HGn := hide (grown_spoil HG.out LJ.out hg)
  have HTn := hide (box_type HT.out hg (type_box HJ.out) (by decide))
  have HRn := hide (box_grown HR.out hg (by simp; have := HOJ.out; omega))
  have HVn := hide (box_type HV.out hg (type_box HJ.out) (by decide))
  have HJn := hide (blk_set (j := 6) (u := .int .i64 u) (cs' := #[.int .i64 y0, .int .i64 y1, .int .i64 y2, .int .i64 y3, .int .i64 y4, .int .i64 y5, .int .i64 u]) HJ.out rfl)
  clear HG HT HR HV HJ
  have HG := HGn
  have HT := HTn
  have HR := HRn
  have HV := HVn
  have HJ := HJn
  clear HGn HTn HRn HVn HJn
  clear hg
  generalize hWx : w2.setCell ⟨BJ, 6, none⟩ (.int .i64 u) = w3 at *
  clear hWx
  have HSS : Hid ((fun W => W.heap[BJ]? = some (.cells #[.int .i64 y0, .int .i64 y1, .int .i64 y2, .int .i64 y3, .int .i64 y4, .int .i64 y5, .int .i64 u] 70 (0, 0)) ∧ W.heap[BT]? = some (.cells #[.int .i64 x0, .int .i64 x1, .int .i64 x2, .int .i64 x3, .int .i64 x4, .int .i64 x5] 73 (0, 0))) w3) := hide ⟨HJ.out, HT.out⟩
  refine wp_region_held_drew (S := fun W => W.heap[BJ]? = some (.cells #[.int .i64 y0, .int .i64 y1, .int .i64 y2, .int .i64 y3, .int .i64 y4, .int .i64 y5, .int .i64 u] 70 (0, 0)) ∧ W.heap[BT]? = some (.cells #[.int .i64 x0, .int .i64 x1, .int .i64 x2, .int .i64 x3, .int .i64 x4, .int .i64 x5] 73 (0, 0))) (by kernel_rfl) HSS.out (fun hHeld => ?_)
  have HGd : Hid (w.grownBy w3.drew none) := hide (grownBy_trans HG.out (grownBy_draws w3 1 none))
  have HSSd : Hid ((fun W => W.heap[BJ]? = some (.cells #[.int .i64 y0, .int .i64 y1, .int .i64 y2, .int .i64 y3, .int .i64 y4, .int .i64 y5, .int .i64 u] 70 (0, 0)) ∧ W.heap[BT]? = some (.cells #[.int .i64 x0, .int .i64 x1, .int .i64 x2, .int .i64 x3, .int .i64 x4, .int .i64 x5] 73 (0, 0))) w3.drew) := hide HSS.out
  have HRd := hide (box_grown HR.out (grownBy_draws w3 1 none) (by simp))
  have HVd := hide (box_grown HV.out (grownBy_draws w3 1 none) (by simp))
  clear HG HSS HR HV HJ HT
  have hdd : w3.drewN 1 = w3.drew := rfl
  rw [hdd] at HRd HVd
  clear hdd
  generalize w3.drew = W at *
  have HG := HGd
  have HSS := HSSd
  have HR := HRd
  have HV := HVd
  clear HGd HSSd HRd HVd
  refine take_put (i := 0) (v := .int .i64 1) 21 rfl rfl (by kernel_rfl) (by kernel_rfl) (by kernel_rfl) (fun _ _ _ h => h) (Or.inl ⟨by rfl, by intro Wy hSW; go_simp⟩) (by assumption) ?_
  (try simp only [Act.put, List.setIfInBounds_toArray, List.set_cons_zero, List.set_cons_succ])
  refine take_put (i := 1) (v := .bool true) 22 rfl rfl (by kernel_rfl) (by kernel_rfl) (by kernel_rfl) (fun _ _ _ h => h) (Or.inl ⟨by rfl, by intro Wy hSW; go_simp⟩) (by assumption) ?_
  (try simp only [Act.put, List.setIfInBounds_toArray, List.set_cons_zero, List.set_cons_succ])
  refine take_put (i := 2) (v := .bool true) 23 rfl rfl (by kernel_rfl) (by kernel_rfl) (by kernel_rfl) (fun _ _ _ h => h) (Or.inl ⟨by rfl, by intro Wy hSW; go_simp⟩) (by assumption) ?_
  (try simp only [Act.put, List.setIfInBounds_toArray, List.set_cons_zero, List.set_cons_succ])
  refine take_put (i := 3) (v := .agg #[.int .i64 x0, .int .i64 x1, .int .i64 x2, .int .i64 x3, .int .i64 x4, .int .i64 x5]) 24 rfl rfl (by kernel_rfl) (by kernel_rfl) (by kernel_rfl) (fun _ _ _ h => h) (Or.inl ⟨by rfl, by intro Wy hSW; have hc := (⟨blk_cell hSW.2 0, blk_cell hSW.2 1, blk_cell hSW.2 2, blk_cell hSW.2 3, blk_cell hSW.2 4, blk_cell hSW.2 5⟩ : _ ∧ _ ∧ _ ∧ _ ∧ _ ∧ _); go_simp⟩) (by assumption) ?_
  (try simp only [Act.put, List.setIfInBounds_toArray, List.set_cons_zero, List.set_cons_succ])
  refine take_put (i := 5) (v := .agg #[.int .i64 y0, .int .i64 y1, .int .i64 y2, .int .i64 y3, .int .i64 y4, .int .i64 y5, .int .i64 u]) 26 rfl rfl (by kernel_rfl) (by kernel_rfl) (by kernel_rfl) (fun _ _ _ h => h) (Or.inl ⟨by rfl, by intro Wy hSW; have hc := (⟨blk_cell hSW.1 0, blk_cell hSW.1 1, blk_cell hSW.1 2, blk_cell hSW.1 3, blk_cell hSW.1 4, blk_cell hSW.1 5, blk_cell hSW.1 6⟩ : _ ∧ _ ∧ _ ∧ _ ∧ _ ∧ _ ∧ _); go_simp⟩) (by assumption) ?_
  (try simp only [Act.put, List.setIfInBounds_toArray, List.set_cons_zero, List.set_cons_succ])
  refine take_put (i := 8) (v := .pointer (some ⟨BJ, 6, none⟩)) 29 rfl rfl (by kernel_rfl) (by kernel_rfl) (by kernel_rfl) (fun _ _ _ h => h) (Or.inl ⟨by rfl, by intro Wy hSW; go_simp⟩) (by assumption) ?_
  (try simp only [Act.put, List.setIfInBounds_toArray, List.set_cons_zero, List.set_cons_succ])
  refine take_put (i := 9) (v := .int .i64 u) 30 rfl rfl (by kernel_rfl) (by kernel_rfl) (by kernel_rfl) (fun _ _ _ h => h) (Or.inl ⟨by rfl, by intro Wy hSW; have hc := blk_cell hSW.1 6; go_simp⟩) (by assumption) ?_
  (try simp only [Act.put, List.setIfInBounds_toArray, List.set_cons_zero, List.set_cons_succ])
  refine take_put (i := 10) (v := .pointer (some ⟨BJ, 5, none⟩)) 31 rfl rfl (by kernel_rfl) (by kernel_rfl) (by kernel_rfl) (fun _ _ _ h => h) (Or.inl ⟨by rfl, by intro Wy hSW; go_simp⟩) (by assumption) ?_
  (try simp only [Act.put, List.setIfInBounds_toArray, List.set_cons_zero, List.set_cons_succ])
  refine take_put (i := 11) (v := .int .i64 y5) 32 rfl rfl (by kernel_rfl) (by kernel_rfl) (by kernel_rfl) (fun _ _ _ h => h) (Or.inl ⟨by rfl, by intro Wy hSW; have hc := blk_cell hSW.1 5; go_simp⟩) (by assumption) ?_
  (try simp only [Act.put, List.setIfInBounds_toArray, List.set_cons_zero, List.set_cons_succ])
  refine take_put (i := 12) (v := .bool (u == y5)) 33 rfl rfl (by kernel_rfl) (by kernel_rfl) (by kernel_rfl) (fun _ _ _ h => h) (Or.inl ⟨by rfl, by intro Wy hSW; go_simp⟩) (by assumption) ?_
  (try simp only [Act.put, List.setIfInBounds_toArray, List.set_cons_zero, List.set_cons_succ])
  refine take_put (i := 13) (v := .agg #[.int .i64 x0, .int .i64 x1, .int .i64 x2, .int .i64 x3, .int .i64 x4, .int .i64 x5]) 34 rfl rfl (by kernel_rfl) (by kernel_rfl) (by kernel_rfl) (fun _ _ _ h => h) (Or.inl ⟨by rfl, by intro Wy hSW; have hc := (⟨blk_cell hSW.2 0, blk_cell hSW.2 1, blk_cell hSW.2 2, blk_cell hSW.2 3, blk_cell hSW.2 4, blk_cell hSW.2 5⟩ : _ ∧ _ ∧ _ ∧ _ ∧ _ ∧ _); go_simp⟩) (by assumption) ?_
  (try simp only [Act.put, List.setIfInBounds_toArray, List.set_cons_zero, List.set_cons_succ])
  refine take_put (i := 14) (v := .int .i64 1) 35 rfl rfl (by kernel_rfl) (by kernel_rfl) (by kernel_rfl) (fun _ _ _ h => h) (Or.inl ⟨by rfl, by intro Wy hSW; go_simp⟩) (by assumption) ?_
  (try simp only [Act.put, List.setIfInBounds_toArray, List.set_cons_zero, List.set_cons_succ])
  refine take_put (i := 16) (v := .agg #[.int .i64 y0, .int .i64 y1, .int .i64 y2, .int .i64 y3, .int .i64 y4, .int .i64 y5, .int .i64 u]) 37 rfl rfl (by kernel_rfl) (by kernel_rfl) (by kernel_rfl) (fun _ _ _ h => h) (Or.inl ⟨by rfl, by intro Wy hSW; have hc := (⟨blk_cell hSW.1 0, blk_cell hSW.1 1, blk_cell hSW.1 2, blk_cell hSW.1 3, blk_cell hSW.1 4, blk_cell hSW.1 5, blk_cell hSW.1 6⟩ : _ ∧ _ ∧ _ ∧ _ ∧ _ ∧ _ ∧ _); go_simp⟩) (by assumption) ?_
  (try simp only [Act.put, List.setIfInBounds_toArray, List.set_cons_zero, List.set_cons_succ])
  refine wpAnyH_ready (rs := [4, 19]) (by kernel_rfl) (by simp) ?_
  refine AllReadyH.cons rfl (fun Kx hKx => ?_) (AllReadyH.cons rfl (fun Kx hKx => ?_) AllReadyH.nil)
  · skip
    go_simp
    refine (CH.out _).mono ?_; rintro e W1 ⟨rfl, hg⟩
    have HGn := hide (grownBy_trans HG.out hg)
    have HSSn : Hid ((fun W => W.heap[BJ]? = some (.cells #[.int .i64 y0, .int .i64 y1, .int .i64 y2, .int .i64 y3, .int .i64 y4, .int .i64 y5, .int .i64 u] 70 (0, 0)) ∧ W.heap[BT]? = some (.cells #[.int .i64 x0, .int .i64 x1, .int .i64 x2, .int .i64 x3, .int .i64 x4, .int .i64 x5] 73 (0, 0))) W1) := hide ⟨box_grown HSS.out.1 hg (by simp), box_grown HSS.out.2 hg (by simp)⟩
    have HRn := hide (box_grown HR.out hg (by simp))
    have HVn := hide (box_grown HV.out hg (by simp))
    clear HG HSS hHeld HR HV
    have HG := HGn
    have HSS := HSSn
    have HR := HRn
    have HV := HVn
    clear HGn HSSn HRn HVn
    clear hg
    refine hKx.out _ _ HSS.out (fun hHeld => ?_)
    clear hKx Kx
    (try simp only [Act.put])
    refine wpAnyH_ready (rs := [6, 19]) (by kernel_rfl) (by simp) ?_
    refine AllReadyH.cons rfl (fun Kx hKx => ?_) (AllReadyH.cons rfl (fun Kx hKx => ?_) AllReadyH.nil)
    · skip
      go_simp
      refine (CO.out _).mono ?_; rintro e W2 ⟨rfl, hg⟩
      have HGn := hide (grownBy_trans HG.out hg)
      have HSSn : Hid ((fun W => W.heap[BJ]? = some (.cells #[.int .i64 y0, .int .i64 y1, .int .i64 y2, .int .i64 y3, .int .i64 y4, .int .i64 y5, .int .i64 u] 70 (0, 0)) ∧ W.heap[BT]? = some (.cells #[.int .i64 x0, .int .i64 x1, .int .i64 x2, .int .i64 x3, .int .i64 x4, .int .i64 x5] 73 (0, 0))) W2) := hide ⟨box_grown HSS.out.1 hg (by simp), box_grown HSS.out.2 hg (by simp)⟩
      have HRn := hide (box_grown HR.out hg (by simp))
      have HVn := hide (box_grown HV.out hg (by simp))
      clear HG HSS hHeld HR HV
      have HG := HGn
      have HSS := HSSn
      have HR := HRn
      have HV := HVn
      clear HGn HSSn HRn HVn
      clear hg
      refine hKx.out _ _ HSS.out (fun hHeld => ?_)
      clear hKx Kx
      (try simp only [Act.put])
      refine take_put (i := 7) (v := .bool bo) 28 rfl rfl (by kernel_rfl) (by kernel_rfl) (by kernel_rfl) (fun _ _ _ h => h) (Or.inl ⟨by rfl, by intro Wy hSW; go_simp⟩) (by assumption) ?_
      (try simp only [Act.put, List.setIfInBounds_toArray, List.set_cons_zero, List.set_cons_succ])
      refine wpAnyH_ready (rs := [15, 19]) (by kernel_rfl) (by simp) ?_
      refine AllReadyH.cons rfl (fun Kx hKx => ?_) (AllReadyH.cons rfl (fun Kx hKx => ?_) AllReadyH.nil)
      · skip
        go_simp
        refine (CG.out _).mono ?_; rintro e W3 ⟨rfl, hg⟩
        have HGn := hide (grownBy_trans HG.out hg)
        have HSSn : Hid ((fun W => W.heap[BJ]? = some (.cells #[.int .i64 y0, .int .i64 y1, .int .i64 y2, .int .i64 y3, .int .i64 y4, .int .i64 y5, .int .i64 u] 70 (0, 0)) ∧ W.heap[BT]? = some (.cells #[.int .i64 x0, .int .i64 x1, .int .i64 x2, .int .i64 x3, .int .i64 x4, .int .i64 x5] 73 (0, 0))) W3) := hide ⟨box_grown HSS.out.1 hg (by simp), box_grown HSS.out.2 hg (by simp)⟩
        have HRn := hide (box_grown HR.out hg (by simp))
        have HVn := hide (box_grown HV.out hg (by simp))
        clear HG HSS hHeld HR HV
        have HG := HGn
        have HSS := HSSn
        have HR := HRn
        have HV := HVn
        clear HGn HSSn HRn HVn
        clear hg
        refine hKx.out _ _ HSS.out (fun hHeld => ?_)
        clear hKx Kx
        (try simp only [Act.put])
        refine wpAnyH_ready (rs := [17, 19]) (by kernel_rfl) (by simp) ?_
        refine AllReadyH.cons rfl (fun Kx hKx => ?_) (AllReadyH.cons rfl (fun Kx hKx => ?_) AllReadyH.nil)
        · skip
          go_simp
          refine (CK.out _).mono ?_; rintro e W4 ⟨rfl, hg⟩
          have HGn := hide (grownBy_trans HG.out hg)
          have HSSn : Hid ((fun W => W.heap[BJ]? = some (.cells #[.int .i64 y0, .int .i64 y1, .int .i64 y2, .int .i64 y3, .int .i64 y4, .int .i64 y5, .int .i64 u] 70 (0, 0)) ∧ W.heap[BT]? = some (.cells #[.int .i64 x0, .int .i64 x1, .int .i64 x2, .int .i64 x3, .int .i64 x4, .int .i64 x5] 73 (0, 0))) W4) := hide ⟨box_grown HSS.out.1 hg (by simp), box_grown HSS.out.2 hg (by simp)⟩
          have HRn := hide (box_grown HR.out hg (by simp))
          have HVn := hide (box_grown HV.out hg (by simp))
          clear HG HSS hHeld HR HV
          have HG := HGn
          have HSS := HSSn
          have HR := HRn
          have HV := HVn
          clear HGn HSSn HRn HVn
          clear hg
          refine hKx.out _ _ HSS.out (fun hHeld => ?_)
          clear hKx Kx
          (try simp only [Act.put])
          refine take_put (i := 18) (v := .agg #[.bool bo, .bool (u == y5), .bool bk]) 39 rfl rfl (by kernel_rfl) (by kernel_rfl) (by kernel_rfl) (fun _ _ _ h => h) (Or.inl ⟨by rfl, by intro Wy hSW; go_simp⟩) (by assumption) ?_
          (try simp only [Act.put, List.setIfInBounds_toArray, List.set_cons_zero, List.set_cons_succ])
          refine wpAnyH_ready (rs := [19]) (by kernel_rfl) (by simp) ?_
          refine AllReadyH.cons rfl (fun Kx hKx => ?_) AllReadyH.nil
          go_simp
          have hg := World.grownBy_alloc W4 (.cells #[.bool false, .bool false, .bool false] 50) none
          have HNq := hide (heap_alloc_new W4 (.cells #[.bool false, .bool false, .bool false] 50))
          have LN : Hid (w.heap.size ≤ W4.heap.size ∧ W4.heap.size ≠ BJ ∧ W4.heap.size ≠ BT ∧ W4.heap.size ≠ BR ∧ W4.heap.size ≠ BV) := hide ⟨HG.out.size, fun e => absurd (box_lt HSS.out.1) (by omega), fun e => absurd (box_lt HSS.out.2) (by omega), fun e => absurd (box_lt HR.out) (by omega), fun e => absurd (box_lt HV.out) (by omega)⟩
          have HGn := hide (grownBy_trans HG.out hg)
          have HSSn : Hid ((fun W => W.heap[BJ]? = some (.cells #[.int .i64 y0, .int .i64 y1, .int .i64 y2, .int .i64 y3, .int .i64 y4, .int .i64 y5, .int .i64 u] 70 (0, 0)) ∧ W.heap[BT]? = some (.cells #[.int .i64 x0, .int .i64 x1, .int .i64 x2, .int .i64 x3, .int .i64 x4, .int .i64 x5] 73 (0, 0))) (W4.alloc (.cells #[.bool false, .bool false, .bool false] 50))) := hide ⟨box_grown HSS.out.1 hg (by simp), box_grown HSS.out.2 hg (by simp)⟩
          have HRn := hide (box_grown HR.out hg (by simp))
          have HVn := hide (box_grown HV.out hg (by simp))
          clear HG HSS hHeld HR HV
          have HG := HGn
          have HSS := HSSn
          have HR := HRn
          have HV := HVn
          clear HGn HSSn HRn HVn
          clear hg
          have HN := HNq
          clear HNq
          refine hKx.out _ _ HSS.out (fun hHeld => ?_)
          clear hKx Kx
          (try simp only [Act.put])
          generalize W4.alloc (.cells #[.bool false, .bool false, .bool false] 50) = W5 at *
          generalize W4.heap.size = BN at *
          refine wpAnyH_ready (rs := [20]) (by kernel_rfl) (by simp) ?_
          refine AllReadyH.cons rfl (fun Kx hKx => ?_) AllReadyH.nil
          refine step_store 50 (.tmp 9) (.tmp 39) BN #[.bool bo, .bool (u == y5), .bool bk] 50 #[.bool false, .bool false, .bool false] rfl rfl HN.out sizeV rfl (by simp [Value.oneCell']) ?_
          intro W6 h1 e1 g1
          have HSSn : Hid ((fun W => W.heap[BJ]? = some (.cells #[.int .i64 y0, .int .i64 y1, .int .i64 y2, .int .i64 y3, .int .i64 y4, .int .i64 y5, .int .i64 u] 70 (0, 0)) ∧ W.heap[BT]? = some (.cells #[.int .i64 x0, .int .i64 x1, .int .i64 x2, .int .i64 x3, .int .i64 x4, .int .i64 x5] 73 (0, 0))) W6) := hide ⟨(e1 BJ LN.out.2.1.symm).trans HSS.out.1, (e1 BT LN.out.2.2.1.symm).trans HSS.out.2⟩
          have HRn := hide ((e1 BR LN.out.2.2.2.1.symm).trans HR.out)
          have HVn := hide ((e1 BV LN.out.2.2.2.2.symm).trans HV.out)
          have HNn := hide h1
          have HGn := hide (grown_spoil HG.out LN.out.1 g1)
          clear hHeld h1 e1 g1 HG HSS HR HV HN
          have HG := HGn
          have HSS := HSSn
          have HR := HRn
          have HV := HVn
          have HN := HNn
          clear HGn HSSn HRn HVn HNn
          refine hKx.out _ _ HSS.out (fun hHeld => ?_)
          clear hKx Kx
          (try simp only [Act.put])
          refine wpAnyH_done (by kernel_rfl) ?_ _
          clear hHeld
          go_upto_region 5 with (first | fail)
          have HSS2 : Hid ((fun W => W.heap[BJ]? = some (.cells #[.int .i64 y0, .int .i64 y1, .int .i64 y2, .int .i64 y3, .int .i64 y4, .int .i64 y5, .int .i64 u] 70 (0, 0)) ∧ W.heap[BN]? = some (.cells #[.bool bo, .bool (u == y5), .bool bk] 50 (0, 0))) W6) := hide ⟨HSS.out.1, HN.out⟩
          refine wp_region_held_drew (S := fun W => W.heap[BJ]? = some (.cells #[.int .i64 y0, .int .i64 y1, .int .i64 y2, .int .i64 y3, .int .i64 y4, .int .i64 y5, .int .i64 u] 70 (0, 0)) ∧ W.heap[BN]? = some (.cells #[.bool bo, .bool (u == y5), .bool bk] 50 (0, 0))) (by kernel_rfl) HSS2.out (fun hHeld => ?_)
          have HGd : Hid (w.grownBy W6.drew none) := hide (grownBy_trans HG.out (grownBy_draws W6 1 none))
          have HSSd : Hid ((fun W => W.heap[BJ]? = some (.cells #[.int .i64 y0, .int .i64 y1, .int .i64 y2, .int .i64 y3, .int .i64 y4, .int .i64 y5, .int .i64 u] 70 (0, 0)) ∧ W.heap[BN]? = some (.cells #[.bool bo, .bool (u == y5), .bool bk] 50 (0, 0))) W6.drew) := hide HSS2.out
          have HRd := hide (box_grown HR.out (grownBy_draws W6 1 none) (by simp))
          have HVd := hide (box_grown HV.out (grownBy_draws W6 1 none) (by simp))
          clear HG HSS HSS2 HR HV HN
          have hdd : W6.drewN 1 = W6.drew := rfl
          rw [hdd] at HRd HVd
          clear hdd
          generalize W6.drew = Z at *
          have HG := HGd
          have HSS := HSSd
          have HR := HRd
          have HV := HVd
          clear HGd HSSd HRd HVd
          refine take_put (i := 0) (v := .agg #[.int .i64 y0, .int .i64 y1, .int .i64 y2, .int .i64 y3, .int .i64 y4, .int .i64 y5, .int .i64 u]) 40 rfl rfl (by kernel_rfl) (by kernel_rfl) (by kernel_rfl) (fun _ _ _ h => h) (Or.inl ⟨by rfl, by intro Wy hSW; have hc := (⟨blk_cell hSW.1 0, blk_cell hSW.1 1, blk_cell hSW.1 2, blk_cell hSW.1 3, blk_cell hSW.1 4, blk_cell hSW.1 5, blk_cell hSW.1 6⟩ : _ ∧ _ ∧ _ ∧ _ ∧ _ ∧ _ ∧ _); go_simp⟩) (by assumption) ?_
          (try simp only [Act.put, List.setIfInBounds_toArray, List.set_cons_zero, List.set_cons_succ])
          refine take_put (i := 1) (v := .agg #[.bool bo, .bool (u == y5), .bool bk]) 41 rfl rfl (by kernel_rfl) (by kernel_rfl) (by kernel_rfl) (fun _ _ _ h => h) (Or.inl ⟨by rfl, by intro Wy hSW; have hc := (⟨blk_cell hSW.2 0, blk_cell hSW.2 1, blk_cell hSW.2 2⟩ : _ ∧ _ ∧ _); go_simp⟩) (by assumption) ?_
          (try simp only [Act.put, List.setIfInBounds_toArray, List.set_cons_zero, List.set_cons_succ])
          refine wpAnyH_ready (rs := [2]) (by kernel_rfl) (by simp) ?_
          refine AllReadyH.cons rfl (fun Kx hKx => ?_) AllReadyH.nil
          refine step_store 70 (.tmp 6) (.tmp 40) BR #[.int .i64 y0, .int .i64 y1, .int .i64 y2, .int .i64 y3, .int .i64 y4, .int .i64 y5, .int .i64 u] 70 #[.int .i64 0, .int .i64 0, .int .i64 0, .int .i64 0, .int .i64 0, .int .i64 0, .int .i64 0] rfl rfl HR.out sizeJ rfl (by simp [Value.oneCell']) ?_
          intro Y1 h1 e1 g1
          have HSSn : Hid ((fun W => W.heap[BJ]? = some (.cells #[.int .i64 y0, .int .i64 y1, .int .i64 y2, .int .i64 y3, .int .i64 y4, .int .i64 y5, .int .i64 u] 70 (0, 0)) ∧ W.heap[BN]? = some (.cells #[.bool bo, .bool (u == y5), .bool bk] 50 (0, 0))) Y1) := hide ⟨(e1 BJ (by have := HOJ.out; omega)).trans HSS.out.1, (e1 BN (LN.out.2.2.2.1)).trans HSS.out.2⟩
          have HVn := hide ((e1 BV (by have := HOJ.out; omega)).trans HV.out)
          have HRn := hide h1
          have HGn := hide (grown_spoil HG.out LR.out g1)
          clear hHeld h1 e1 g1 HG HSS HR HV
          have HG := HGn
          have HSS := HSSn
          have HR := HRn
          have HV := HVn
          clear HGn HSSn HRn HVn
          refine hKx.out _ _ HSS.out (fun hHeld => ?_)
          clear hKx Kx
          (try simp only [Act.put])
          refine wpAnyH_ready (rs := [3]) (by kernel_rfl) (by simp) ?_
          refine AllReadyH.cons rfl (fun Kx hKx => ?_) AllReadyH.nil
          refine step_store 50 (.tmp 7) (.tmp 41) BV #[.bool bo, .bool (u == y5), .bool bk] 50 #[.bool false, .bool false, .bool false] rfl rfl HV.out sizeV rfl (by simp [Value.oneCell']) ?_
          intro Y2 h1 e1 g1
          have HSSn : Hid ((fun W => W.heap[BJ]? = some (.cells #[.int .i64 y0, .int .i64 y1, .int .i64 y2, .int .i64 y3, .int .i64 y4, .int .i64 y5, .int .i64 u] 70 (0, 0)) ∧ W.heap[BN]? = some (.cells #[.bool bo, .bool (u == y5), .bool bk] 50 (0, 0))) Y2) := hide ⟨(e1 BJ (by have := HOJ.out; omega)).trans HSS.out.1, (e1 BN (LN.out.2.2.2.2)).trans HSS.out.2⟩
          have HRn := hide ((e1 BR (by have := HOJ.out; omega)).trans HR.out)
          have HVn := hide h1
          have HGn := hide (grown_spoil HG.out LV.out g1)
          clear hHeld h1 e1 g1 HG HSS HR HV
          have HG := HGn
          have HSS := HSSn
          have HR := HRn
          have HV := HVn
          clear HGn HSSn HRn HVn
          refine hKx.out _ _ HSS.out (fun hHeld => ?_)
          clear hKx Kx
          (try simp only [Act.put])
          refine take_put (i := 4) (v := .int .i64 0) 8 rfl rfl (by kernel_rfl) (by kernel_rfl) (by kernel_rfl) (fun _ _ _ h => h) (Or.inl ⟨by rfl, by intro Wy hSW; go_simp⟩) (by assumption) ?_
          (try simp only [Act.put, List.setIfInBounds_toArray, List.set_cons_zero, List.set_cons_succ])
          refine wpAnyH_done (by kernel_rfl) ?_ _
          clear hHeld
          go_wp2
          refine bodyPost_ret (results_rrt rfl _ _ BR 70 #[.int .i64 y0, .int .i64 y1, .int .i64 y2, .int .i64 y3, .int .i64 y4, .int .i64 y5, .int .i64 u] (0, 0) _ BV 50 #[.bool bo, .bool (u == y5), .bool bk] (0, 0) _ rfl HR.out Tryz.underlying70 rfl sizeJ rfl HV.out Tryz.underlying50 rfl sizeV) rfl ?_
          rw [HU.out]
          exact ⟨rfl, HG.out⟩
        · skip
          go_simp
          have hg := World.grownBy_alloc W3 (.cells #[.bool false, .bool false, .bool false] 50) none
          have HNq := hide (heap_alloc_new W3 (.cells #[.bool false, .bool false, .bool false] 50))
          have LN : Hid (w.heap.size ≤ W3.heap.size ∧ W3.heap.size ≠ BJ ∧ W3.heap.size ≠ BT ∧ W3.heap.size ≠ BR ∧ W3.heap.size ≠ BV) := hide ⟨HG.out.size, fun e => absurd (box_lt HSS.out.1) (by omega), fun e => absurd (box_lt HSS.out.2) (by omega), fun e => absurd (box_lt HR.out) (by omega), fun e => absurd (box_lt HV.out) (by omega)⟩
          have HGn := hide (grownBy_trans HG.out hg)
          have HSSn : Hid ((fun W => W.heap[BJ]? = some (.cells #[.int .i64 y0, .int .i64 y1, .int .i64 y2, .int .i64 y3, .int .i64 y4, .int .i64 y5, .int .i64 u] 70 (0, 0)) ∧ W.heap[BT]? = some (.cells #[.int .i64 x0, .int .i64 x1, .int .i64 x2, .int .i64 x3, .int .i64 x4, .int .i64 x5] 73 (0, 0))) (W3.alloc (.cells #[.bool false, .bool false, .bool false] 50))) := hide ⟨box_grown HSS.out.1 hg (by simp), box_grown HSS.out.2 hg (by simp)⟩
          have HRn := hide (box_grown HR.out hg (by simp))
          have HVn := hide (box_grown HV.out hg (by simp))
          clear HG HSS hHeld HR HV
          have HG := HGn
          have HSS := HSSn
          have HR := HRn
          have HV := HVn
          clear HGn HSSn HRn HVn
          clear hg
          have HN := HNq
          clear HNq
          refine hKx.out _ _ HSS.out (fun hHeld => ?_)
          clear hKx Kx
          (try simp only [Act.put])
          generalize W3.alloc (.cells #[.bool false, .bool false, .bool false] 50) = W7 at *
          generalize W3.heap.size = BN at *
          refine wpAnyH_ready (rs := [17]) (by kernel_rfl) (by simp) ?_
          refine AllReadyH.cons rfl (fun Kx hKx => ?_) AllReadyH.nil
          go_simp
          refine (CK.out _).mono ?_; rintro e W8 ⟨rfl, hg⟩
          have HGn := hide (grownBy_trans HG.out hg)
          have HSSn : Hid ((fun W => W.heap[BJ]? = some (.cells #[.int .i64 y0, .int .i64 y1, .int .i64 y2, .int .i64 y3, .int .i64 y4, .int .i64 y5, .int .i64 u] 70 (0, 0)) ∧ W.heap[BT]? = some (.cells #[.int .i64 x0, .int .i64 x1, .int .i64 x2, .int .i64 x3, .int .i64 x4, .int .i64 x5] 73 (0, 0))) W8) := hide ⟨box_grown HSS.out.1 hg (by simp), box_grown HSS.out.2 hg (by simp)⟩
          have HRn := hide (box_grown HR.out hg (by simp))
          have HVn := hide (box_grown HV.out hg (by simp))
          have HNn := hide (box_grown HN.out hg (by simp))
          clear HG HSS hHeld HR HV HN
          have HG := HGn
          have HSS := HSSn
          have HR := HRn
          have HV := HVn
          have HN := HNn
          clear HGn HSSn HRn HVn HNn
          clear hg
          refine hKx.out _ _ HSS.out (fun hHeld => ?_)
          clear hKx Kx
          (try simp only [Act.put])
          refine take_put (i := 18) (v := .agg #[.bool bo, .bool (u == y5), .bool bk]) 39 rfl rfl (by kernel_rfl) (by kernel_rfl) (by kernel_rfl) (fun _ _ _ h => h) (Or.inl ⟨by rfl, by intro Wy hSW; go_simp⟩) (by assumption) ?_
          (try simp only [Act.put, List.setIfInBounds_toArray, List.set_cons_zero, List.set_cons_succ])
          refine wpAnyH_ready (rs := [20]) (by kernel_rfl) (by simp) ?_
          refine AllReadyH.cons rfl (fun Kx hKx => ?_) AllReadyH.nil
          refine step_store 50 (.tmp 9) (.tmp 39) BN #[.bool bo, .bool (u == y5), .bool bk] 50 #[.bool false, .bool false, .bool false] rfl rfl HN.out sizeV rfl (by simp [Value.oneCell']) ?_
          intro W9 h1 e1 g1
          have HSSn : Hid ((fun W => W.heap[BJ]? = some (.cells #[.int .i64 y0, .int .i64 y1, .int .i64 y2, .int .i64 y3, .int .i64 y4, .int .i64 y5, .int .i64 u] 70 (0, 0)) ∧ W.heap[BT]? = some (.cells #[.int .i64 x0, .int .i64 x1, .int .i64 x2, .int .i64 x3, .int .i64 x4, .int .i64 x5] 73 (0, 0))) W9) := hide ⟨(e1 BJ LN.out.2.1.symm).trans HSS.out.1, (e1 BT LN.out.2.2.1.symm).trans HSS.out.2⟩
          have HRn := hide ((e1 BR LN.out.2.2.2.1.symm).trans HR.out)
          have HVn := hide ((e1 BV LN.out.2.2.2.2.symm).trans HV.out)
          have HNn := hide h1
          have HGn := hide (grown_spoil HG.out LN.out.1 g1)
          clear hHeld h1 e1 g1 HG HSS HR HV HN
          have HG := HGn
          have HSS := HSSn
          have HR := HRn
          have HV := HVn
          have HN := HNn
          clear HGn HSSn HRn HVn HNn
          refine hKx.out _ _ HSS.out (fun hHeld => ?_)
          clear hKx Kx
          (try simp only [Act.put])
          refine wpAnyH_done (by kernel_rfl) ?_ _
          clear hHeld
          go_upto_region 5 with (first | fail)
          have HSS2 : Hid ((fun W => W.heap[BJ]? = some (.cells #[.int .i64 y0, .int .i64 y1, .int .i64 y2, .int .i64 y3, .int .i64 y4, .int .i64 y5, .int .i64 u] 70 (0, 0)) ∧ W.heap[BN]? = some (.cells #[.bool bo, .bool (u == y5), .bool bk] 50 (0, 0))) W9) := hide ⟨HSS.out.1, HN.out⟩
          refine wp_region_held_drew (S := fun W => W.heap[BJ]? = some (.cells #[.int .i64 y0, .int .i64 y1, .int .i64 y2, .int .i64 y3, .int .i64 y4, .int .i64 y5, .int .i64 u] 70 (0, 0)) ∧ W.heap[BN]? = some (.cells #[.bool bo, .bool (u == y5), .bool bk] 50 (0, 0))) (by kernel_rfl) HSS2.out (fun hHeld => ?_)
          have HGd : Hid (w.grownBy W9.drew none) := hide (grownBy_trans HG.out (grownBy_draws W9 1 none))
          have HSSd : Hid ((fun W => W.heap[BJ]? = some (.cells #[.int .i64 y0, .int .i64 y1, .int .i64 y2, .int .i64 y3, .int .i64 y4, .int .i64 y5, .int .i64 u] 70 (0, 0)) ∧ W.heap[BN]? = some (.cells #[.bool bo, .bool (u == y5), .bool bk] 50 (0, 0))) W9.drew) := hide HSS2.out
          have HRd := hide (box_grown HR.out (grownBy_draws W9 1 none) (by simp))
          have HVd := hide (box_grown HV.out (grownBy_draws W9 1 none) (by simp))
          clear HG HSS HSS2 HR HV HN
          have hdd : W9.drewN 1 = W9.drew := rfl
          rw [hdd] at HRd HVd
          clear hdd
          generalize W9.drew = Z at *
          have HG := HGd
          have HSS := HSSd
          have HR := HRd
          have HV := HVd
          clear HGd HSSd HRd HVd
          refine take_put (i := 0) (v := .agg #[.int .i64 y0, .int .i64 y1, .int .i64 y2, .int .i64 y3, .int .i64 y4, .int .i64 y5, .int .i64 u]) 40 rfl rfl (by kernel_rfl) (by kernel_rfl) (by kernel_rfl) (fun _ _ _ h => h) (Or.inl ⟨by rfl, by intro Wy hSW; have hc := (⟨blk_cell hSW.1 0, blk_cell hSW.1 1, blk_cell hSW.1 2, blk_cell hSW.1 3, blk_cell hSW.1 4, blk_cell hSW.1 5, blk_cell hSW.1 6⟩ : _ ∧ _ ∧ _ ∧ _ ∧ _ ∧ _ ∧ _); go_simp⟩) (by assumption) ?_
          (try simp only [Act.put, List.setIfInBounds_toArray, List.set_cons_zero, List.set_cons_succ])
          refine take_put (i := 1) (v := .agg #[.bool bo, .bool (u == y5), .bool bk]) 41 rfl rfl (by kernel_rfl) (by kernel_rfl) (by kernel_rfl) (fun _ _ _ h => h) (Or.inl ⟨by rfl, by intro Wy hSW; have hc := (⟨blk_cell hSW.2 0, blk_cell hSW.2 1, blk_cell hSW.2 2⟩ : _ ∧ _ ∧ _); go_simp⟩) (by assumption) ?_
          (try simp only [Act.put, List.setIfInBounds_toArray, List.set_cons_zero, List.set_cons_succ])
          refine wpAnyH_ready (rs := [2]) (by kernel_rfl) (by simp) ?_
          refine AllReadyH.cons rfl (fun Kx hKx => ?_) AllReadyH.nil
          refine step_store 70 (.tmp 6) (.tmp 40) BR #[.int .i64 y0, .int .i64 y1, .int .i64 y2, .int .i64 y3, .int .i64 y4, .int .i64 y5, .int .i64 u] 70 #[.int .i64 0, .int .i64 0, .int .i64 0, .int .i64 0, .int .i64 0, .int .i64 0, .int .i64 0] rfl rfl HR.out sizeJ rfl (by simp [Value.oneCell']) ?_
          intro Y1 h1 e1 g1
          have HSSn : Hid ((fun W => W.heap[BJ]? = some (.cells #[.int .i64 y0, .int .i64 y1, .int .i64 y2, .int .i64 y3, .int .i64 y4, .int .i64 y5, .int .i64 u] 70 (0, 0)) ∧ W.heap[BN]? = some (.cells #[.bool bo, .bool (u == y5), .bool bk] 50 (0, 0))) Y1) := hide ⟨(e1 BJ (by have := HOJ.out; omega)).trans HSS.out.1, (e1 BN (LN.out.2.2.2.1)).trans HSS.out.2⟩
          have HVn := hide ((e1 BV (by have := HOJ.out; omega)).trans HV.out)
          have HRn := hide h1
          have HGn := hide (grown_spoil HG.out LR.out g1)
          clear hHeld h1 e1 g1 HG HSS HR HV
          have HG := HGn
          have HSS := HSSn
          have HR := HRn
          have HV := HVn
          clear HGn HSSn HRn HVn
          refine hKx.out _ _ HSS.out (fun hHeld => ?_)
          clear hKx Kx
          (try simp only [Act.put])
          refine wpAnyH_ready (rs := [3]) (by kernel_rfl) (by simp) ?_
          refine AllReadyH.cons rfl (fun Kx hKx => ?_) AllReadyH.nil
          refine step_store 50 (.tmp 7) (.tmp 41) BV #[.bool bo, .bool (u == y5), .bool bk] 50 #[.bool false, .bool false, .bool false] rfl rfl HV.out sizeV rfl (by simp [Value.oneCell']) ?_
          intro Y2 h1 e1 g1
          have HSSn : Hid ((fun W => W.heap[BJ]? = some (.cells #[.int .i64 y0, .int .i64 y1, .int .i64 y2, .int .i64 y3, .int .i64 y4, .int .i64 y5, .int .i64 u] 70 (0, 0)) ∧ W.heap[BN]? = some (.cells #[.bool bo, .bool (u == y5), .bool bk] 50 (0, 0))) Y2) := hide ⟨(e1 BJ (by have := HOJ.out; omega)).trans HSS.out.1, (e1 BN (LN.out.2.2.2.2)).trans HSS.out.2⟩
          have HRn := hide ((e1 BR (by have := HOJ.out; omega)).trans HR.out)
          have HVn := hide h1
          have HGn := hide (grown_spoil HG.out LV.out g1)
          clear hHeld h1 e1 g1 HG HSS HR HV
          have HG := HGn
          have HSS := HSSn
          have HR := HRn
          have HV := HVn
          clear HGn HSSn HRn HVn
          refine hKx.out _ _ HSS.out (fun hHeld => ?_)
          clear hKx Kx
          (try simp only [Act.put])
          refine take_put (i := 4) (v := .int .i64 0) 8 rfl rfl (by kernel_rfl) (by kernel_rfl) (by kernel_rfl) (fun _ _ _ h => h) (Or.inl ⟨by rfl, by intro Wy hSW; go_simp⟩) (by assumption) ?_
          (try simp only [Act.put, List.setIfInBounds_toArray, List.set_cons_zero, List.set_cons_succ])
          refine wpAnyH_done (by kernel_rfl) ?_ _
          clear hHeld
          go_wp2
          refine bodyPost_ret (results_rrt rfl _ _ BR 70 #[.int .i64 y0, .int .i64 y1, .int .i64 y2, .int .i64 y3, .int .i64 y4, .int .i64 y5, .int .i64 u] (0, 0) _ BV 50 #[.bool bo, .bool (u == y5), .bool bk] (0, 0) _ rfl HR.out Tryz.underlying70 rfl sizeJ rfl HV.out Tryz.underlying50 rfl sizeV) rfl ?_
          rw [HU.out]
          exact ⟨rfl, HG.out⟩
      · skip
        go_simp
        have hg := World.grownBy_alloc W2 (.cells #[.bool false, .bool false, .bool false] 50) none
        have HNq := hide (heap_alloc_new W2 (.cells #[.bool false, .bool false, .bool false] 50))
        have LN : Hid (w.heap.size ≤ W2.heap.size ∧ W2.heap.size ≠ BJ ∧ W2.heap.size ≠ BT ∧ W2.heap.size ≠ BR ∧ W2.heap.size ≠ BV) := hide ⟨HG.out.size, fun e => absurd (box_lt HSS.out.1) (by omega), fun e => absurd (box_lt HSS.out.2) (by omega), fun e => absurd (box_lt HR.out) (by omega), fun e => absurd (box_lt HV.out) (by omega)⟩
        have HGn := hide (grownBy_trans HG.out hg)
        have HSSn : Hid ((fun W => W.heap[BJ]? = some (.cells #[.int .i64 y0, .int .i64 y1, .int .i64 y2, .int .i64 y3, .int .i64 y4, .int .i64 y5, .int .i64 u] 70 (0, 0)) ∧ W.heap[BT]? = some (.cells #[.int .i64 x0, .int .i64 x1, .int .i64 x2, .int .i64 x3, .int .i64 x4, .int .i64 x5] 73 (0, 0))) (W2.alloc (.cells #[.bool false, .bool false, .bool false] 50))) := hide ⟨box_grown HSS.out.1 hg (by simp), box_grown HSS.out.2 hg (by simp)⟩
        have HRn := hide (box_grown HR.out hg (by simp))
        have HVn := hide (box_grown HV.out hg (by simp))
        clear HG HSS hHeld HR HV
        have HG := HGn
        have HSS := HSSn
        have HR := HRn
        have HV := HVn
        clear HGn HSSn HRn HVn
        clear hg
        have HN := HNq
        clear HNq
        refine hKx.out _ _ HSS.out (fun hHeld => ?_)
        clear hKx Kx
        (try simp only [Act.put])
        generalize W2.alloc (.cells #[.bool false, .bool false, .bool false] 50) = W10 at *
        generalize W2.heap.size = BN at *
        refine wpAnyH_ready (rs := [15]) (by kernel_rfl) (by simp) ?_
        refine AllReadyH.cons rfl (fun Kx hKx => ?_) AllReadyH.nil
        go_simp
        refine (CG.out _).mono ?_; rintro e W11 ⟨rfl, hg⟩
        have HGn := hide (grownBy_trans HG.out hg)
        have HSSn : Hid ((fun W => W.heap[BJ]? = some (.cells #[.int .i64 y0, .int .i64 y1, .int .i64 y2, .int .i64 y3, .int .i64 y4, .int .i64 y5, .int .i64 u] 70 (0, 0)) ∧ W.heap[BT]? = some (.cells #[.int .i64 x0, .int .i64 x1, .int .i64 x2, .int .i64 x3, .int .i64 x4, .int .i64 x5] 73 (0, 0))) W11) := hide ⟨box_grown HSS.out.1 hg (by simp), box_grown HSS.out.2 hg (by simp)⟩
        have HRn := hide (box_grown HR.out hg (by simp))
        have HVn := hide (box_grown HV.out hg (by simp))
        have HNn := hide (box_grown HN.out hg (by simp))
        clear HG HSS hHeld HR HV HN
        have HG := HGn
        have HSS := HSSn
        have HR := HRn
        have HV := HVn
        have HN := HNn
        clear HGn HSSn HRn HVn HNn
        clear hg
        refine hKx.out _ _ HSS.out (fun hHeld => ?_)
        clear hKx Kx
        (try simp only [Act.put])
        refine wpAnyH_ready (rs := [17]) (by kernel_rfl) (by simp) ?_
        refine AllReadyH.cons rfl (fun Kx hKx => ?_) AllReadyH.nil
        go_simp
        refine (CK.out _).mono ?_; rintro e W12 ⟨rfl, hg⟩
        have HGn := hide (grownBy_trans HG.out hg)
        have HSSn : Hid ((fun W => W.heap[BJ]? = some (.cells #[.int .i64 y0, .int .i64 y1, .int .i64 y2, .int .i64 y3, .int .i64 y4, .int .i64 y5, .int .i64 u] 70 (0, 0)) ∧ W.heap[BT]? = some (.cells #[.int .i64 x0, .int .i64 x1, .int .i64 x2, .int .i64 x3, .int .i64 x4, .int .i64 x5] 73 (0, 0))) W12) := hide ⟨box_grown HSS.out.1 hg (by simp), box_grown HSS.out.2 hg (by simp)⟩
        have HRn := hide (box_grown HR.out hg (by simp))
        have HVn := hide (box_grown HV.out hg (by simp))
        have HNn := hide (box_grown HN.out hg (by simp))
        clear HG HSS hHeld HR HV HN
        have HG := HGn
        have HSS := HSSn
        have HR := HRn
        have HV := HVn
        have HN := HNn
        clear HGn HSSn HRn HVn HNn
        clear hg
        refine hKx.out _ _ HSS.out (fun hHeld => ?_)
        clear hKx Kx
        (try simp only [Act.put])
        refine take_put (i := 18) (v := .agg #[.bool bo, .bool (u == y5), .bool bk]) 39 rfl rfl (by kernel_rfl) (by kernel_rfl) (by kernel_rfl) (fun _ _ _ h => h) (Or.inl ⟨by rfl, by intro Wy hSW; go_simp⟩) (by assumption) ?_
        (try simp only [Act.put, List.setIfInBounds_toArray, List.set_cons_zero, List.set_cons_succ])
        refine wpAnyH_ready (rs := [20]) (by kernel_rfl) (by simp) ?_
        refine AllReadyH.cons rfl (fun Kx hKx => ?_) AllReadyH.nil
        refine step_store 50 (.tmp 9) (.tmp 39) BN #[.bool bo, .bool (u == y5), .bool bk] 50 #[.bool false, .bool false, .bool false] rfl rfl HN.out sizeV rfl (by simp [Value.oneCell']) ?_
        intro W13 h1 e1 g1
        have HSSn : Hid ((fun W => W.heap[BJ]? = some (.cells #[.int .i64 y0, .int .i64 y1, .int .i64 y2, .int .i64 y3, .int .i64 y4, .int .i64 y5, .int .i64 u] 70 (0, 0)) ∧ W.heap[BT]? = some (.cells #[.int .i64 x0, .int .i64 x1, .int .i64 x2, .int .i64 x3, .int .i64 x4, .int .i64 x5] 73 (0, 0))) W13) := hide ⟨(e1 BJ LN.out.2.1.symm).trans HSS.out.1, (e1 BT LN.out.2.2.1.symm).trans HSS.out.2⟩
        have HRn := hide ((e1 BR LN.out.2.2.2.1.symm).trans HR.out)
        have HVn := hide ((e1 BV LN.out.2.2.2.2.symm).trans HV.out)
        have HNn := hide h1
        have HGn := hide (grown_spoil HG.out LN.out.1 g1)
        clear hHeld h1 e1 g1 HG HSS HR HV HN
        have HG := HGn
        have HSS := HSSn
        have HR := HRn
        have HV := HVn
        have HN := HNn
        clear HGn HSSn HRn HVn HNn
        refine hKx.out _ _ HSS.out (fun hHeld => ?_)
        clear hKx Kx
        (try simp only [Act.put])
        refine wpAnyH_done (by kernel_rfl) ?_ _
        clear hHeld
        go_upto_region 5 with (first | fail)
        have HSS2 : Hid ((fun W => W.heap[BJ]? = some (.cells #[.int .i64 y0, .int .i64 y1, .int .i64 y2, .int .i64 y3, .int .i64 y4, .int .i64 y5, .int .i64 u] 70 (0, 0)) ∧ W.heap[BN]? = some (.cells #[.bool bo, .bool (u == y5), .bool bk] 50 (0, 0))) W13) := hide ⟨HSS.out.1, HN.out⟩
        refine wp_region_held_drew (S := fun W => W.heap[BJ]? = some (.cells #[.int .i64 y0, .int .i64 y1, .int .i64 y2, .int .i64 y3, .int .i64 y4, .int .i64 y5, .int .i64 u] 70 (0, 0)) ∧ W.heap[BN]? = some (.cells #[.bool bo, .bool (u == y5), .bool bk] 50 (0, 0))) (by kernel_rfl) HSS2.out (fun hHeld => ?_)
        have HGd : Hid (w.grownBy W13.drew none) := hide (grownBy_trans HG.out (grownBy_draws W13 1 none))
        have HSSd : Hid ((fun W => W.heap[BJ]? = some (.cells #[.int .i64 y0, .int .i64 y1, .int .i64 y2, .int .i64 y3, .int .i64 y4, .int .i64 y5, .int .i64 u] 70 (0, 0)) ∧ W.heap[BN]? = some (.cells #[.bool bo, .bool (u == y5), .bool bk] 50 (0, 0))) W13.drew) := hide HSS2.out
        have HRd := hide (box_grown HR.out (grownBy_draws W13 1 none) (by simp))
        have HVd := hide (box_grown HV.out (grownBy_draws W13 1 none) (by simp))
        clear HG HSS HSS2 HR HV HN
        have hdd : W13.drewN 1 = W13.drew := rfl
        rw [hdd] at HRd HVd
        clear hdd
        generalize W13.drew = Z at *
        have HG := HGd
        have HSS := HSSd
        have HR := HRd
        have HV := HVd
        clear HGd HSSd HRd HVd
        refine take_put (i := 0) (v := .agg #[.int .i64 y0, .int .i64 y1, .int .i64 y2, .int .i64 y3, .int .i64 y4, .int .i64 y5, .int .i64 u]) 40 rfl rfl (by kernel_rfl) (by kernel_rfl) (by kernel_rfl) (fun _ _ _ h => h) (Or.inl ⟨by rfl, by intro Wy hSW; have hc := (⟨blk_cell hSW.1 0, blk_cell hSW.1 1, blk_cell hSW.1 2, blk_cell hSW.1 3, blk_cell hSW.1 4, blk_cell hSW.1 5, blk_cell hSW.1 6⟩ : _ ∧ _ ∧ _ ∧ _ ∧ _ ∧ _ ∧ _); go_simp⟩) (by assumption) ?_
        (try simp only [Act.put, List.setIfInBounds_toArray, List.set_cons_zero, List.set_cons_succ])
        refine take_put (i := 1) (v := .agg #[.bool bo, .bool (u == y5), .bool bk]) 41 rfl rfl (by kernel_rfl) (by kernel_rfl) (by kernel_rfl) (fun _ _ _ h => h) (Or.inl ⟨by rfl, by intro Wy hSW; have hc := (⟨blk_cell hSW.2 0, blk_cell hSW.2 1, blk_cell hSW.2 2⟩ : _ ∧ _ ∧ _); go_simp⟩) (by assumption) ?_
        (try simp only [Act.put, List.setIfInBounds_toArray, List.set_cons_zero, List.set_cons_succ])
        refine wpAnyH_ready (rs := [2]) (by kernel_rfl) (by simp) ?_
        refine AllReadyH.cons rfl (fun Kx hKx => ?_) AllReadyH.nil
        refine step_store 70 (.tmp 6) (.tmp 40) BR #[.int .i64 y0, .int .i64 y1, .int .i64 y2, .int .i64 y3, .int .i64 y4, .int .i64 y5, .int .i64 u] 70 #[.int .i64 0, .int .i64 0, .int .i64 0, .int .i64 0, .int .i64 0, .int .i64 0, .int .i64 0] rfl rfl HR.out sizeJ rfl (by simp [Value.oneCell']) ?_
        intro Y1 h1 e1 g1
        have HSSn : Hid ((fun W => W.heap[BJ]? = some (.cells #[.int .i64 y0, .int .i64 y1, .int .i64 y2, .int .i64 y3, .int .i64 y4, .int .i64 y5, .int .i64 u] 70 (0, 0)) ∧ W.heap[BN]? = some (.cells #[.bool bo, .bool (u == y5), .bool bk] 50 (0, 0))) Y1) := hide ⟨(e1 BJ (by have := HOJ.out; omega)).trans HSS.out.1, (e1 BN (LN.out.2.2.2.1)).trans HSS.out.2⟩
        have HVn := hide ((e1 BV (by have := HOJ.out; omega)).trans HV.out)
        have HRn := hide h1
        have HGn := hide (grown_spoil HG.out LR.out g1)
        clear hHeld h1 e1 g1 HG HSS HR HV
        have HG := HGn
        have HSS := HSSn
        have HR := HRn
        have HV := HVn
        clear HGn HSSn HRn HVn
        refine hKx.out _ _ HSS.out (fun hHeld => ?_)
        clear hKx Kx
        (try simp only [Act.put])
        refine wpAnyH_ready (rs := [3]) (by kernel_rfl) (by simp) ?_
        refine AllReadyH.cons rfl (fun Kx hKx => ?_) AllReadyH.nil
        refine step_store 50 (.tmp 7) (.tmp 41) BV #[.bool bo, .bool (u == y5), .bool bk] 50 #[.bool false, .bool false, .bool false] rfl rfl HV.out sizeV rfl (by simp [Value.oneCell']) ?_
        intro Y2 h1 e1 g1
        have HSSn : Hid ((fun W => W.heap[BJ]? = some (.cells #[.int .i64 y0, .int .i64 y1, .int .i64 y2, .int .i64 y3, .int .i64 y4, .int .i64 y5, .int .i64 u] 70 (0, 0)) ∧ W.heap[BN]? = some (.cells #[.bool bo, .bool (u == y5), .bool bk] 50 (0, 0))) Y2) := hide ⟨(e1 BJ (by have := HOJ.out; omega)).trans HSS.out.1, (e1 BN (LN.out.2.2.2.2)).trans HSS.out.2⟩
        have HRn := hide ((e1 BR (by have := HOJ.out; omega)).trans HR.out)
        have HVn := hide h1
        have HGn := hide (grown_spoil HG.out LV.out g1)
        clear hHeld h1 e1 g1 HG HSS HR HV
        have HG := HGn
        have HSS := HSSn
        have HR := HRn
        have HV := HVn
        clear HGn HSSn HRn HVn
        refine hKx.out _ _ HSS.out (fun hHeld => ?_)
        clear hKx Kx
        (try simp only [Act.put])
        refine take_put (i := 4) (v := .int .i64 0) 8 rfl rfl (by kernel_rfl) (by kernel_rfl) (by kernel_rfl) (fun _ _ _ h => h) (Or.inl ⟨by rfl, by intro Wy hSW; go_simp⟩) (by assumption) ?_
        (try simp only [Act.put, List.setIfInBounds_toArray, List.set_cons_zero, List.set_cons_succ])
        refine wpAnyH_done (by kernel_rfl) ?_ _
        clear hHeld
        go_wp2
        refine bodyPost_ret (results_rrt rfl _ _ BR 70 #[.int .i64 y0, .int .i64 y1, .int .i64 y2, .int .i64 y3, .int .i64 y4, .int .i64 y5, .int .i64 u] (0, 0) _ BV 50 #[.bool bo, .bool (u == y5), .bool bk] (0, 0) _ rfl HR.out Tryz.underlying70 rfl sizeJ rfl HV.out Tryz.underlying50 rfl sizeV) rfl ?_
        rw [HU.out]
        exact ⟨rfl, HG.out⟩
    · skip
      go_simp
      have hg := World.grownBy_alloc W1 (.cells #[.bool false, .bool false, .bool false] 50) none
      have HNq := hide (heap_alloc_new W1 (.cells #[.bool false, .bool false, .bool false] 50))
      have LN : Hid (w.heap.size ≤ W1.heap.size ∧ W1.heap.size ≠ BJ ∧ W1.heap.size ≠ BT ∧ W1.heap.size ≠ BR ∧ W1.heap.size ≠ BV) := hide ⟨HG.out.size, fun e => absurd (box_lt HSS.out.1) (by omega), fun e => absurd (box_lt HSS.out.2) (by omega), fun e => absurd (box_lt HR.out) (by omega), fun e => absurd (box_lt HV.out) (by omega)⟩
      have HGn := hide (grownBy_trans HG.out hg)
      have HSSn : Hid ((fun W => W.heap[BJ]? = some (.cells #[.int .i64 y0, .int .i64 y1, .int .i64 y2, .int .i64 y3, .int .i64 y4, .int .i64 y5, .int .i64 u] 70 (0, 0)) ∧ W.heap[BT]? = some (.cells #[.int .i64 x0, .int .i64 x1, .int .i64 x2, .int .i64 x3, .int .i64 x4, .int .i64 x5] 73 (0, 0))) (W1.alloc (.cells #[.bool false, .bool false, .bool false] 50))) := hide ⟨box_grown HSS.out.1 hg (by simp), box_grown HSS.out.2 hg (by simp)⟩
      have HRn := hide (box_grown HR.out hg (by simp))
      have HVn := hide (box_grown HV.out hg (by simp))
      clear HG HSS hHeld HR HV
      have HG := HGn
      have HSS := HSSn
      have HR := HRn
      have HV := HVn
      clear HGn HSSn HRn HVn
      clear hg
      have HN := HNq
      clear HNq
      refine hKx.out _ _ HSS.out (fun hHeld => ?_)
      clear hKx Kx
      (try simp only [Act.put])
      generalize W1.alloc (.cells #[.bool false, .bool false, .bool false] 50) = W14 at *
      generalize W1.heap.size = BN at *
      refine wpAnyH_ready (rs := [6]) (by kernel_rfl) (by simp) ?_
      refine AllReadyH.cons rfl (fun Kx hKx => ?_) AllReadyH.nil
      go_simp
      refine (CO.out _).mono ?_; rintro e W15 ⟨rfl, hg⟩
      have HGn := hide (grownBy_trans HG.out hg)
      have HSSn : Hid ((fun W => W.heap[BJ]? = some (.cells #[.int .i64 y0, .int .i64 y1, .int .i64 y2, .int .i64 y3, .int .i64 y4, .int .i64 y5, .int .i64 u] 70 (0, 0)) ∧ W.heap[BT]? = some (.cells #[.int .i64 x0, .int .i64 x1, .int .i64 x2, .int .i64 x3, .int .i64 x4, .int .i64 x5] 73 (0, 0))) W15) := hide ⟨box_grown HSS.out.1 hg (by simp), box_grown HSS.out.2 hg (by simp)⟩
      have HRn := hide (box_grown HR.out hg (by simp))
      have HVn := hide (box_grown HV.out hg (by simp))
      have HNn := hide (box_grown HN.out hg (by simp))
      clear HG HSS hHeld HR HV HN
      have HG := HGn
      have HSS := HSSn
      have HR := HRn
      have HV := HVn
      have HN := HNn
      clear HGn HSSn HRn HVn HNn
      clear hg
      refine hKx.out _ _ HSS.out (fun hHeld => ?_)
      clear hKx Kx
      (try simp only [Act.put])
      refine take_put (i := 7) (v := .bool bo) 28 rfl rfl (by kernel_rfl) (by kernel_rfl) (by kernel_rfl) (fun _ _ _ h => h) (Or.inl ⟨by rfl, by intro Wy hSW; go_simp⟩) (by assumption) ?_
      (try simp only [Act.put, List.setIfInBounds_toArray, List.set_cons_zero, List.set_cons_succ])
      refine wpAnyH_ready (rs := [15]) (by kernel_rfl) (by simp) ?_
      refine AllReadyH.cons rfl (fun Kx hKx => ?_) AllReadyH.nil
      go_simp
      refine (CG.out _).mono ?_; rintro e W16 ⟨rfl, hg⟩
      have HGn := hide (grownBy_trans HG.out hg)
      have HSSn : Hid ((fun W => W.heap[BJ]? = some (.cells #[.int .i64 y0, .int .i64 y1, .int .i64 y2, .int .i64 y3, .int .i64 y4, .int .i64 y5, .int .i64 u] 70 (0, 0)) ∧ W.heap[BT]? = some (.cells #[.int .i64 x0, .int .i64 x1, .int .i64 x2, .int .i64 x3, .int .i64 x4, .int .i64 x5] 73 (0, 0))) W16) := hide ⟨box_grown HSS.out.1 hg (by simp), box_grown HSS.out.2 hg (by simp)⟩
      have HRn := hide (box_grown HR.out hg (by simp))
      have HVn := hide (box_grown HV.out hg (by simp))
      have HNn := hide (box_grown HN.out hg (by simp))
      clear HG HSS hHeld HR HV HN
      have HG := HGn
      have HSS := HSSn
      have HR := HRn
      have HV := HVn
      have HN := HNn
      clear HGn HSSn HRn HVn HNn
      clear hg
      refine hKx.out _ _ HSS.out (fun hHeld => ?_)
      clear hKx Kx
      (try simp only [Act.put])
      refine wpAnyH_ready (rs := [17]) (by kernel_rfl) (by simp) ?_
      refine AllReadyH.cons rfl (fun Kx hKx => ?_) AllReadyH.nil
      go_simp
      refine (CK.out _).mono ?_; rintro e W17 ⟨rfl, hg⟩
      have HGn := hide (grownBy_trans HG.out hg)
      have HSSn : Hid ((fun W => W.heap[BJ]? = some (.cells #[.int .i64 y0, .int .i64 y1, .int .i64 y2, .int .i64 y3, .int .i64 y4, .int .i64 y5, .int .i64 u] 70 (0, 0)) ∧ W.heap[BT]? = some (.cells #[.int .i64 x0, .int .i64 x1, .int .i64 x2, .int .i64 x3, .int .i64 x4, .int .i64 x5] 73 (0, 0))) W17) := hide ⟨box_grown HSS.out.1 hg (by simp), box_grown HSS.out.2 hg (by simp)⟩
      have HRn := hide (box_grown HR.out hg (by simp))
      have HVn := hide (box_grown HV.out hg (by simp))
      have HNn := hide (box_grown HN.out hg (by simp))
      clear HG HSS hHeld HR HV HN
      have HG := HGn
      have HSS := HSSn
      have HR := HRn
      have HV := HVn
      have HN := HNn
      clear HGn HSSn HRn HVn HNn
      clear hg
      refine hKx.out _ _ HSS.out (fun hHeld => ?_)
      clear hKx Kx
      (try simp only [Act.put])
      refine take_put (i := 18) (v := .agg #[.bool bo, .bool (u == y5), .bool bk]) 39 rfl rfl (by kernel_rfl) (by kernel_rfl) (by kernel_rfl) (fun _ _ _ h => h) (Or.inl ⟨by rfl, by intro Wy hSW; go_simp⟩) (by assumption) ?_
      (try simp only [Act.put, List.setIfInBounds_toArray, List.set_cons_zero, List.set_cons_succ])
      refine wpAnyH_ready (rs := [20]) (by kernel_rfl) (by simp) ?_
      refine AllReadyH.cons rfl (fun Kx hKx => ?_) AllReadyH.nil
      refine step_store 50 (.tmp 9) (.tmp 39) BN #[.bool bo, .bool (u == y5), .bool bk] 50 #[.bool false, .bool false, .bool false] rfl rfl HN.out sizeV rfl (by simp [Value.oneCell']) ?_
      intro W18 h1 e1 g1
      have HSSn : Hid ((fun W => W.heap[BJ]? = some (.cells #[.int .i64 y0, .int .i64 y1, .int .i64 y2, .int .i64 y3, .int .i64 y4, .int .i64 y5, .int .i64 u] 70 (0, 0)) ∧ W.heap[BT]? = some (.cells #[.int .i64 x0, .int .i64 x1, .int .i64 x2, .int .i64 x3, .int .i64 x4, .int .i64 x5] 73 (0, 0))) W18) := hide ⟨(e1 BJ LN.out.2.1.symm).trans HSS.out.1, (e1 BT LN.out.2.2.1.symm).trans HSS.out.2⟩
      have HRn := hide ((e1 BR LN.out.2.2.2.1.symm).trans HR.out)
      have HVn := hide ((e1 BV LN.out.2.2.2.2.symm).trans HV.out)
      have HNn := hide h1
      have HGn := hide (grown_spoil HG.out LN.out.1 g1)
      clear hHeld h1 e1 g1 HG HSS HR HV HN
      have HG := HGn
      have HSS := HSSn
      have HR := HRn
      have HV := HVn
      have HN := HNn
      clear HGn HSSn HRn HVn HNn
      refine hKx.out _ _ HSS.out (fun hHeld => ?_)
      clear hKx Kx
      (try simp only [Act.put])
      refine wpAnyH_done (by kernel_rfl) ?_ _
      clear hHeld
      go_upto_region 5 with (first | fail)
      have HSS2 : Hid ((fun W => W.heap[BJ]? = some (.cells #[.int .i64 y0, .int .i64 y1, .int .i64 y2, .int .i64 y3, .int .i64 y4, .int .i64 y5, .int .i64 u] 70 (0, 0)) ∧ W.heap[BN]? = some (.cells #[.bool bo, .bool (u == y5), .bool bk] 50 (0, 0))) W18) := hide ⟨HSS.out.1, HN.out⟩
      refine wp_region_held_drew (S := fun W => W.heap[BJ]? = some (.cells #[.int .i64 y0, .int .i64 y1, .int .i64 y2, .int .i64 y3, .int .i64 y4, .int .i64 y5, .int .i64 u] 70 (0, 0)) ∧ W.heap[BN]? = some (.cells #[.bool bo, .bool (u == y5), .bool bk] 50 (0, 0))) (by kernel_rfl) HSS2.out (fun hHeld => ?_)
      have HGd : Hid (w.grownBy W18.drew none) := hide (grownBy_trans HG.out (grownBy_draws W18 1 none))
      have HSSd : Hid ((fun W => W.heap[BJ]? = some (.cells #[.int .i64 y0, .int .i64 y1, .int .i64 y2, .int .i64 y3, .int .i64 y4, .int .i64 y5, .int .i64 u] 70 (0, 0)) ∧ W.heap[BN]? = some (.cells #[.bool bo, .bool (u == y5), .bool bk] 50 (0, 0))) W18.drew) := hide HSS2.out
      have HRd := hide (box_grown HR.out (grownBy_draws W18 1 none) (by simp))
      have HVd := hide (box_grown HV.out (grownBy_draws W18 1 none) (by simp))
      clear HG HSS HSS2 HR HV HN
      have hdd : W18.drewN 1 = W18.drew := rfl
      rw [hdd] at HRd HVd
      clear hdd
      generalize W18.drew = Z at *
      have HG := HGd
      have HSS := HSSd
      have HR := HRd
      have HV := HVd
      clear HGd HSSd HRd HVd
      refine take_put (i := 0) (v := .agg #[.int .i64 y0, .int .i64 y1, .int .i64 y2, .int .i64 y3, .int .i64 y4, .int .i64 y5, .int .i64 u]) 40 rfl rfl (by kernel_rfl) (by kernel_rfl) (by kernel_rfl) (fun _ _ _ h => h) (Or.inl ⟨by rfl, by intro Wy hSW; have hc := (⟨blk_cell hSW.1 0, blk_cell hSW.1 1, blk_cell hSW.1 2, blk_cell hSW.1 3, blk_cell hSW.1 4, blk_cell hSW.1 5, blk_cell hSW.1 6⟩ : _ ∧ _ ∧ _ ∧ _ ∧ _ ∧ _ ∧ _); go_simp⟩) (by assumption) ?_
      (try simp only [Act.put, List.setIfInBounds_toArray, List.set_cons_zero, List.set_cons_succ])
      refine take_put (i := 1) (v := .agg #[.bool bo, .bool (u == y5), .bool bk]) 41 rfl rfl (by kernel_rfl) (by kernel_rfl) (by kernel_rfl) (fun _ _ _ h => h) (Or.inl ⟨by rfl, by intro Wy hSW; have hc := (⟨blk_cell hSW.2 0, blk_cell hSW.2 1, blk_cell hSW.2 2⟩ : _ ∧ _ ∧ _); go_simp⟩) (by assumption) ?_
      (try simp only [Act.put, List.setIfInBounds_toArray, List.set_cons_zero, List.set_cons_succ])
      refine wpAnyH_ready (rs := [2]) (by kernel_rfl) (by simp) ?_
      refine AllReadyH.cons rfl (fun Kx hKx => ?_) AllReadyH.nil
      refine step_store 70 (.tmp 6) (.tmp 40) BR #[.int .i64 y0, .int .i64 y1, .int .i64 y2, .int .i64 y3, .int .i64 y4, .int .i64 y5, .int .i64 u] 70 #[.int .i64 0, .int .i64 0, .int .i64 0, .int .i64 0, .int .i64 0, .int .i64 0, .int .i64 0] rfl rfl HR.out sizeJ rfl (by simp [Value.oneCell']) ?_
      intro Y1 h1 e1 g1
      have HSSn : Hid ((fun W => W.heap[BJ]? = some (.cells #[.int .i64 y0, .int .i64 y1, .int .i64 y2, .int .i64 y3, .int .i64 y4, .int .i64 y5, .int .i64 u] 70 (0, 0)) ∧ W.heap[BN]? = some (.cells #[.bool bo, .bool (u == y5), .bool bk] 50 (0, 0))) Y1) := hide ⟨(e1 BJ (by have := HOJ.out; omega)).trans HSS.out.1, (e1 BN (LN.out.2.2.2.1)).trans HSS.out.2⟩
      have HVn := hide ((e1 BV (by have := HOJ.out; omega)).trans HV.out)
      have HRn := hide h1
      have HGn := hide (grown_spoil HG.out LR.out g1)
      clear hHeld h1 e1 g1 HG HSS HR HV
      have HG := HGn
      have HSS := HSSn
      have HR := HRn
      have HV := HVn
      clear HGn HSSn HRn HVn
      refine hKx.out _ _ HSS.out (fun hHeld => ?_)
      clear hKx Kx
      (try simp only [Act.put])
      refine wpAnyH_ready (rs := [3]) (by kernel_rfl) (by simp) ?_
      refine AllReadyH.cons rfl (fun Kx hKx => ?_) AllReadyH.nil
      refine step_store 50 (.tmp 7) (.tmp 41) BV #[.bool bo, .bool (u == y5), .bool bk] 50 #[.bool false, .bool false, .bool false] rfl rfl HV.out sizeV rfl (by simp [Value.oneCell']) ?_
      intro Y2 h1 e1 g1
      have HSSn : Hid ((fun W => W.heap[BJ]? = some (.cells #[.int .i64 y0, .int .i64 y1, .int .i64 y2, .int .i64 y3, .int .i64 y4, .int .i64 y5, .int .i64 u] 70 (0, 0)) ∧ W.heap[BN]? = some (.cells #[.bool bo, .bool (u == y5), .bool bk] 50 (0, 0))) Y2) := hide ⟨(e1 BJ (by have := HOJ.out; omega)).trans HSS.out.1, (e1 BN (LN.out.2.2.2.2)).trans HSS.out.2⟩
      have HRn := hide ((e1 BR (by have := HOJ.out; omega)).trans HR.out)
      have HVn := hide h1
      have HGn := hide (grown_spoil HG.out LV.out g1)
      clear hHeld h1 e1 g1 HG HSS HR HV
      have HG := HGn
      have HSS := HSSn
      have HR := HRn
      have HV := HVn
      clear HGn HSSn HRn HVn
      refine hKx.out _ _ HSS.out (fun hHeld => ?_)
      clear hKx Kx
      (try simp only [Act.put])
      refine take_put (i := 4) (v := .int .i64 0) 8 rfl rfl (by kernel_rfl) (by kernel_rfl) (by kernel_rfl) (fun _ _ _ h => h) (Or.inl ⟨by rfl, by intro Wy hSW; go_simp⟩) (by assumption) ?_
      (try simp only [Act.put, List.setIfInBounds_toArray, List.set_cons_zero, List.set_cons_succ])
      refine wpAnyH_done (by kernel_rfl) ?_ _
      clear hHeld
      go_wp2
      refine bodyPost_ret (results_rrt rfl _ _ BR 70 #[.int .i64 y0, .int .i64 y1, .int .i64 y2, .int .i64 y3, .int .i64 y4, .int .i64 y5, .int .i64 u] (0, 0) _ BV 50 #[.bool bo, .bool (u == y5), .bool bk] (0, 0) _ rfl HR.out Tryz.underlying70 rfl sizeJ rfl HV.out Tryz.underlying50 rfl sizeV) rfl ?_
      rw [HU.out]
      exact ⟨rfl, HG.out⟩
  · skip
    go_simp
    have hg := World.grownBy_alloc W (.cells #[.bool false, .bool false, .bool false] 50) none
    have HNq := hide (heap_alloc_new W (.cells #[.bool false, .bool false, .bool false] 50))
    have LN : Hid (w.heap.size ≤ W.heap.size ∧ W.heap.size ≠ BJ ∧ W.heap.size ≠ BT ∧ W.heap.size ≠ BR ∧ W.heap.size ≠ BV) := hide ⟨HG.out.size, fun e => absurd (box_lt HSS.out.1) (by omega), fun e => absurd (box_lt HSS.out.2) (by omega), fun e => absurd (box_lt HR.out) (by omega), fun e => absurd (box_lt HV.out) (by omega)⟩
    have HGn := hide (grownBy_trans HG.out hg)
    have HSSn : Hid ((fun W => W.heap[BJ]? = some (.cells #[.int .i64 y0, .int .i64 y1, .int .i64 y2, .int .i64 y3, .int .i64 y4, .int .i64 y5, .int .i64 u] 70 (0, 0)) ∧ W.heap[BT]? = some (.cells #[.int .i64 x0, .int .i64 x1, .int .i64 x2, .int .i64 x3, .int .i64 x4, .int .i64 x5] 73 (0, 0))) (W.alloc (.cells #[.bool false, .bool false, .bool false] 50))) := hide ⟨box_grown HSS.out.1 hg (by simp), box_grown HSS.out.2 hg (by simp)⟩
    have HRn := hide (box_grown HR.out hg (by simp))
    have HVn := hide (box_grown HV.out hg (by simp))
    clear HG HSS hHeld HR HV
    have HG := HGn
    have HSS := HSSn
    have HR := HRn
    have HV := HVn
    clear HGn HSSn HRn HVn
    clear hg
    have HN := HNq
    clear HNq
    refine hKx.out _ _ HSS.out (fun hHeld => ?_)
    clear hKx Kx
    (try simp only [Act.put])
    generalize W.alloc (.cells #[.bool false, .bool false, .bool false] 50) = W19 at *
    generalize W.heap.size = BN at *
    refine wpAnyH_ready (rs := [4]) (by kernel_rfl) (by simp) ?_
    refine AllReadyH.cons rfl (fun Kx hKx => ?_) AllReadyH.nil
    go_simp
    refine (CH.out _).mono ?_; rintro e W20 ⟨rfl, hg⟩
    have HGn := hide (grownBy_trans HG.out hg)
    have HSSn : Hid ((fun W => W.heap[BJ]? = some (.cells #[.int .i64 y0, .int .i64 y1, .int .i64 y2, .int .i64 y3, .int .i64 y4, .int .i64 y5, .int .i64 u] 70 (0, 0)) ∧ W.heap[BT]? = some (.cells #[.int .i64 x0, .int .i64 x1, .int .i64 x2, .int .i64 x3, .int .i64 x4, .int .i64 x5] 73 (0, 0))) W20) := hide ⟨box_grown HSS.out.1 hg (by simp), box_grown HSS.out.2 hg (by simp)⟩
    have HRn := hide (box_grown HR.out hg (by simp))
    have HVn := hide (box_grown HV.out hg (by simp))
    have HNn := hide (box_grown HN.out hg (by simp))
    clear HG HSS hHeld HR HV HN
    have HG := HGn
    have HSS := HSSn
    have HR := HRn
    have HV := HVn
    have HN := HNn
    clear HGn HSSn HRn HVn HNn
    clear hg
    refine hKx.out _ _ HSS.out (fun hHeld => ?_)
    clear hKx Kx
    (try simp only [Act.put])
    refine wpAnyH_ready (rs := [6]) (by kernel_rfl) (by simp) ?_
    refine AllReadyH.cons rfl (fun Kx hKx => ?_) AllReadyH.nil
    go_simp
    refine (CO.out _).mono ?_; rintro e W21 ⟨rfl, hg⟩
    have HGn := hide (grownBy_trans HG.out hg)
    have HSSn : Hid ((fun W => W.heap[BJ]? = some (.cells #[.int .i64 y0, .int .i64 y1, .int .i64 y2, .int .i64 y3, .int .i64 y4, .int .i64 y5, .int .i64 u] 70 (0, 0)) ∧ W.heap[BT]? = some (.cells #[.int .i64 x0, .int .i64 x1, .int .i64 x2, .int .i64 x3, .int .i64 x4, .int .i64 x5] 73 (0, 0))) W21) := hide ⟨box_grown HSS.out.1 hg (by simp), box_grown HSS.out.2 hg (by simp)⟩
    have HRn := hide (box_grown HR.out hg (by simp))
    have HVn := hide (box_grown HV.out hg (by simp))
    have HNn := hide (box_grown HN.out hg (by simp))
    clear HG HSS hHeld HR HV HN
    have HG := HGn
    have HSS := HSSn
    have HR := HRn
    have HV := HVn
    have HN := HNn
    clear HGn HSSn HRn HVn HNn
    clear hg
    refine hKx.out _ _ HSS.out (fun hHeld => ?_)
    clear hKx Kx
    (try simp only [Act.put])
    refine take_put (i := 7) (v := .bool bo) 28 rfl rfl (by kernel_rfl) (by kernel_rfl) (by kernel_rfl) (fun _ _ _ h => h) (Or.inl ⟨by rfl, by intro Wy hSW; go_simp⟩) (by assumption) ?_
    (try simp only [Act.put, List.setIfInBounds_toArray, List.set_cons_zero, List.set_cons_succ])
    refine wpAnyH_ready (rs := [15]) (by kernel_rfl) (by simp) ?_
    refine AllReadyH.cons rfl (fun Kx hKx => ?_) AllReadyH.nil
    go_simp
    refine (CG.out _).mono ?_; rintro e W22 ⟨rfl, hg⟩
    have HGn := hide (grownBy_trans HG.out hg)
    have HSSn : Hid ((fun W => W.heap[BJ]? = some (.cells #[.int .i64 y0, .int .i64 y1, .int .i64 y2, .int .i64 y3, .int .i64 y4, .int .i64 y5, .int .i64 u] 70 (0, 0)) ∧ W.heap[BT]? = some (.cells #[.int .i64 x0, .int .i64 x1, .int .i64 x2, .int .i64 x3, .int .i64 x4, .int .i64 x5] 73 (0, 0))) W22) := hide ⟨box_grown HSS.out.1 hg (by simp), box_grown HSS.out.2 hg (by simp)⟩
    have HRn := hide (box_grown HR.out hg (by simp))
    have HVn := hide (box_grown HV.out hg (by simp))
    have HNn := hide (box_grown HN.out hg (by simp))
    clear HG HSS hHeld HR HV HN
    have HG := HGn
    have HSS := HSSn
    have HR := HRn
    have HV := HVn
    have HN := HNn
    clear HGn HSSn HRn HVn HNn
    clear hg
    refine hKx.out _ _ HSS.out (fun hHeld => ?_)
    clear hKx Kx
    (try simp only [Act.put])
    refine wpAnyH_ready (rs := [17]) (by kernel_rfl) (by simp) ?_
    refine AllReadyH.cons rfl (fun Kx hKx => ?_) AllReadyH.nil
    go_simp
    refine (CK.out _).mono ?_; rintro e W23 ⟨rfl, hg⟩
    have HGn := hide (grownBy_trans HG.out hg)
    have HSSn : Hid ((fun W => W.heap[BJ]? = some (.cells #[.int .i64 y0, .int .i64 y1, .int .i64 y2, .int .i64 y3, .int .i64 y4, .int .i64 y5, .int .i64 u] 70 (0, 0)) ∧ W.heap[BT]? = some (.cells #[.int .i64 x0, .int .i64 x1, .int .i64 x2, .int .i64 x3, .int .i64 x4, .int .i64 x5] 73 (0, 0))) W23) := hide ⟨box_grown HSS.out.1 hg (by simp), box_grown HSS.out.2 hg (by simp)⟩
    have HRn := hide (box_grown HR.out hg (by simp))
    have HVn := hide (box_grown HV.out hg (by simp))
    have HNn := hide (box_grown HN.out hg (by simp))
    clear HG HSS hHeld HR HV HN
    have HG := HGn
    have HSS := HSSn
    have HR := HRn
    have HV := HVn
    have HN := HNn
    clear HGn HSSn HRn HVn HNn
    clear hg
    refine hKx.out _ _ HSS.out (fun hHeld => ?_)
    clear hKx Kx
    (try simp only [Act.put])
    refine take_put (i := 18) (v := .agg #[.bool bo, .bool (u == y5), .bool bk]) 39 rfl rfl (by kernel_rfl) (by kernel_rfl) (by kernel_rfl) (fun _ _ _ h => h) (Or.inl ⟨by rfl, by intro Wy hSW; go_simp⟩) (by assumption) ?_
    (try simp only [Act.put, List.setIfInBounds_toArray, List.set_cons_zero, List.set_cons_succ])
    refine wpAnyH_ready (rs := [20]) (by kernel_rfl) (by simp) ?_
    refine AllReadyH.cons rfl (fun Kx hKx => ?_) AllReadyH.nil
    refine step_store 50 (.tmp 9) (.tmp 39) BN #[.bool bo, .bool (u == y5), .bool bk] 50 #[.bool false, .bool false, .bool false] rfl rfl HN.out sizeV rfl (by simp [Value.oneCell']) ?_
    intro W24 h1 e1 g1
    have HSSn : Hid ((fun W => W.heap[BJ]? = some (.cells #[.int .i64 y0, .int .i64 y1, .int .i64 y2, .int .i64 y3, .int .i64 y4, .int .i64 y5, .int .i64 u] 70 (0, 0)) ∧ W.heap[BT]? = some (.cells #[.int .i64 x0, .int .i64 x1, .int .i64 x2, .int .i64 x3, .int .i64 x4, .int .i64 x5] 73 (0, 0))) W24) := hide ⟨(e1 BJ LN.out.2.1.symm).trans HSS.out.1, (e1 BT LN.out.2.2.1.symm).trans HSS.out.2⟩
    have HRn := hide ((e1 BR LN.out.2.2.2.1.symm).trans HR.out)
    have HVn := hide ((e1 BV LN.out.2.2.2.2.symm).trans HV.out)
    have HNn := hide h1
    have HGn := hide (grown_spoil HG.out LN.out.1 g1)
    clear hHeld h1 e1 g1 HG HSS HR HV HN
    have HG := HGn
    have HSS := HSSn
    have HR := HRn
    have HV := HVn
    have HN := HNn
    clear HGn HSSn HRn HVn HNn
    refine hKx.out _ _ HSS.out (fun hHeld => ?_)
    clear hKx Kx
    (try simp only [Act.put])
    refine wpAnyH_done (by kernel_rfl) ?_ _
    clear hHeld
    go_upto_region 5 with (first | fail)
    have HSS2 : Hid ((fun W => W.heap[BJ]? = some (.cells #[.int .i64 y0, .int .i64 y1, .int .i64 y2, .int .i64 y3, .int .i64 y4, .int .i64 y5, .int .i64 u] 70 (0, 0)) ∧ W.heap[BN]? = some (.cells #[.bool bo, .bool (u == y5), .bool bk] 50 (0, 0))) W24) := hide ⟨HSS.out.1, HN.out⟩
    refine wp_region_held_drew (S := fun W => W.heap[BJ]? = some (.cells #[.int .i64 y0, .int .i64 y1, .int .i64 y2, .int .i64 y3, .int .i64 y4, .int .i64 y5, .int .i64 u] 70 (0, 0)) ∧ W.heap[BN]? = some (.cells #[.bool bo, .bool (u == y5), .bool bk] 50 (0, 0))) (by kernel_rfl) HSS2.out (fun hHeld => ?_)
    have HGd : Hid (w.grownBy W24.drew none) := hide (grownBy_trans HG.out (grownBy_draws W24 1 none))
    have HSSd : Hid ((fun W => W.heap[BJ]? = some (.cells #[.int .i64 y0, .int .i64 y1, .int .i64 y2, .int .i64 y3, .int .i64 y4, .int .i64 y5, .int .i64 u] 70 (0, 0)) ∧ W.heap[BN]? = some (.cells #[.bool bo, .bool (u == y5), .bool bk] 50 (0, 0))) W24.drew) := hide HSS2.out
    have HRd := hide (box_grown HR.out (grownBy_draws W24 1 none) (by simp))
    have HVd := hide (box_grown HV.out (grownBy_draws W24 1 none) (by simp))
    clear HG HSS HSS2 HR HV HN
    have hdd : W24.drewN 1 = W24.drew := rfl
    rw [hdd] at HRd HVd
    clear hdd
    generalize W24.drew = Z at *
    have HG := HGd
    have HSS := HSSd
    have HR := HRd
    have HV := HVd
    clear HGd HSSd HRd HVd
    refine take_put (i := 0) (v := .agg #[.int .i64 y0, .int .i64 y1, .int .i64 y2, .int .i64 y3, .int .i64 y4, .int .i64 y5, .int .i64 u]) 40 rfl rfl (by kernel_rfl) (by kernel_rfl) (by kernel_rfl) (fun _ _ _ h => h) (Or.inl ⟨by rfl, by intro Wy hSW; have hc := (⟨blk_cell hSW.1 0, blk_cell hSW.1 1, blk_cell hSW.1 2, blk_cell hSW.1 3, blk_cell hSW.1 4, blk_cell hSW.1 5, blk_cell hSW.1 6⟩ : _ ∧ _ ∧ _ ∧ _ ∧ _ ∧ _ ∧ _); go_simp⟩) (by assumption) ?_
    (try simp only [Act.put, List.setIfInBounds_toArray, List.set_cons_zero, List.set_cons_succ])
    refine take_put (i := 1) (v := .agg #[.bool bo, .bool (u == y5), .bool bk]) 41 rfl rfl (by kernel_rfl) (by kernel_rfl) (by kernel_rfl) (fun _ _ _ h => h) (Or.inl ⟨by rfl, by intro Wy hSW; have hc := (⟨blk_cell hSW.2 0, blk_cell hSW.2 1, blk_cell hSW.2 2⟩ : _ ∧ _ ∧ _); go_simp⟩) (by assumption) ?_
    (try simp only [Act.put, List.setIfInBounds_toArray, List.set_cons_zero, List.set_cons_succ])
    refine wpAnyH_ready (rs := [2]) (by kernel_rfl) (by simp) ?_
    refine AllReadyH.cons rfl (fun Kx hKx => ?_) AllReadyH.nil
    refine step_store 70 (.tmp 6) (.tmp 40) BR #[.int .i64 y0, .int .i64 y1, .int .i64 y2, .int .i64 y3, .int .i64 y4, .int .i64 y5, .int .i64 u] 70 #[.int .i64 0, .int .i64 0, .int .i64 0, .int .i64 0, .int .i64 0, .int .i64 0, .int .i64 0] rfl rfl HR.out sizeJ rfl (by simp [Value.oneCell']) ?_
    intro Y1 h1 e1 g1
    have HSSn : Hid ((fun W => W.heap[BJ]? = some (.cells #[.int .i64 y0, .int .i64 y1, .int .i64 y2, .int .i64 y3, .int .i64 y4, .int .i64 y5, .int .i64 u] 70 (0, 0)) ∧ W.heap[BN]? = some (.cells #[.bool bo, .bool (u == y5), .bool bk] 50 (0, 0))) Y1) := hide ⟨(e1 BJ (by have := HOJ.out; omega)).trans HSS.out.1, (e1 BN (LN.out.2.2.2.1)).trans HSS.out.2⟩
    have HVn := hide ((e1 BV (by have := HOJ.out; omega)).trans HV.out)
    have HRn := hide h1
    have HGn := hide (grown_spoil HG.out LR.out g1)
    clear hHeld h1 e1 g1 HG HSS HR HV
    have HG := HGn
    have HSS := HSSn
    have HR := HRn
    have HV := HVn
    clear HGn HSSn HRn HVn
    refine hKx.out _ _ HSS.out (fun hHeld => ?_)
    clear hKx Kx
    (try simp only [Act.put])
    refine wpAnyH_ready (rs := [3]) (by kernel_rfl) (by simp) ?_
    refine AllReadyH.cons rfl (fun Kx hKx => ?_) AllReadyH.nil
    refine step_store 50 (.tmp 7) (.tmp 41) BV #[.bool bo, .bool (u == y5), .bool bk] 50 #[.bool false, .bool false, .bool false] rfl rfl HV.out sizeV rfl (by simp [Value.oneCell']) ?_
    intro Y2 h1 e1 g1
    have HSSn : Hid ((fun W => W.heap[BJ]? = some (.cells #[.int .i64 y0, .int .i64 y1, .int .i64 y2, .int .i64 y3, .int .i64 y4, .int .i64 y5, .int .i64 u] 70 (0, 0)) ∧ W.heap[BN]? = some (.cells #[.bool bo, .bool (u == y5), .bool bk] 50 (0, 0))) Y2) := hide ⟨(e1 BJ (by have := HOJ.out; omega)).trans HSS.out.1, (e1 BN (LN.out.2.2.2.2)).trans HSS.out.2⟩
    have HRn := hide ((e1 BR (by have := HOJ.out; omega)).trans HR.out)
    have HVn := hide h1
    have HGn := hide (grown_spoil HG.out LV.out g1)
    clear hHeld h1 e1 g1 HG HSS HR HV
    have HG := HGn
    have HSS := HSSn
    have HR := HRn
    have HV := HVn
    clear HGn HSSn HRn HVn
    refine hKx.out _ _ HSS.out (fun hHeld => ?_)
    clear hKx Kx
    (try simp only [Act.put])
    refine take_put (i := 4) (v := .int .i64 0) 8 rfl rfl (by kernel_rfl) (by kernel_rfl) (by kernel_rfl) (fun _ _ _ h => h) (Or.inl ⟨by rfl, by intro Wy hSW; go_simp⟩) (by assumption) ?_
    (try simp only [Act.put, List.setIfInBounds_toArray, List.set_cons_zero, List.set_cons_succ])
    refine wpAnyH_done (by kernel_rfl) ?_ _
    clear hHeld
    go_wp2
    refine bodyPost_ret (results_rrt rfl _ _ BR 70 #[.int .i64 y0, .int .i64 y1, .int .i64 y2, .int .i64 y3, .int .i64 y4, .int .i64 y5, .int .i64 u] (0, 0) _ BV 50 #[.bool bo, .bool (u == y5), .bool bk] (0, 0) _ rfl HR.out Tryz.underlying70 rfl sizeJ rfl HV.out Tryz.underlying50 rfl sizeV) rfl ?_
    rw [HU.out]
    exact ⟨rfl, HG.out⟩
set_option maxRecDepth 100000 in
set_option maxHeartbeats 8000000 in
theorem ch_low (j : JobV) (t : TaskV) (w w0 : World) (hg0 : w.grownBy w0 none) (h : chMay j t 0 = true) :
    Calls Tryz.prog 51 #[jobVal j, taskVal t, .int .i64 0] w0 fun e w' => e = .returned (.tuple #[jobVal (oneMore j), verVal (false) (decide (j.used + 1 = j.dem)) (spentB t.clow (oneMore j)), .int .i64 0]) ∧ w.grownBy w' none := by
  have CM := hide (fun W => cmay_any j t 0 W)
  rw [h] at CM
  have hj := job_parts (show jobMay j = true by unfold chMay at h; rw [Bool.and_eq_true] at h; exact h.1)
  have HG := hide hg0
  have CG := hide (fun W => granted_low t 0 (by decide) W)
  have CK := hide (fun W => spent_any t.clow (oneMore j) W)
  generalize spentB t.clow (oneMore j) = bk at *
  clear hg0 h
  obtain ⟨y0, y1, y2, y3, y4, y5, y6⟩ := j
  obtain ⟨x0, x1, x2, x3, x4, x5⟩ := t
  dsimp only [jobVal, taskVal, oneMore] at *
  have hu1 : 0 ≤ y6 := hj.2.2.2.2.2.2.2.2.2.2.1
  have hu2 : y6 < 65535 := by omega
  clear hj
  go_enter Tryz.func51, Tryz.ntmps51
  go_upto_region 1 with (first | fail)
  have hg : w0.grownBy ((((w0.alloc (.cells #[.int .i64 y0, .int .i64 y1, .int .i64 y2, .int .i64 y3, .int .i64 y4, .int .i64 y5, .int .i64 y6] 70)).alloc (.cells #[.int .i64 x0, .int .i64 x1, .int .i64 x2, .int .i64 x3, .int .i64 x4, .int .i64 x5] 73)).alloc (.cells #[.int .i64 0, .int .i64 0, .int .i64 0, .int .i64 0, .int .i64 0, .int .i64 0, .int .i64 0] 70)).alloc (.cells #[.bool false, .bool false, .bool false] 50)) none := (grownBy_trans (grownBy_trans (grownBy_trans (grownBy_trans (grownBy_refl _ _) (World.grownBy_alloc _ _ none)) (World.grownBy_alloc _ _ none)) (World.grownBy_alloc _ _ none)) (World.grownBy_alloc _ _ none))
  have hJ := heap_alloc_new w0 (.cells #[.int .i64 y0, .int .i64 y1, .int .i64 y2, .int .i64 y3, .int .i64 y4, .int .i64 y5, .int .i64 y6] 70)
  have HJq := hide (hp_up (hp_up (hp_up hJ (.cells #[.int .i64 x0, .int .i64 x1, .int .i64 x2, .int .i64 x3, .int .i64 x4, .int .i64 x5] 73)) (.cells #[.int .i64 0, .int .i64 0, .int .i64 0, .int .i64 0, .int .i64 0, .int .i64 0, .int .i64 0] 70)) (.cells #[.bool false, .bool false, .bool false] 50))
  clear hJ
  have LJ : Hid (w.heap.size ≤ w0.heap.size) := hide (by have := HG.out.size; omega)
  have hT : ((w0.alloc (.cells #[.int .i64 y0, .int .i64 y1, .int .i64 y2, .int .i64 y3, .int .i64 y4, .int .i64 y5, .int .i64 y6] 70)).alloc (.cells #[.int .i64 x0, .int .i64 x1, .int .i64 x2, .int .i64 x3, .int .i64 x4, .int .i64 x5] 73)).heap[w0.heap.size + 1]? = some (.cells #[.int .i64 x0, .int .i64 x1, .int .i64 x2, .int .i64 x3, .int .i64 x4, .int .i64 x5] 73) := by have h := heap_alloc_new (w0.alloc (.cells #[.int .i64 y0, .int .i64 y1, .int .i64 y2, .int .i64 y3, .int .i64 y4, .int .i64 y5, .int .i64 y6] 70)) (.cells #[.int .i64 x0, .int .i64 x1, .int .i64 x2, .int .i64 x3, .int .i64 x4, .int .i64 x5] 73); rwa [show (w0.alloc (.cells #[.int .i64 y0, .int .i64 y1, .int .i64 y2, .int .i64 y3, .int .i64 y4, .int .i64 y5, .int .i64 y6] 70)).heap.size = w0.heap.size + 1 by simp] at h
  have HTq := hide (hp_up (hp_up hT (.cells #[.int .i64 0, .int .i64 0, .int .i64 0, .int .i64 0, .int .i64 0, .int .i64 0, .int .i64 0] 70)) (.cells #[.bool false, .bool false, .bool false] 50))
  clear hT
  have LT : Hid (w.heap.size ≤ w0.heap.size + 1) := hide (by have := HG.out.size; omega)
  have hR : (((w0.alloc (.cells #[.int .i64 y0, .int .i64 y1, .int .i64 y2, .int .i64 y3, .int .i64 y4, .int .i64 y5, .int .i64 y6] 70)).alloc (.cells #[.int .i64 x0, .int .i64 x1, .int .i64 x2, .int .i64 x3, .int .i64 x4, .int .i64 x5] 73)).alloc (.cells #[.int .i64 0, .int .i64 0, .int .i64 0, .int .i64 0, .int .i64 0, .int .i64 0, .int .i64 0] 70)).heap[w0.heap.size + 1 + 1]? = some (.cells #[.int .i64 0, .int .i64 0, .int .i64 0, .int .i64 0, .int .i64 0, .int .i64 0, .int .i64 0] 70) := by have h := heap_alloc_new ((w0.alloc (.cells #[.int .i64 y0, .int .i64 y1, .int .i64 y2, .int .i64 y3, .int .i64 y4, .int .i64 y5, .int .i64 y6] 70)).alloc (.cells #[.int .i64 x0, .int .i64 x1, .int .i64 x2, .int .i64 x3, .int .i64 x4, .int .i64 x5] 73)) (.cells #[.int .i64 0, .int .i64 0, .int .i64 0, .int .i64 0, .int .i64 0, .int .i64 0, .int .i64 0] 70); rwa [show ((w0.alloc (.cells #[.int .i64 y0, .int .i64 y1, .int .i64 y2, .int .i64 y3, .int .i64 y4, .int .i64 y5, .int .i64 y6] 70)).alloc (.cells #[.int .i64 x0, .int .i64 x1, .int .i64 x2, .int .i64 x3, .int .i64 x4, .int .i64 x5] 73)).heap.size = w0.heap.size + 1 + 1 by simp] at h
  have HRq := hide (hp_up hR (.cells #[.bool false, .bool false, .bool false] 50))
  clear hR
  have LR : Hid (w.heap.size ≤ w0.heap.size + 1 + 1) := hide (by have := HG.out.size; omega)
  have hV : ((((w0.alloc (.cells #[.int .i64 y0, .int .i64 y1, .int .i64 y2, .int .i64 y3, .int .i64 y4, .int .i64 y5, .int .i64 y6] 70)).alloc (.cells #[.int .i64 x0, .int .i64 x1, .int .i64 x2, .int .i64 x3, .int .i64 x4, .int .i64 x5] 73)).alloc (.cells #[.int .i64 0, .int .i64 0, .int .i64 0, .int .i64 0, .int .i64 0, .int .i64 0, .int .i64 0] 70)).alloc (.cells #[.bool false, .bool false, .bool false] 50)).heap[w0.heap.size + 1 + 1 + 1]? = some (.cells #[.bool false, .bool false, .bool false] 50) := by have h := heap_alloc_new (((w0.alloc (.cells #[.int .i64 y0, .int .i64 y1, .int .i64 y2, .int .i64 y3, .int .i64 y4, .int .i64 y5, .int .i64 y6] 70)).alloc (.cells #[.int .i64 x0, .int .i64 x1, .int .i64 x2, .int .i64 x3, .int .i64 x4, .int .i64 x5] 73)).alloc (.cells #[.int .i64 0, .int .i64 0, .int .i64 0, .int .i64 0, .int .i64 0, .int .i64 0, .int .i64 0] 70)) (.cells #[.bool false, .bool false, .bool false] 50); rwa [show (((w0.alloc (.cells #[.int .i64 y0, .int .i64 y1, .int .i64 y2, .int .i64 y3, .int .i64 y4, .int .i64 y5, .int .i64 y6] 70)).alloc (.cells #[.int .i64 x0, .int .i64 x1, .int .i64 x2, .int .i64 x3, .int .i64 x4, .int .i64 x5] 73)).alloc (.cells #[.int .i64 0, .int .i64 0, .int .i64 0, .int .i64 0, .int .i64 0, .int .i64 0, .int .i64 0] 70)).heap.size = w0.heap.size + 1 + 1 + 1 by simp] at h
  have HVq := hide hV
  clear hV
  have LV : Hid (w.heap.size ≤ w0.heap.size + 1 + 1 + 1) := hide (by have := HG.out.size; omega)
  have HGn := hide (grownBy_trans HG.out hg)
  clear HG
  have HG := HGn
  clear HGn
  clear hg
  have HJ := HJq
  clear HJq
  have HT := HTq
  clear HTq
  have HR := HRq
  clear HRq
  have HV := HVq
  clear HVq
  have HOJ : Hid (w0.heap.size < w0.heap.size + 1 ∧ w0.heap.size + 1 < w0.heap.size + 1 + 1 ∧ w0.heap.size + 1 + 1 < w0.heap.size + 1 + 1 + 1) := hide (by omega)
  generalize hWx : ((((w0.alloc (.cells #[.int .i64 y0, .int .i64 y1, .int .i64 y2, .int .i64 y3, .int .i64 y4, .int .i64 y5, .int .i64 y6] 70)).alloc (.cells #[.int .i64 x0, .int .i64 x1, .int .i64 x2, .int .i64 x3, .int .i64 x4, .int .i64 x5] 73)).alloc (.cells #[.int .i64 0, .int .i64 0, .int .i64 0, .int .i64 0, .int .i64 0, .int .i64 0, .int .i64 0] 70)).alloc (.cells #[.bool false, .bool false, .bool false] 50)) = w1 at *
  clear hWx
  generalize hBx : w0.heap.size + 1 + 1 + 1 = BV at *
  clear hBx
  generalize hBx : w0.heap.size + 1 + 1 = BR at *
  clear hBx
  generalize hBx : w0.heap.size + 1 = BT at *
  clear hBx
  generalize hBx : w0.heap.size = BJ at *
  clear hBx
  have cJ0 : w1.cell? ⟨BJ, 0, none⟩ = some (.int .i64 y0) := blk_cell HJ.out 0
  have cJ1 : w1.cell? ⟨BJ, 1, none⟩ = some (.int .i64 y1) := blk_cell HJ.out 1
  have cJ2 : w1.cell? ⟨BJ, 2, none⟩ = some (.int .i64 y2) := blk_cell HJ.out 2
  have cJ3 : w1.cell? ⟨BJ, 3, none⟩ = some (.int .i64 y3) := blk_cell HJ.out 3
  have cJ4 : w1.cell? ⟨BJ, 4, none⟩ = some (.int .i64 y4) := blk_cell HJ.out 4
  have cJ5 : w1.cell? ⟨BJ, 5, none⟩ = some (.int .i64 y5) := blk_cell HJ.out 5
  have cJ6 : w1.cell? ⟨BJ, 6, none⟩ = some (.int .i64 y6) := blk_cell HJ.out 6
  have cT0 : w1.cell? ⟨BT, 0, none⟩ = some (.int .i64 x0) := blk_cell HT.out 0
  have cT1 : w1.cell? ⟨BT, 1, none⟩ = some (.int .i64 x1) := blk_cell HT.out 1
  have cT2 : w1.cell? ⟨BT, 2, none⟩ = some (.int .i64 x2) := blk_cell HT.out 2
  have cT3 : w1.cell? ⟨BT, 3, none⟩ = some (.int .i64 x3) := blk_cell HT.out 3
  have cT4 : w1.cell? ⟨BT, 4, none⟩ = some (.int .i64 x4) := blk_cell HT.out 4
  have cT5 : w1.cell? ⟨BT, 5, none⟩ = some (.int .i64 x5) := blk_cell HT.out 5
  go_wp2_with (first | fail)
  refine (CM.out _).mono ?_; rintro e w2 ⟨rfl, hg⟩
  clear cJ0 cJ1 cJ2 cJ3 cJ4 cJ5 cJ6 cT0 cT1 cT2 cT3 cT4 cT5
  have HGn := hide (grownBy_trans HG.out hg)
  have HJn := hide (box_grown HJ.out hg (by simp))
  have HTn := hide (box_grown HT.out hg (by simp))
  have HRn := hide (box_grown HR.out hg (by simp))
  have HVn := hide (box_grown HV.out hg (by simp))
  clear HG HJ HT HR HV
  have HG := HGn
  have HJ := HJn
  have HT := HTn
  have HR := HRn
  have HV := HVn
  clear HGn HJn HTn HRn HVn
  clear hg
  have cJ6 : w2.cell? ⟨BJ, 6, none⟩ = some (.int .i64 y6) := blk_cell HJ.out 6
  have fJ6 := blk_free HJ.out 6
  go_upto_region 4 with (first | fail)
  generalize hU : y6 + 1 = u at *
  have HU := hide hU
  clear hU hu1 hu2
  clear cJ6 fJ6
  have hg := grownBy_set w2 BJ 6 (.int .i64 u)
  have HGn := hide (grown_spoil HG.out LJ.out hg)
  have HTn := hide (box_type HT.out hg (type_box HJ.out) (by decide))
  have HRn := hide (box_grown HR.out hg (by simp; have := HOJ.out; omega))
  have HVn := hide (box_type HV.out hg (type_box HJ.out) (by decide))
  have HJn := hide (blk_set (j := 6) (u := .int .i64 u) (cs' := #[.int .i64 y0, .int .i64 y1, .int .i64 y2, .int .i64 y3, .int .i64 y4, .int .i64 y5, .int .i64 u]) HJ.out rfl)
  clear HG HT HR HV HJ
  have HG := HGn
  have HT := HTn
  have HR := HRn
  have HV := HVn
  have HJ := HJn
  clear HGn HTn HRn HVn HJn
  clear hg
  generalize hWx : w2.setCell ⟨BJ, 6, none⟩ (.int .i64 u) = w3 at *
  clear hWx
  have HSS : Hid ((fun W => W.heap[BJ]? = some (.cells #[.int .i64 y0, .int .i64 y1, .int .i64 y2, .int .i64 y3, .int .i64 y4, .int .i64 y5, .int .i64 u] 70 (0, 0)) ∧ W.heap[BT]? = some (.cells #[.int .i64 x0, .int .i64 x1, .int .i64 x2, .int .i64 x3, .int .i64 x4, .int .i64 x5] 73 (0, 0))) w3) := hide ⟨HJ.out, HT.out⟩
  refine wp_region_held_drew (S := fun W => W.heap[BJ]? = some (.cells #[.int .i64 y0, .int .i64 y1, .int .i64 y2, .int .i64 y3, .int .i64 y4, .int .i64 y5, .int .i64 u] 70 (0, 0)) ∧ W.heap[BT]? = some (.cells #[.int .i64 x0, .int .i64 x1, .int .i64 x2, .int .i64 x3, .int .i64 x4, .int .i64 x5] 73 (0, 0))) (by kernel_rfl) HSS.out (fun hHeld => ?_)
  have HGd : Hid (w.grownBy w3.drew none) := hide (grownBy_trans HG.out (grownBy_draws w3 1 none))
  have HSSd : Hid ((fun W => W.heap[BJ]? = some (.cells #[.int .i64 y0, .int .i64 y1, .int .i64 y2, .int .i64 y3, .int .i64 y4, .int .i64 y5, .int .i64 u] 70 (0, 0)) ∧ W.heap[BT]? = some (.cells #[.int .i64 x0, .int .i64 x1, .int .i64 x2, .int .i64 x3, .int .i64 x4, .int .i64 x5] 73 (0, 0))) w3.drew) := hide HSS.out
  have HRd := hide (box_grown HR.out (grownBy_draws w3 1 none) (by simp))
  have HVd := hide (box_grown HV.out (grownBy_draws w3 1 none) (by simp))
  clear HG HSS HR HV HJ HT
  have hdd : w3.drewN 1 = w3.drew := rfl
  rw [hdd] at HRd HVd
  clear hdd
  generalize w3.drew = W at *
  have HG := HGd
  have HSS := HSSd
  have HR := HRd
  have HV := HVd
  clear HGd HSSd HRd HVd
  refine take_put (i := 0) (v := .int .i64 0) 21 rfl rfl (by kernel_rfl) (by kernel_rfl) (by kernel_rfl) (fun _ _ _ h => h) (Or.inl ⟨by rfl, by intro Wy hSW; go_simp⟩) (by assumption) ?_
  (try simp only [Act.put, List.setIfInBounds_toArray, List.set_cons_zero, List.set_cons_succ])
  refine take_put (i := 1) (v := .bool false) 22 rfl rfl (by kernel_rfl) (by kernel_rfl) (by kernel_rfl) (fun _ _ _ h => h) (Or.inl ⟨by rfl, by intro Wy hSW; go_simp⟩) (by assumption) ?_
  (try simp only [Act.put, List.setIfInBounds_toArray, List.set_cons_zero, List.set_cons_succ])
  refine take_put (i := 2) (v := .bool false) 23 rfl rfl (by kernel_rfl) (by kernel_rfl) (by kernel_rfl) (fun _ _ _ h => h) (Or.inl ⟨by rfl, by intro Wy hSW; go_simp⟩) (by assumption) ?_
  (try simp only [Act.put, List.setIfInBounds_toArray, List.set_cons_zero, List.set_cons_succ])
  refine take_put (i := 3) (v := undef) 24 rfl rfl (by kernel_rfl) (by kernel_rfl) (by kernel_rfl) (fun _ _ _ h => h) (Or.inr ⟨by rfl, rfl⟩) (by assumption) ?_
  (try simp only [Act.put, List.setIfInBounds_toArray, List.set_cons_zero, List.set_cons_succ])
  refine take_put (i := 4) (v := undef) 25 rfl rfl (by kernel_rfl) (by kernel_rfl) (by kernel_rfl) (fun _ _ _ h => h) (Or.inr ⟨by rfl, rfl⟩) (by assumption) ?_
  (try simp only [Act.put, List.setIfInBounds_toArray, List.set_cons_zero, List.set_cons_succ])
  refine take_put (i := 5) (v := undef) 26 rfl rfl (by kernel_rfl) (by kernel_rfl) (by kernel_rfl) (fun _ _ _ h => h) (Or.inr ⟨by rfl, rfl⟩) (by assumption) ?_
  (try simp only [Act.put, List.setIfInBounds_toArray, List.set_cons_zero, List.set_cons_succ])
  refine take_put (i := 6) (v := undef) 27 rfl rfl (by kernel_rfl) (by kernel_rfl) (by kernel_rfl) (fun _ _ _ h => h) (Or.inr ⟨by rfl, rfl⟩) (by assumption) ?_
  (try simp only [Act.put, List.setIfInBounds_toArray, List.set_cons_zero, List.set_cons_succ])
  refine take_put (i := 7) (v := .bool false) 28 rfl rfl (by kernel_rfl) (by kernel_rfl) (by kernel_rfl) (fun _ _ _ h => h) (Or.inl ⟨by rfl, by intro Wy hSW; go_simp⟩) (by assumption) ?_
  (try simp only [Act.put, List.setIfInBounds_toArray, List.set_cons_zero, List.set_cons_succ])
  refine take_put (i := 8) (v := .pointer (some ⟨BJ, 6, none⟩)) 29 rfl rfl (by kernel_rfl) (by kernel_rfl) (by kernel_rfl) (fun _ _ _ h => h) (Or.inl ⟨by rfl, by intro Wy hSW; go_simp⟩) (by assumption) ?_
  (try simp only [Act.put, List.setIfInBounds_toArray, List.set_cons_zero, List.set_cons_succ])
  refine take_put (i := 9) (v := .int .i64 u) 30 rfl rfl (by kernel_rfl) (by kernel_rfl) (by kernel_rfl) (fun _ _ _ h => h) (Or.inl ⟨by rfl, by intro Wy hSW; have hc := blk_cell hSW.1 6; go_simp⟩) (by assumption) ?_
  (try simp only [Act.put, List.setIfInBounds_toArray, List.set_cons_zero, List.set_cons_succ])
  refine take_put (i := 10) (v := .pointer (some ⟨BJ, 5, none⟩)) 31 rfl rfl (by kernel_rfl) (by kernel_rfl) (by kernel_rfl) (fun _ _ _ h => h) (Or.inl ⟨by rfl, by intro Wy hSW; go_simp⟩) (by assumption) ?_
  (try simp only [Act.put, List.setIfInBounds_toArray, List.set_cons_zero, List.set_cons_succ])
  refine take_put (i := 11) (v := .int .i64 y5) 32 rfl rfl (by kernel_rfl) (by kernel_rfl) (by kernel_rfl) (fun _ _ _ h => h) (Or.inl ⟨by rfl, by intro Wy hSW; have hc := blk_cell hSW.1 5; go_simp⟩) (by assumption) ?_
  (try simp only [Act.put, List.setIfInBounds_toArray, List.set_cons_zero, List.set_cons_succ])
  refine take_put (i := 12) (v := .bool (u == y5)) 33 rfl rfl (by kernel_rfl) (by kernel_rfl) (by kernel_rfl) (fun _ _ _ h => h) (Or.inl ⟨by rfl, by intro Wy hSW; go_simp⟩) (by assumption) ?_
  (try simp only [Act.put, List.setIfInBounds_toArray, List.set_cons_zero, List.set_cons_succ])
  refine take_put (i := 13) (v := .agg #[.int .i64 x0, .int .i64 x1, .int .i64 x2, .int .i64 x3, .int .i64 x4, .int .i64 x5]) 34 rfl rfl (by kernel_rfl) (by kernel_rfl) (by kernel_rfl) (fun _ _ _ h => h) (Or.inl ⟨by rfl, by intro Wy hSW; have hc := (⟨blk_cell hSW.2 0, blk_cell hSW.2 1, blk_cell hSW.2 2, blk_cell hSW.2 3, blk_cell hSW.2 4, blk_cell hSW.2 5⟩ : _ ∧ _ ∧ _ ∧ _ ∧ _ ∧ _); go_simp⟩) (by assumption) ?_
  (try simp only [Act.put, List.setIfInBounds_toArray, List.set_cons_zero, List.set_cons_succ])
  refine take_put (i := 14) (v := .int .i64 0) 35 rfl rfl (by kernel_rfl) (by kernel_rfl) (by kernel_rfl) (fun _ _ _ h => h) (Or.inl ⟨by rfl, by intro Wy hSW; go_simp⟩) (by assumption) ?_
  (try simp only [Act.put, List.setIfInBounds_toArray, List.set_cons_zero, List.set_cons_succ])
  refine take_put (i := 16) (v := .agg #[.int .i64 y0, .int .i64 y1, .int .i64 y2, .int .i64 y3, .int .i64 y4, .int .i64 y5, .int .i64 u]) 37 rfl rfl (by kernel_rfl) (by kernel_rfl) (by kernel_rfl) (fun _ _ _ h => h) (Or.inl ⟨by rfl, by intro Wy hSW; have hc := (⟨blk_cell hSW.1 0, blk_cell hSW.1 1, blk_cell hSW.1 2, blk_cell hSW.1 3, blk_cell hSW.1 4, blk_cell hSW.1 5, blk_cell hSW.1 6⟩ : _ ∧ _ ∧ _ ∧ _ ∧ _ ∧ _ ∧ _); go_simp⟩) (by assumption) ?_
  (try simp only [Act.put, List.setIfInBounds_toArray, List.set_cons_zero, List.set_cons_succ])
  refine wpAnyH_ready (rs := [15, 19]) (by kernel_rfl) (by simp) ?_
  refine AllReadyH.cons rfl (fun Kx hKx => ?_) (AllReadyH.cons rfl (fun Kx hKx => ?_) AllReadyH.nil)
  · skip
    go_simp
    refine (CG.out _).mono ?_; rintro e W1 ⟨rfl, hg⟩
    have HGn := hide (grownBy_trans HG.out hg)
    have HSSn : Hid ((fun W => W.heap[BJ]? = some (.cells #[.int .i64 y0, .int .i64 y1, .int .i64 y2, .int .i64 y3, .int .i64 y4, .int .i64 y5, .int .i64 u] 70 (0, 0)) ∧ W.heap[BT]? = some (.cells #[.int .i64 x0, .int .i64 x1, .int .i64 x2, .int .i64 x3, .int .i64 x4, .int .i64 x5] 73 (0, 0))) W1) := hide ⟨box_grown HSS.out.1 hg (by simp), box_grown HSS.out.2 hg (by simp)⟩
    have HRn := hide (box_grown HR.out hg (by simp))
    have HVn := hide (box_grown HV.out hg (by simp))
    clear HG HSS hHeld HR HV
    have HG := HGn
    have HSS := HSSn
    have HR := HRn
    have HV := HVn
    clear HGn HSSn HRn HVn
    clear hg
    refine hKx.out _ _ HSS.out (fun hHeld => ?_)
    clear hKx Kx
    (try simp only [Act.put])
    refine wpAnyH_ready (rs := [17, 19]) (by kernel_rfl) (by simp) ?_
    refine AllReadyH.cons rfl (fun Kx hKx => ?_) (AllReadyH.cons rfl (fun Kx hKx => ?_) AllReadyH.nil)
    · skip
      go_simp
      refine (CK.out _).mono ?_; rintro e W2 ⟨rfl, hg⟩
      have HGn := hide (grownBy_trans HG.out hg)
      have HSSn : Hid ((fun W => W.heap[BJ]? = some (.cells #[.int .i64 y0, .int .i64 y1, .int .i64 y2, .int .i64 y3, .int .i64 y4, .int .i64 y5, .int .i64 u] 70 (0, 0)) ∧ W.heap[BT]? = some (.cells #[.int .i64 x0, .int .i64 x1, .int .i64 x2, .int .i64 x3, .int .i64 x4, .int .i64 x5] 73 (0, 0))) W2) := hide ⟨box_grown HSS.out.1 hg (by simp), box_grown HSS.out.2 hg (by simp)⟩
      have HRn := hide (box_grown HR.out hg (by simp))
      have HVn := hide (box_grown HV.out hg (by simp))
      clear HG HSS hHeld HR HV
      have HG := HGn
      have HSS := HSSn
      have HR := HRn
      have HV := HVn
      clear HGn HSSn HRn HVn
      clear hg
      refine hKx.out _ _ HSS.out (fun hHeld => ?_)
      clear hKx Kx
      (try simp only [Act.put])
      refine take_put (i := 18) (v := .agg #[.bool false, .bool (u == y5), .bool bk]) 39 rfl rfl (by kernel_rfl) (by kernel_rfl) (by kernel_rfl) (fun _ _ _ h => h) (Or.inl ⟨by rfl, by intro Wy hSW; go_simp⟩) (by assumption) ?_
      (try simp only [Act.put, List.setIfInBounds_toArray, List.set_cons_zero, List.set_cons_succ])
      refine wpAnyH_ready (rs := [19]) (by kernel_rfl) (by simp) ?_
      refine AllReadyH.cons rfl (fun Kx hKx => ?_) AllReadyH.nil
      go_simp
      have hg := World.grownBy_alloc W2 (.cells #[.bool false, .bool false, .bool false] 50) none
      have HNq := hide (heap_alloc_new W2 (.cells #[.bool false, .bool false, .bool false] 50))
      have LN : Hid (w.heap.size ≤ W2.heap.size ∧ W2.heap.size ≠ BJ ∧ W2.heap.size ≠ BT ∧ W2.heap.size ≠ BR ∧ W2.heap.size ≠ BV) := hide ⟨HG.out.size, fun e => absurd (box_lt HSS.out.1) (by omega), fun e => absurd (box_lt HSS.out.2) (by omega), fun e => absurd (box_lt HR.out) (by omega), fun e => absurd (box_lt HV.out) (by omega)⟩
      have HGn := hide (grownBy_trans HG.out hg)
      have HSSn : Hid ((fun W => W.heap[BJ]? = some (.cells #[.int .i64 y0, .int .i64 y1, .int .i64 y2, .int .i64 y3, .int .i64 y4, .int .i64 y5, .int .i64 u] 70 (0, 0)) ∧ W.heap[BT]? = some (.cells #[.int .i64 x0, .int .i64 x1, .int .i64 x2, .int .i64 x3, .int .i64 x4, .int .i64 x5] 73 (0, 0))) (W2.alloc (.cells #[.bool false, .bool false, .bool false] 50))) := hide ⟨box_grown HSS.out.1 hg (by simp), box_grown HSS.out.2 hg (by simp)⟩
      have HRn := hide (box_grown HR.out hg (by simp))
      have HVn := hide (box_grown HV.out hg (by simp))
      clear HG HSS hHeld HR HV
      have HG := HGn
      have HSS := HSSn
      have HR := HRn
      have HV := HVn
      clear HGn HSSn HRn HVn
      clear hg
      have HN := HNq
      clear HNq
      refine hKx.out _ _ HSS.out (fun hHeld => ?_)
      clear hKx Kx
      (try simp only [Act.put])
      generalize W2.alloc (.cells #[.bool false, .bool false, .bool false] 50) = W3 at *
      generalize W2.heap.size = BN at *
      refine wpAnyH_ready (rs := [20]) (by kernel_rfl) (by simp) ?_
      refine AllReadyH.cons rfl (fun Kx hKx => ?_) AllReadyH.nil
      refine step_store 50 (.tmp 9) (.tmp 39) BN #[.bool false, .bool (u == y5), .bool bk] 50 #[.bool false, .bool false, .bool false] rfl rfl HN.out sizeV rfl (by simp [Value.oneCell']) ?_
      intro W4 h1 e1 g1
      have HSSn : Hid ((fun W => W.heap[BJ]? = some (.cells #[.int .i64 y0, .int .i64 y1, .int .i64 y2, .int .i64 y3, .int .i64 y4, .int .i64 y5, .int .i64 u] 70 (0, 0)) ∧ W.heap[BT]? = some (.cells #[.int .i64 x0, .int .i64 x1, .int .i64 x2, .int .i64 x3, .int .i64 x4, .int .i64 x5] 73 (0, 0))) W4) := hide ⟨(e1 BJ LN.out.2.1.symm).trans HSS.out.1, (e1 BT LN.out.2.2.1.symm).trans HSS.out.2⟩
      have HRn := hide ((e1 BR LN.out.2.2.2.1.symm).trans HR.out)
      have HVn := hide ((e1 BV LN.out.2.2.2.2.symm).trans HV.out)
      have HNn := hide h1
      have HGn := hide (grown_spoil HG.out LN.out.1 g1)
      clear hHeld h1 e1 g1 HG HSS HR HV HN
      have HG := HGn
      have HSS := HSSn
      have HR := HRn
      have HV := HVn
      have HN := HNn
      clear HGn HSSn HRn HVn HNn
      refine hKx.out _ _ HSS.out (fun hHeld => ?_)
      clear hKx Kx
      (try simp only [Act.put])
      refine wpAnyH_done (by kernel_rfl) ?_ _
      clear hHeld
      go_upto_region 5 with (first | fail)
      have HSS2 : Hid ((fun W => W.heap[BJ]? = some (.cells #[.int .i64 y0, .int .i64 y1, .int .i64 y2, .int .i64 y3, .int .i64 y4, .int .i64 y5, .int .i64 u] 70 (0, 0)) ∧ W.heap[BN]? = some (.cells #[.bool false, .bool (u == y5), .bool bk] 50 (0, 0))) W4) := hide ⟨HSS.out.1, HN.out⟩
      refine wp_region_held_drew (S := fun W => W.heap[BJ]? = some (.cells #[.int .i64 y0, .int .i64 y1, .int .i64 y2, .int .i64 y3, .int .i64 y4, .int .i64 y5, .int .i64 u] 70 (0, 0)) ∧ W.heap[BN]? = some (.cells #[.bool false, .bool (u == y5), .bool bk] 50 (0, 0))) (by kernel_rfl) HSS2.out (fun hHeld => ?_)
      have HGd : Hid (w.grownBy W4.drew none) := hide (grownBy_trans HG.out (grownBy_draws W4 1 none))
      have HSSd : Hid ((fun W => W.heap[BJ]? = some (.cells #[.int .i64 y0, .int .i64 y1, .int .i64 y2, .int .i64 y3, .int .i64 y4, .int .i64 y5, .int .i64 u] 70 (0, 0)) ∧ W.heap[BN]? = some (.cells #[.bool false, .bool (u == y5), .bool bk] 50 (0, 0))) W4.drew) := hide HSS2.out
      have HRd := hide (box_grown HR.out (grownBy_draws W4 1 none) (by simp))
      have HVd := hide (box_grown HV.out (grownBy_draws W4 1 none) (by simp))
      clear HG HSS HSS2 HR HV HN
      have hdd : W4.drewN 1 = W4.drew := rfl
      rw [hdd] at HRd HVd
      clear hdd
      generalize W4.drew = Z at *
      have HG := HGd
      have HSS := HSSd
      have HR := HRd
      have HV := HVd
      clear HGd HSSd HRd HVd
      refine take_put (i := 0) (v := .agg #[.int .i64 y0, .int .i64 y1, .int .i64 y2, .int .i64 y3, .int .i64 y4, .int .i64 y5, .int .i64 u]) 40 rfl rfl (by kernel_rfl) (by kernel_rfl) (by kernel_rfl) (fun _ _ _ h => h) (Or.inl ⟨by rfl, by intro Wy hSW; have hc := (⟨blk_cell hSW.1 0, blk_cell hSW.1 1, blk_cell hSW.1 2, blk_cell hSW.1 3, blk_cell hSW.1 4, blk_cell hSW.1 5, blk_cell hSW.1 6⟩ : _ ∧ _ ∧ _ ∧ _ ∧ _ ∧ _ ∧ _); go_simp⟩) (by assumption) ?_
      (try simp only [Act.put, List.setIfInBounds_toArray, List.set_cons_zero, List.set_cons_succ])
      refine take_put (i := 1) (v := .agg #[.bool false, .bool (u == y5), .bool bk]) 41 rfl rfl (by kernel_rfl) (by kernel_rfl) (by kernel_rfl) (fun _ _ _ h => h) (Or.inl ⟨by rfl, by intro Wy hSW; have hc := (⟨blk_cell hSW.2 0, blk_cell hSW.2 1, blk_cell hSW.2 2⟩ : _ ∧ _ ∧ _); go_simp⟩) (by assumption) ?_
      (try simp only [Act.put, List.setIfInBounds_toArray, List.set_cons_zero, List.set_cons_succ])
      refine wpAnyH_ready (rs := [2]) (by kernel_rfl) (by simp) ?_
      refine AllReadyH.cons rfl (fun Kx hKx => ?_) AllReadyH.nil
      refine step_store 70 (.tmp 6) (.tmp 40) BR #[.int .i64 y0, .int .i64 y1, .int .i64 y2, .int .i64 y3, .int .i64 y4, .int .i64 y5, .int .i64 u] 70 #[.int .i64 0, .int .i64 0, .int .i64 0, .int .i64 0, .int .i64 0, .int .i64 0, .int .i64 0] rfl rfl HR.out sizeJ rfl (by simp [Value.oneCell']) ?_
      intro Y1 h1 e1 g1
      have HSSn : Hid ((fun W => W.heap[BJ]? = some (.cells #[.int .i64 y0, .int .i64 y1, .int .i64 y2, .int .i64 y3, .int .i64 y4, .int .i64 y5, .int .i64 u] 70 (0, 0)) ∧ W.heap[BN]? = some (.cells #[.bool false, .bool (u == y5), .bool bk] 50 (0, 0))) Y1) := hide ⟨(e1 BJ (by have := HOJ.out; omega)).trans HSS.out.1, (e1 BN (LN.out.2.2.2.1)).trans HSS.out.2⟩
      have HVn := hide ((e1 BV (by have := HOJ.out; omega)).trans HV.out)
      have HRn := hide h1
      have HGn := hide (grown_spoil HG.out LR.out g1)
      clear hHeld h1 e1 g1 HG HSS HR HV
      have HG := HGn
      have HSS := HSSn
      have HR := HRn
      have HV := HVn
      clear HGn HSSn HRn HVn
      refine hKx.out _ _ HSS.out (fun hHeld => ?_)
      clear hKx Kx
      (try simp only [Act.put])
      refine wpAnyH_ready (rs := [3]) (by kernel_rfl) (by simp) ?_
      refine AllReadyH.cons rfl (fun Kx hKx => ?_) AllReadyH.nil
      refine step_store 50 (.tmp 7) (.tmp 41) BV #[.bool false, .bool (u == y5), .bool bk] 50 #[.bool false, .bool false, .bool false] rfl rfl HV.out sizeV rfl (by simp [Value.oneCell']) ?_
      intro Y2 h1 e1 g1
      have HSSn : Hid ((fun W => W.heap[BJ]? = some (.cells #[.int .i64 y0, .int .i64 y1, .int .i64 y2, .int .i64 y3, .int .i64 y4, .int .i64 y5, .int .i64 u] 70 (0, 0)) ∧ W.heap[BN]? = some (.cells #[.bool false, .bool (u == y5), .bool bk] 50 (0, 0))) Y2) := hide ⟨(e1 BJ (by have := HOJ.out; omega)).trans HSS.out.1, (e1 BN (LN.out.2.2.2.2)).trans HSS.out.2⟩
      have HRn := hide ((e1 BR (by have := HOJ.out; omega)).trans HR.out)
      have HVn := hide h1
      have HGn := hide (grown_spoil HG.out LV.out g1)
      clear hHeld h1 e1 g1 HG HSS HR HV
      have HG := HGn
      have HSS := HSSn
      have HR := HRn
      have HV := HVn
      clear HGn HSSn HRn HVn
      refine hKx.out _ _ HSS.out (fun hHeld => ?_)
      clear hKx Kx
      (try simp only [Act.put])
      refine take_put (i := 4) (v := .int .i64 0) 8 rfl rfl (by kernel_rfl) (by kernel_rfl) (by kernel_rfl) (fun _ _ _ h => h) (Or.inl ⟨by rfl, by intro Wy hSW; go_simp⟩) (by assumption) ?_
      (try simp only [Act.put, List.setIfInBounds_toArray, List.set_cons_zero, List.set_cons_succ])
      refine wpAnyH_done (by kernel_rfl) ?_ _
      clear hHeld
      go_wp2
      refine bodyPost_ret (results_rrt rfl _ _ BR 70 #[.int .i64 y0, .int .i64 y1, .int .i64 y2, .int .i64 y3, .int .i64 y4, .int .i64 y5, .int .i64 u] (0, 0) _ BV 50 #[.bool false, .bool (u == y5), .bool bk] (0, 0) _ rfl HR.out Tryz.underlying70 rfl sizeJ rfl HV.out Tryz.underlying50 rfl sizeV) rfl ?_
      rw [HU.out]
      exact ⟨rfl, HG.out⟩
    · skip
      go_simp
      have hg := World.grownBy_alloc W1 (.cells #[.bool false, .bool false, .bool false] 50) none
      have HNq := hide (heap_alloc_new W1 (.cells #[.bool false, .bool false, .bool false] 50))
      have LN : Hid (w.heap.size ≤ W1.heap.size ∧ W1.heap.size ≠ BJ ∧ W1.heap.size ≠ BT ∧ W1.heap.size ≠ BR ∧ W1.heap.size ≠ BV) := hide ⟨HG.out.size, fun e => absurd (box_lt HSS.out.1) (by omega), fun e => absurd (box_lt HSS.out.2) (by omega), fun e => absurd (box_lt HR.out) (by omega), fun e => absurd (box_lt HV.out) (by omega)⟩
      have HGn := hide (grownBy_trans HG.out hg)
      have HSSn : Hid ((fun W => W.heap[BJ]? = some (.cells #[.int .i64 y0, .int .i64 y1, .int .i64 y2, .int .i64 y3, .int .i64 y4, .int .i64 y5, .int .i64 u] 70 (0, 0)) ∧ W.heap[BT]? = some (.cells #[.int .i64 x0, .int .i64 x1, .int .i64 x2, .int .i64 x3, .int .i64 x4, .int .i64 x5] 73 (0, 0))) (W1.alloc (.cells #[.bool false, .bool false, .bool false] 50))) := hide ⟨box_grown HSS.out.1 hg (by simp), box_grown HSS.out.2 hg (by simp)⟩
      have HRn := hide (box_grown HR.out hg (by simp))
      have HVn := hide (box_grown HV.out hg (by simp))
      clear HG HSS hHeld HR HV
      have HG := HGn
      have HSS := HSSn
      have HR := HRn
      have HV := HVn
      clear HGn HSSn HRn HVn
      clear hg
      have HN := HNq
      clear HNq
      refine hKx.out _ _ HSS.out (fun hHeld => ?_)
      clear hKx Kx
      (try simp only [Act.put])
      generalize W1.alloc (.cells #[.bool false, .bool false, .bool false] 50) = W5 at *
      generalize W1.heap.size = BN at *
      refine wpAnyH_ready (rs := [17]) (by kernel_rfl) (by simp) ?_
      refine AllReadyH.cons rfl (fun Kx hKx => ?_) AllReadyH.nil
      go_simp
      refine (CK.out _).mono ?_; rintro e W6 ⟨rfl, hg⟩
      have HGn := hide (grownBy_trans HG.out hg)
      have HSSn : Hid ((fun W => W.heap[BJ]? = some (.cells #[.int .i64 y0, .int .i64 y1, .int .i64 y2, .int .i64 y3, .int .i64 y4, .int .i64 y5, .int .i64 u] 70 (0, 0)) ∧ W.heap[BT]? = some (.cells #[.int .i64 x0, .int .i64 x1, .int .i64 x2, .int .i64 x3, .int .i64 x4, .int .i64 x5] 73 (0, 0))) W6) := hide ⟨box_grown HSS.out.1 hg (by simp), box_grown HSS.out.2 hg (by simp)⟩
      have HRn := hide (box_grown HR.out hg (by simp))
      have HVn := hide (box_grown HV.out hg (by simp))
      have HNn := hide (box_grown HN.out hg (by simp))
      clear HG HSS hHeld HR HV HN
      have HG := HGn
      have HSS := HSSn
      have HR := HRn
      have HV := HVn
      have HN := HNn
      clear HGn HSSn HRn HVn HNn
      clear hg
      refine hKx.out _ _ HSS.out (fun hHeld => ?_)
      clear hKx Kx
      (try simp only [Act.put])
      refine take_put (i := 18) (v := .agg #[.bool false, .bool (u == y5), .bool bk]) 39 rfl rfl (by kernel_rfl) (by kernel_rfl) (by kernel_rfl) (fun _ _ _ h => h) (Or.inl ⟨by rfl, by intro Wy hSW; go_simp⟩) (by assumption) ?_
      (try simp only [Act.put, List.setIfInBounds_toArray, List.set_cons_zero, List.set_cons_succ])
      refine wpAnyH_ready (rs := [20]) (by kernel_rfl) (by simp) ?_
      refine AllReadyH.cons rfl (fun Kx hKx => ?_) AllReadyH.nil
      refine step_store 50 (.tmp 9) (.tmp 39) BN #[.bool false, .bool (u == y5), .bool bk] 50 #[.bool false, .bool false, .bool false] rfl rfl HN.out sizeV rfl (by simp [Value.oneCell']) ?_
      intro W7 h1 e1 g1
      have HSSn : Hid ((fun W => W.heap[BJ]? = some (.cells #[.int .i64 y0, .int .i64 y1, .int .i64 y2, .int .i64 y3, .int .i64 y4, .int .i64 y5, .int .i64 u] 70 (0, 0)) ∧ W.heap[BT]? = some (.cells #[.int .i64 x0, .int .i64 x1, .int .i64 x2, .int .i64 x3, .int .i64 x4, .int .i64 x5] 73 (0, 0))) W7) := hide ⟨(e1 BJ LN.out.2.1.symm).trans HSS.out.1, (e1 BT LN.out.2.2.1.symm).trans HSS.out.2⟩
      have HRn := hide ((e1 BR LN.out.2.2.2.1.symm).trans HR.out)
      have HVn := hide ((e1 BV LN.out.2.2.2.2.symm).trans HV.out)
      have HNn := hide h1
      have HGn := hide (grown_spoil HG.out LN.out.1 g1)
      clear hHeld h1 e1 g1 HG HSS HR HV HN
      have HG := HGn
      have HSS := HSSn
      have HR := HRn
      have HV := HVn
      have HN := HNn
      clear HGn HSSn HRn HVn HNn
      refine hKx.out _ _ HSS.out (fun hHeld => ?_)
      clear hKx Kx
      (try simp only [Act.put])
      refine wpAnyH_done (by kernel_rfl) ?_ _
      clear hHeld
      go_upto_region 5 with (first | fail)
      have HSS2 : Hid ((fun W => W.heap[BJ]? = some (.cells #[.int .i64 y0, .int .i64 y1, .int .i64 y2, .int .i64 y3, .int .i64 y4, .int .i64 y5, .int .i64 u] 70 (0, 0)) ∧ W.heap[BN]? = some (.cells #[.bool false, .bool (u == y5), .bool bk] 50 (0, 0))) W7) := hide ⟨HSS.out.1, HN.out⟩
      refine wp_region_held_drew (S := fun W => W.heap[BJ]? = some (.cells #[.int .i64 y0, .int .i64 y1, .int .i64 y2, .int .i64 y3, .int .i64 y4, .int .i64 y5, .int .i64 u] 70 (0, 0)) ∧ W.heap[BN]? = some (.cells #[.bool false, .bool (u == y5), .bool bk] 50 (0, 0))) (by kernel_rfl) HSS2.out (fun hHeld => ?_)
      have HGd : Hid (w.grownBy W7.drew none) := hide (grownBy_trans HG.out (grownBy_draws W7 1 none))
      have HSSd : Hid ((fun W => W.heap[BJ]? = some (.cells #[.int .i64 y0, .int .i64 y1, .int .i64 y2, .int .i64 y3, .int .i64 y4, .int .i64 y5, .int .i64 u] 70 (0, 0)) ∧ W.heap[BN]? = some (.cells #[.bool false, .bool (u == y5), .bool bk] 50 (0, 0))) W7.drew) := hide HSS2.out
      have HRd := hide (box_grown HR.out (grownBy_draws W7 1 none) (by simp))
      have HVd := hide (box_grown HV.out (grownBy_draws W7 1 none) (by simp))
      clear HG HSS HSS2 HR HV HN
      have hdd : W7.drewN 1 = W7.drew := rfl
      rw [hdd] at HRd HVd
      clear hdd
      generalize W7.drew = Z at *
      have HG := HGd
      have HSS := HSSd
      have HR := HRd
      have HV := HVd
      clear HGd HSSd HRd HVd
      refine take_put (i := 0) (v := .agg #[.int .i64 y0, .int .i64 y1, .int .i64 y2, .int .i64 y3, .int .i64 y4, .int .i64 y5, .int .i64 u]) 40 rfl rfl (by kernel_rfl) (by kernel_rfl) (by kernel_rfl) (fun _ _ _ h => h) (Or.inl ⟨by rfl, by intro Wy hSW; have hc := (⟨blk_cell hSW.1 0, blk_cell hSW.1 1, blk_cell hSW.1 2, blk_cell hSW.1 3, blk_cell hSW.1 4, blk_cell hSW.1 5, blk_cell hSW.1 6⟩ : _ ∧ _ ∧ _ ∧ _ ∧ _ ∧ _ ∧ _); go_simp⟩) (by assumption) ?_
      (try simp only [Act.put, List.setIfInBounds_toArray, List.set_cons_zero, List.set_cons_succ])
      refine take_put (i := 1) (v := .agg #[.bool false, .bool (u == y5), .bool bk]) 41 rfl rfl (by kernel_rfl) (by kernel_rfl) (by kernel_rfl) (fun _ _ _ h => h) (Or.inl ⟨by rfl, by intro Wy hSW; have hc := (⟨blk_cell hSW.2 0, blk_cell hSW.2 1, blk_cell hSW.2 2⟩ : _ ∧ _ ∧ _); go_simp⟩) (by assumption) ?_
      (try simp only [Act.put, List.setIfInBounds_toArray, List.set_cons_zero, List.set_cons_succ])
      refine wpAnyH_ready (rs := [2]) (by kernel_rfl) (by simp) ?_
      refine AllReadyH.cons rfl (fun Kx hKx => ?_) AllReadyH.nil
      refine step_store 70 (.tmp 6) (.tmp 40) BR #[.int .i64 y0, .int .i64 y1, .int .i64 y2, .int .i64 y3, .int .i64 y4, .int .i64 y5, .int .i64 u] 70 #[.int .i64 0, .int .i64 0, .int .i64 0, .int .i64 0, .int .i64 0, .int .i64 0, .int .i64 0] rfl rfl HR.out sizeJ rfl (by simp [Value.oneCell']) ?_
      intro Y1 h1 e1 g1
      have HSSn : Hid ((fun W => W.heap[BJ]? = some (.cells #[.int .i64 y0, .int .i64 y1, .int .i64 y2, .int .i64 y3, .int .i64 y4, .int .i64 y5, .int .i64 u] 70 (0, 0)) ∧ W.heap[BN]? = some (.cells #[.bool false, .bool (u == y5), .bool bk] 50 (0, 0))) Y1) := hide ⟨(e1 BJ (by have := HOJ.out; omega)).trans HSS.out.1, (e1 BN (LN.out.2.2.2.1)).trans HSS.out.2⟩
      have HVn := hide ((e1 BV (by have := HOJ.out; omega)).trans HV.out)
      have HRn := hide h1
      have HGn := hide (grown_spoil HG.out LR.out g1)
      clear hHeld h1 e1 g1 HG HSS HR HV
      have HG := HGn
      have HSS := HSSn
      have HR := HRn
      have HV := HVn
      clear HGn HSSn HRn HVn
      refine hKx.out _ _ HSS.out (fun hHeld => ?_)
      clear hKx Kx
      (try simp only [Act.put])
      refine wpAnyH_ready (rs := [3]) (by kernel_rfl) (by simp) ?_
      refine AllReadyH.cons rfl (fun Kx hKx => ?_) AllReadyH.nil
      refine step_store 50 (.tmp 7) (.tmp 41) BV #[.bool false, .bool (u == y5), .bool bk] 50 #[.bool false, .bool false, .bool false] rfl rfl HV.out sizeV rfl (by simp [Value.oneCell']) ?_
      intro Y2 h1 e1 g1
      have HSSn : Hid ((fun W => W.heap[BJ]? = some (.cells #[.int .i64 y0, .int .i64 y1, .int .i64 y2, .int .i64 y3, .int .i64 y4, .int .i64 y5, .int .i64 u] 70 (0, 0)) ∧ W.heap[BN]? = some (.cells #[.bool false, .bool (u == y5), .bool bk] 50 (0, 0))) Y2) := hide ⟨(e1 BJ (by have := HOJ.out; omega)).trans HSS.out.1, (e1 BN (LN.out.2.2.2.2)).trans HSS.out.2⟩
      have HRn := hide ((e1 BR (by have := HOJ.out; omega)).trans HR.out)
      have HVn := hide h1
      have HGn := hide (grown_spoil HG.out LV.out g1)
      clear hHeld h1 e1 g1 HG HSS HR HV
      have HG := HGn
      have HSS := HSSn
      have HR := HRn
      have HV := HVn
      clear HGn HSSn HRn HVn
      refine hKx.out _ _ HSS.out (fun hHeld => ?_)
      clear hKx Kx
      (try simp only [Act.put])
      refine take_put (i := 4) (v := .int .i64 0) 8 rfl rfl (by kernel_rfl) (by kernel_rfl) (by kernel_rfl) (fun _ _ _ h => h) (Or.inl ⟨by rfl, by intro Wy hSW; go_simp⟩) (by assumption) ?_
      (try simp only [Act.put, List.setIfInBounds_toArray, List.set_cons_zero, List.set_cons_succ])
      refine wpAnyH_done (by kernel_rfl) ?_ _
      clear hHeld
      go_wp2
      refine bodyPost_ret (results_rrt rfl _ _ BR 70 #[.int .i64 y0, .int .i64 y1, .int .i64 y2, .int .i64 y3, .int .i64 y4, .int .i64 y5, .int .i64 u] (0, 0) _ BV 50 #[.bool false, .bool (u == y5), .bool bk] (0, 0) _ rfl HR.out Tryz.underlying70 rfl sizeJ rfl HV.out Tryz.underlying50 rfl sizeV) rfl ?_
      rw [HU.out]
      exact ⟨rfl, HG.out⟩
  · skip
    go_simp
    have hg := World.grownBy_alloc W (.cells #[.bool false, .bool false, .bool false] 50) none
    have HNq := hide (heap_alloc_new W (.cells #[.bool false, .bool false, .bool false] 50))
    have LN : Hid (w.heap.size ≤ W.heap.size ∧ W.heap.size ≠ BJ ∧ W.heap.size ≠ BT ∧ W.heap.size ≠ BR ∧ W.heap.size ≠ BV) := hide ⟨HG.out.size, fun e => absurd (box_lt HSS.out.1) (by omega), fun e => absurd (box_lt HSS.out.2) (by omega), fun e => absurd (box_lt HR.out) (by omega), fun e => absurd (box_lt HV.out) (by omega)⟩
    have HGn := hide (grownBy_trans HG.out hg)
    have HSSn : Hid ((fun W => W.heap[BJ]? = some (.cells #[.int .i64 y0, .int .i64 y1, .int .i64 y2, .int .i64 y3, .int .i64 y4, .int .i64 y5, .int .i64 u] 70 (0, 0)) ∧ W.heap[BT]? = some (.cells #[.int .i64 x0, .int .i64 x1, .int .i64 x2, .int .i64 x3, .int .i64 x4, .int .i64 x5] 73 (0, 0))) (W.alloc (.cells #[.bool false, .bool false, .bool false] 50))) := hide ⟨box_grown HSS.out.1 hg (by simp), box_grown HSS.out.2 hg (by simp)⟩
    have HRn := hide (box_grown HR.out hg (by simp))
    have HVn := hide (box_grown HV.out hg (by simp))
    clear HG HSS hHeld HR HV
    have HG := HGn
    have HSS := HSSn
    have HR := HRn
    have HV := HVn
    clear HGn HSSn HRn HVn
    clear hg
    have HN := HNq
    clear HNq
    refine hKx.out _ _ HSS.out (fun hHeld => ?_)
    clear hKx Kx
    (try simp only [Act.put])
    generalize W.alloc (.cells #[.bool false, .bool false, .bool false] 50) = W8 at *
    generalize W.heap.size = BN at *
    refine wpAnyH_ready (rs := [15]) (by kernel_rfl) (by simp) ?_
    refine AllReadyH.cons rfl (fun Kx hKx => ?_) AllReadyH.nil
    go_simp
    refine (CG.out _).mono ?_; rintro e W9 ⟨rfl, hg⟩
    have HGn := hide (grownBy_trans HG.out hg)
    have HSSn : Hid ((fun W => W.heap[BJ]? = some (.cells #[.int .i64 y0, .int .i64 y1, .int .i64 y2, .int .i64 y3, .int .i64 y4, .int .i64 y5, .int .i64 u] 70 (0, 0)) ∧ W.heap[BT]? = some (.cells #[.int .i64 x0, .int .i64 x1, .int .i64 x2, .int .i64 x3, .int .i64 x4, .int .i64 x5] 73 (0, 0))) W9) := hide ⟨box_grown HSS.out.1 hg (by simp), box_grown HSS.out.2 hg (by simp)⟩
    have HRn := hide (box_grown HR.out hg (by simp))
    have HVn := hide (box_grown HV.out hg (by simp))
    have HNn := hide (box_grown HN.out hg (by simp))
    clear HG HSS hHeld HR HV HN
    have HG := HGn
    have HSS := HSSn
    have HR := HRn
    have HV := HVn
    have HN := HNn
    clear HGn HSSn HRn HVn HNn
    clear hg
    refine hKx.out _ _ HSS.out (fun hHeld => ?_)
    clear hKx Kx
    (try simp only [Act.put])
    refine wpAnyH_ready (rs := [17]) (by kernel_rfl) (by simp) ?_
    refine AllReadyH.cons rfl (fun Kx hKx => ?_) AllReadyH.nil
    go_simp
    refine (CK.out _).mono ?_; rintro e W10 ⟨rfl, hg⟩
    have HGn := hide (grownBy_trans HG.out hg)
    have HSSn : Hid ((fun W => W.heap[BJ]? = some (.cells #[.int .i64 y0, .int .i64 y1, .int .i64 y2, .int .i64 y3, .int .i64 y4, .int .i64 y5, .int .i64 u] 70 (0, 0)) ∧ W.heap[BT]? = some (.cells #[.int .i64 x0, .int .i64 x1, .int .i64 x2, .int .i64 x3, .int .i64 x4, .int .i64 x5] 73 (0, 0))) W10) := hide ⟨box_grown HSS.out.1 hg (by simp), box_grown HSS.out.2 hg (by simp)⟩
    have HRn := hide (box_grown HR.out hg (by simp))
    have HVn := hide (box_grown HV.out hg (by simp))
    have HNn := hide (box_grown HN.out hg (by simp))
    clear HG HSS hHeld HR HV HN
    have HG := HGn
    have HSS := HSSn
    have HR := HRn
    have HV := HVn
    have HN := HNn
    clear HGn HSSn HRn HVn HNn
    clear hg
    refine hKx.out _ _ HSS.out (fun hHeld => ?_)
    clear hKx Kx
    (try simp only [Act.put])
    refine take_put (i := 18) (v := .agg #[.bool false, .bool (u == y5), .bool bk]) 39 rfl rfl (by kernel_rfl) (by kernel_rfl) (by kernel_rfl) (fun _ _ _ h => h) (Or.inl ⟨by rfl, by intro Wy hSW; go_simp⟩) (by assumption) ?_
    (try simp only [Act.put, List.setIfInBounds_toArray, List.set_cons_zero, List.set_cons_succ])
    refine wpAnyH_ready (rs := [20]) (by kernel_rfl) (by simp) ?_
    refine AllReadyH.cons rfl (fun Kx hKx => ?_) AllReadyH.nil
    refine step_store 50 (.tmp 9) (.tmp 39) BN #[.bool false, .bool (u == y5), .bool bk] 50 #[.bool false, .bool false, .bool false] rfl rfl HN.out sizeV rfl (by simp [Value.oneCell']) ?_
    intro W11 h1 e1 g1
    have HSSn : Hid ((fun W => W.heap[BJ]? = some (.cells #[.int .i64 y0, .int .i64 y1, .int .i64 y2, .int .i64 y3, .int .i64 y4, .int .i64 y5, .int .i64 u] 70 (0, 0)) ∧ W.heap[BT]? = some (.cells #[.int .i64 x0, .int .i64 x1, .int .i64 x2, .int .i64 x3, .int .i64 x4, .int .i64 x5] 73 (0, 0))) W11) := hide ⟨(e1 BJ LN.out.2.1.symm).trans HSS.out.1, (e1 BT LN.out.2.2.1.symm).trans HSS.out.2⟩
    have HRn := hide ((e1 BR LN.out.2.2.2.1.symm).trans HR.out)
    have HVn := hide ((e1 BV LN.out.2.2.2.2.symm).trans HV.out)
    have HNn := hide h1
    have HGn := hide (grown_spoil HG.out LN.out.1 g1)
    clear hHeld h1 e1 g1 HG HSS HR HV HN
    have HG := HGn
    have HSS := HSSn
    have HR := HRn
    have HV := HVn
    have HN := HNn
    clear HGn HSSn HRn HVn HNn
    refine hKx.out _ _ HSS.out (fun hHeld => ?_)
    clear hKx Kx
    (try simp only [Act.put])
    refine wpAnyH_done (by kernel_rfl) ?_ _
    clear hHeld
    go_upto_region 5 with (first | fail)
    have HSS2 : Hid ((fun W => W.heap[BJ]? = some (.cells #[.int .i64 y0, .int .i64 y1, .int .i64 y2, .int .i64 y3, .int .i64 y4, .int .i64 y5, .int .i64 u] 70 (0, 0)) ∧ W.heap[BN]? = some (.cells #[.bool false, .bool (u == y5), .bool bk] 50 (0, 0))) W11) := hide ⟨HSS.out.1, HN.out⟩
    refine wp_region_held_drew (S := fun W => W.heap[BJ]? = some (.cells #[.int .i64 y0, .int .i64 y1, .int .i64 y2, .int .i64 y3, .int .i64 y4, .int .i64 y5, .int .i64 u] 70 (0, 0)) ∧ W.heap[BN]? = some (.cells #[.bool false, .bool (u == y5), .bool bk] 50 (0, 0))) (by kernel_rfl) HSS2.out (fun hHeld => ?_)
    have HGd : Hid (w.grownBy W11.drew none) := hide (grownBy_trans HG.out (grownBy_draws W11 1 none))
    have HSSd : Hid ((fun W => W.heap[BJ]? = some (.cells #[.int .i64 y0, .int .i64 y1, .int .i64 y2, .int .i64 y3, .int .i64 y4, .int .i64 y5, .int .i64 u] 70 (0, 0)) ∧ W.heap[BN]? = some (.cells #[.bool false, .bool (u == y5), .bool bk] 50 (0, 0))) W11.drew) := hide HSS2.out
    have HRd := hide (box_grown HR.out (grownBy_draws W11 1 none) (by simp))
    have HVd := hide (box_grown HV.out (grownBy_draws W11 1 none) (by simp))
    clear HG HSS HSS2 HR HV HN
    have hdd : W11.drewN 1 = W11.drew := rfl
    rw [hdd] at HRd HVd
    clear hdd
    generalize W11.drew = Z at *
    have HG := HGd
    have HSS := HSSd
    have HR := HRd
    have HV := HVd
    clear HGd HSSd HRd HVd
    refine take_put (i := 0) (v := .agg #[.int .i64 y0, .int .i64 y1, .int .i64 y2, .int .i64 y3, .int .i64 y4, .int .i64 y5, .int .i64 u]) 40 rfl rfl (by kernel_rfl) (by kernel_rfl) (by kernel_rfl) (fun _ _ _ h => h) (Or.inl ⟨by rfl, by intro Wy hSW; have hc := (⟨blk_cell hSW.1 0, blk_cell hSW.1 1, blk_cell hSW.1 2, blk_cell hSW.1 3, blk_cell hSW.1 4, blk_cell hSW.1 5, blk_cell hSW.1 6⟩ : _ ∧ _ ∧ _ ∧ _ ∧ _ ∧ _ ∧ _); go_simp⟩) (by assumption) ?_
    (try simp only [Act.put, List.setIfInBounds_toArray, List.set_cons_zero, List.set_cons_succ])
    refine take_put (i := 1) (v := .agg #[.bool false, .bool (u == y5), .bool bk]) 41 rfl rfl (by kernel_rfl) (by kernel_rfl) (by kernel_rfl) (fun _ _ _ h => h) (Or.inl ⟨by rfl, by intro Wy hSW; have hc := (⟨blk_cell hSW.2 0, blk_cell hSW.2 1, blk_cell hSW.2 2⟩ : _ ∧ _ ∧ _); go_simp⟩) (by assumption) ?_
    (try simp only [Act.put, List.setIfInBounds_toArray, List.set_cons_zero, List.set_cons_succ])
    refine wpAnyH_ready (rs := [2]) (by kernel_rfl) (by simp) ?_
    refine AllReadyH.cons rfl (fun Kx hKx => ?_) AllReadyH.nil
    refine step_store 70 (.tmp 6) (.tmp 40) BR #[.int .i64 y0, .int .i64 y1, .int .i64 y2, .int .i64 y3, .int .i64 y4, .int .i64 y5, .int .i64 u] 70 #[.int .i64 0, .int .i64 0, .int .i64 0, .int .i64 0, .int .i64 0, .int .i64 0, .int .i64 0] rfl rfl HR.out sizeJ rfl (by simp [Value.oneCell']) ?_
    intro Y1 h1 e1 g1
    have HSSn : Hid ((fun W => W.heap[BJ]? = some (.cells #[.int .i64 y0, .int .i64 y1, .int .i64 y2, .int .i64 y3, .int .i64 y4, .int .i64 y5, .int .i64 u] 70 (0, 0)) ∧ W.heap[BN]? = some (.cells #[.bool false, .bool (u == y5), .bool bk] 50 (0, 0))) Y1) := hide ⟨(e1 BJ (by have := HOJ.out; omega)).trans HSS.out.1, (e1 BN (LN.out.2.2.2.1)).trans HSS.out.2⟩
    have HVn := hide ((e1 BV (by have := HOJ.out; omega)).trans HV.out)
    have HRn := hide h1
    have HGn := hide (grown_spoil HG.out LR.out g1)
    clear hHeld h1 e1 g1 HG HSS HR HV
    have HG := HGn
    have HSS := HSSn
    have HR := HRn
    have HV := HVn
    clear HGn HSSn HRn HVn
    refine hKx.out _ _ HSS.out (fun hHeld => ?_)
    clear hKx Kx
    (try simp only [Act.put])
    refine wpAnyH_ready (rs := [3]) (by kernel_rfl) (by simp) ?_
    refine AllReadyH.cons rfl (fun Kx hKx => ?_) AllReadyH.nil
    refine step_store 50 (.tmp 7) (.tmp 41) BV #[.bool false, .bool (u == y5), .bool bk] 50 #[.bool false, .bool false, .bool false] rfl rfl HV.out sizeV rfl (by simp [Value.oneCell']) ?_
    intro Y2 h1 e1 g1
    have HSSn : Hid ((fun W => W.heap[BJ]? = some (.cells #[.int .i64 y0, .int .i64 y1, .int .i64 y2, .int .i64 y3, .int .i64 y4, .int .i64 y5, .int .i64 u] 70 (0, 0)) ∧ W.heap[BN]? = some (.cells #[.bool false, .bool (u == y5), .bool bk] 50 (0, 0))) Y2) := hide ⟨(e1 BJ (by have := HOJ.out; omega)).trans HSS.out.1, (e1 BN (LN.out.2.2.2.2)).trans HSS.out.2⟩
    have HRn := hide ((e1 BR (by have := HOJ.out; omega)).trans HR.out)
    have HVn := hide h1
    have HGn := hide (grown_spoil HG.out LV.out g1)
    clear hHeld h1 e1 g1 HG HSS HR HV
    have HG := HGn
    have HSS := HSSn
    have HR := HRn
    have HV := HVn
    clear HGn HSSn HRn HVn
    refine hKx.out _ _ HSS.out (fun hHeld => ?_)
    clear hKx Kx
    (try simp only [Act.put])
    refine take_put (i := 4) (v := .int .i64 0) 8 rfl rfl (by kernel_rfl) (by kernel_rfl) (by kernel_rfl) (fun _ _ _ h => h) (Or.inl ⟨by rfl, by intro Wy hSW; go_simp⟩) (by assumption) ?_
    (try simp only [Act.put, List.setIfInBounds_toArray, List.set_cons_zero, List.set_cons_succ])
    refine wpAnyH_done (by kernel_rfl) ?_ _
    clear hHeld
    go_wp2
    refine bodyPost_ret (results_rrt rfl _ _ BR 70 #[.int .i64 y0, .int .i64 y1, .int .i64 y2, .int .i64 y3, .int .i64 y4, .int .i64 y5, .int .i64 u] (0, 0) _ BV 50 #[.bool false, .bool (u == y5), .bool bk] (0, 0) _ rfl HR.out Tryz.underlying70 rfl sizeJ rfl HV.out Tryz.underlying50 rfl sizeV) rfl ?_
    rw [HU.out]
    exact ⟨rfl, HG.out⟩
#print axioms ch_high
#print axioms ch_low
#print axioms ch_bad
end Go.Proofs.YtlppfocoonnpjaaGreatDoor.J
