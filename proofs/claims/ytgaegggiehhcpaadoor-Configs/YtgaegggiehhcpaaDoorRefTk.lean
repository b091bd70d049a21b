/- The contract of the document's own Reader.task, proved over the translation. -/
import Derived.Test.YtgaegggiehhcpaaDoorRefNum
namespace Go.Proofs.YtgaegggiehhcpaaDoor.R5
open Go.RowKit
attribute [local go_sem] alloc_drewN setCell_drewN

theorem size73 : (Tryd.prog.info? 52).map (·.size) = some 6 := by kernel_rfl
theorem grown_ab {w W : World} {b g : Nat} (h : w.grownBy W (some b)) (hg : w.heap.size ≤ g) (j : Nat) (u : Value) : w.grownBy (W.setCell ⟨g, j, none⟩ u) (some b) :=
  ⟨h.os, h.tape, h.output, by simpa [World.setCell] using h.size, fun k hk hn => (Below.heap_setCell _ _ _ _ (by simp; omega)).trans (h.block k hk hn)⟩
theorem set6_box {W : World} {B t : Nat} {u0 u1 u2 u3 u4 u5 v0 v1 v2 v3 v4 v5 : Value} (h : W.heap[B]? = some (.cells #[u0, u1, u2, u3, u4, u5] t (0, 0))) : ((((((W.setCell ⟨B, 0, none⟩ v0).setCell ⟨B, 1, none⟩ v1).setCell ⟨B, 2, none⟩ v2).setCell ⟨B, 3, none⟩ v3).setCell ⟨B, 4, none⟩ v4).setCell ⟨B, 5, none⟩ v5).heap[B]? = some (.cells #[v0, v1, v2, v3, v4, v5] t (0, 0)) := by
  simp [World.setCell, Array.getElem?_modify, h]

set_option maxRecDepth 100000 in
set_option maxHeartbeats 2000000 in
theorem task_ref (b : Nat) (s : ByteArray) (st : St) (w : World) (h : RN w b s st) :
    Calls Tryd.prog 70 #[.pointer (some ⟨b, 0, none⟩)] w fun e w' => e = .returned (.agg #[.int .i64 (taskR st).1.kind, .int .i64 (taskR st).1.period, .int .i64 (taskR st).1.deadline, .int .i64 (taskR st).1.clow, .int .i64 (taskR st).1.chigh, .int .i64 (taskR st).1.prio]) ∧ RN w' b s (taskR st).2 ∧ w.grownBy w' (some b) := by
  have CN := hide (fun k hk st W (h : RN W b s st) => num_refI b k hk s st W h)
  have hbl := h.lt
  unfold taskR
  dsimp only
  have C0 := hide (fun W (h : RN W b s st) => CN.out 1 (by omega) st W h)
  have E0 : Hid (numR (1 : Int).toNat st = numR 1 st) := rfl
  rw [E0.out] at C0
  generalize numR 1 st = r0 at *
  obtain ⟨x0, st1⟩ := r0
  dsimp only at C0 ⊢
  have C1 := hide (fun W (h : RN W b s st1) => CN.out 2 (by omega) st1 W h)
  have E1 : Hid (numR (2 : Int).toNat st1 = numR 2 st1) := rfl
  rw [E1.out] at C1
  generalize numR 2 st1 = r1 at *
  obtain ⟨x1, st2⟩ := r1
  dsimp only at C1 ⊢
  have C2 := hide (fun W (h : RN W b s st2) => CN.out 2 (by omega) st2 W h)
  have E2 : Hid (numR (2 : Int).toNat st2 = numR 2 st2) := rfl
  rw [E2.out] at C2
  generalize numR 2 st2 = r2 at *
  obtain ⟨x2, st3⟩ := r2
  dsimp only at C2 ⊢
  have C3 := hide (fun W (h : RN W b s st3) => CN.out 2 (by omega) st3 W h)
  have E3 : Hid (numR (2 : Int).toNat st3 = numR 2 st3) := rfl
  rw [E3.out] at C3
  generalize numR 2 st3 = r3 at *
  obtain ⟨x3, st4⟩ := r3
  dsimp only at C3 ⊢
  have C4 := hide (fun W (h : RN W b s st4) => CN.out 2 (by omega) st4 W h)
  have E4 : Hid (numR (2 : Int).toNat st4 = numR 2 st4) := rfl
  rw [E4.out] at C4
  generalize numR 2 st4 = r4 at *
  obtain ⟨x4, st5⟩ := r4
  dsimp only at C4 ⊢
  have C5 := hide (fun W (h : RN W b s st5) => CN.out 1 (by omega) st5 W h)
  have E5 : Hid (numR (1 : Int).toNat st5 = numR 1 st5) := rfl
  rw [E5.out] at C5
  generalize numR 1 st5 = r5 at *
  obtain ⟨x5, st6⟩ := r5
  dsimp only at C5 ⊢
  clear E0 E1 E2 E3 E4 E5 CN
  have HR0 := hide (show RN ((w.alloc (.cells #[.int .i64 0, .int .i64 0, .int .i64 0, .int .i64 0, .int .i64 0, .int .i64 0] 52)).alloc (.cells #[.int .i64 0, .int .i64 0, .int .i64 0, .int .i64 0, .int .i64 0, .int .i64 0] 52)) b s st from h.kept (grownBy_trans (World.grownBy_alloc w (.cells #[.int .i64 0, .int .i64 0, .int .i64 0, .int .i64 0, .int .i64 0, .int .i64 0] 52) none) (World.grownBy_alloc _ (.cells #[.int .i64 0, .int .i64 0, .int .i64 0, .int .i64 0, .int .i64 0, .int .i64 0] 52) none)) (by simp))
  have HG0 := hide (grownBy_any (r := some b) (grownBy_trans (World.grownBy_alloc w (.cells #[.int .i64 0, .int .i64 0, .int .i64 0, .int .i64 0, .int .i64 0, .int .i64 0] 52) none) (World.grownBy_alloc (w.alloc (.cells #[.int .i64 0, .int .i64 0, .int .i64 0, .int .i64 0, .int .i64 0, .int .i64 0] 52)) (.cells #[.int .i64 0, .int .i64 0, .int .i64 0, .int .i64 0, .int .i64 0, .int .i64 0] 52) none)))
  have HBR := hide (show ((w.alloc (.cells #[.int .i64 0, .int .i64 0, .int .i64 0, .int .i64 0, .int .i64 0, .int .i64 0] 52)).alloc (.cells #[.int .i64 0, .int .i64 0, .int .i64 0, .int .i64 0, .int .i64 0, .int .i64 0] 52)).heap[w.heap.size]? = some (.cells #[.int .i64 0, .int .i64 0, .int .i64 0, .int .i64 0, .int .i64 0, .int .i64 0] 52 (0, 0)) from ((World.grownBy_alloc (w.alloc (.cells #[.int .i64 0, .int .i64 0, .int .i64 0, .int .i64 0, .int .i64 0, .int .i64 0] 52)) (.cells #[.int .i64 0, .int .i64 0, .int .i64 0, .int .i64 0, .int .i64 0, .int .i64 0] 52) none).block w.heap.size (by simp) (by simp)).trans (heap_alloc_new w (.cells #[.int .i64 0, .int .i64 0, .int .i64 0, .int .i64 0, .int .i64 0, .int .i64 0] 52)))
  have HBT := hide (show ((w.alloc (.cells #[.int .i64 0, .int .i64 0, .int .i64 0, .int .i64 0, .int .i64 0, .int .i64 0] 52)).alloc (.cells #[.int .i64 0, .int .i64 0, .int .i64 0, .int .i64 0, .int .i64 0, .int .i64 0] 52)).heap[w.heap.size + 1]? = some (.cells #[.int .i64 0, .int .i64 0, .int .i64 0, .int .i64 0, .int .i64 0, .int .i64 0] 52 (0, 0)) by
    have e := heap_alloc_new (w.alloc (.cells #[.int .i64 0, .int .i64 0, .int .i64 0, .int .i64 0, .int .i64 0, .int .i64 0] 52)) (.cells #[.int .i64 0, .int .i64 0, .int .i64 0, .int .i64 0, .int .i64 0, .int .i64 0] 52)
    simpa using e)
  go_enter Tryd.func70, Tryd.ntmps70
  go_upto_region 2 with fail
  generalize (w.alloc (.cells #[.int .i64 0, .int .i64 0, .int .i64 0, .int .i64 0, .int .i64 0, .int .i64 0] 52)).alloc (.cells #[.int .i64 0, .int .i64 0, .int .i64 0, .int .i64 0, .int .i64 0, .int .i64 0] 52) = v0 at *
  go_wp2_with (first | fail)
  refine (C0.out _ HR0.out).mono ?_; rintro e w0 ⟨rfl, hr, hg⟩
  have NG := hide (grownBy_trans HG0.out hg)
  have NR := hide hr
  have NBR := hide (box_grown HBR.out hg (by simp; omega))
  have NBT := hide (box_grown HBT.out hg (by simp; omega))
  clear hr hg HG0 HR0 HBR HBT
  have k0 : w0.cell? ⟨w.heap.size + 1, 0, none⟩ = some (.int .i64 0) := blk_cell NBT.out 0
  have kf := blk_free NBT.out
  have HG0 := hide (grown_ab NG.out (show w.heap.size ≤ w.heap.size + 1 by omega) 0 (.int .i64 x0))
  have HR1 := hide (NR.out.kept (grownBy_set w0 (w.heap.size + 1) 0 (.int .i64 x0)) (by simp; omega))
  have HBR := hide (box_grown NBR.out (grownBy_set w0 (w.heap.size + 1) 0 (.int .i64 x0)) (by simp))
  have HBT := hide (blk_set (j := 0) (u := .int .i64 x0) NBT.out (cs' := #[.int .i64 x0, .int .i64 0, .int .i64 0, .int .i64 0, .int .i64 0, .int .i64 0]) rfl)
  clear NG NR NBR NBT
  go_upto_region 3 with fail
  clear k0 kf
  generalize w0.setCell ⟨w.heap.size + 1, 0, none⟩ (.int .i64 x0) = v1 at *
  go_wp2_with (first | fail)
  refine (C1.out _ HR1.out).mono ?_; rintro e w1 ⟨rfl, hr, hg⟩
  have NG := hide (grownBy_trans HG0.out hg)
  have NR := hide hr
  have NBR := hide (box_grown HBR.out hg (by simp; omega))
  have NBT := hide (box_grown HBT.out hg (by simp; omega))
  clear hr hg HG0 HR1 HBR HBT
  have k1 : w1.cell? ⟨w.heap.size + 1, 1, none⟩ = some (.int .i64 0) := blk_cell NBT.out 1
  have kf := blk_free NBT.out
  have HG0 := hide (grown_ab NG.out (show w.heap.size ≤ w.heap.size + 1 by omega) 1 (.int .i64 x1))
  have HR2 := hide (NR.out.kept (grownBy_set w1 (w.heap.size + 1) 1 (.int .i64 x1)) (by simp; omega))
  have HBR := hide (box_grown NBR.out (grownBy_set w1 (w.heap.size + 1) 1 (.int .i64 x1)) (by simp))
  have HBT := hide (blk_set (j := 1) (u := .int .i64 x1) NBT.out (cs' := #[.int .i64 x0, .int .i64 x1, .int .i64 0, .int .i64 0, .int .i64 0, .int .i64 0]) rfl)
  clear NG NR NBR NBT
  go_upto_region 4 with fail
  clear k1 kf
  generalize w1.setCell ⟨w.heap.size + 1, 1, none⟩ (.int .i64 x1) = v2 at *
  go_wp2_with (first | fail)
  refine (C2.out _ HR2.out).mono ?_; rintro e w2 ⟨rfl, hr, hg⟩
  have NG := hide (grownBy_trans HG0.out hg)
  have NR := hide hr
  have NBR := hide (box_grown HBR.out hg (by simp; omega))
  have NBT := hide (box_grown HBT.out hg (by simp; omega))
  clear hr hg HG0 HR2 HBR HBT
  have k2 : w2.cell? ⟨w.heap.size + 1, 2, none⟩ = some (.int .i64 0) := blk_cell NBT.out 2
  have kf := blk_free NBT.out
  have HG0 := hide (grown_ab NG.out (show w.heap.size ≤ w.heap.size + 1 by omega) 2 (.int .i64 x2))
  have HR3 := hide (NR.out.kept (grownBy_set w2 (w.heap.size + 1) 2 (.int .i64 x2)) (by simp; omega))
  have HBR := hide (box_grown NBR.out (grownBy_set w2 (w.heap.size + 1) 2 (.int .i64 x2)) (by simp))
  have HBT := hide (blk_set (j := 2) (u := .int .i64 x2) NBT.out (cs' := #[.int .i64 x0, .int .i64 x1, .int .i64 x2, .int .i64 0, .int .i64 0, .int .i64 0]) rfl)
  clear NG NR NBR NBT
  go_upto_region 5 with fail
  clear k2 kf
  generalize w2.setCell ⟨w.heap.size + 1, 2, none⟩ (.int .i64 x2) = v3 at *
  go_wp2_with (first | fail)
  refine (C3.out _ HR3.out).mono ?_; rintro e w3 ⟨rfl, hr, hg⟩
  have NG := hide (grownBy_trans HG0.out hg)
  have NR := hide hr
  have NBR := hide (box_grown HBR.out hg (by simp; omega))
  have NBT := hide (box_grown HBT.out hg (by simp; omega))
  clear hr hg HG0 HR3 HBR HBT
  have k3 : w3.cell? ⟨w.heap.size + 1, 3, none⟩ = some (.int .i64 0) := blk_cell NBT.out 3
  have kf := blk_free NBT.out
  have HG0 := hide (grown_ab NG.out (show w.heap.size ≤ w.heap.size + 1 by omega) 3 (.int .i64 x3))
  have HR4 := hide (NR.out.kept (grownBy_set w3 (w.heap.size + 1) 3 (.int .i64 x3)) (by simp; omega))
  have HBR := hide (box_grown NBR.out (grownBy_set w3 (w.heap.size + 1) 3 (.int .i64 x3)) (by simp))
  have HBT := hide (blk_set (j := 3) (u := .int .i64 x3) NBT.out (cs' := #[.int .i64 x0, .int .i64 x1, .int .i64 x2, .int .i64 x3, .int .i64 0, .int .i64 0]) rfl)
  clear NG NR NBR NBT
  go_upto_region 6 with fail
  clear k3 kf
  generalize w3.setCell ⟨w.heap.size + 1, 3, none⟩ (.int .i64 x3) = v4 at *
  go_wp2_with (first | fail)
  refine (C4.out _ HR4.out).mono ?_; rintro e w4 ⟨rfl, hr, hg⟩
  have NG := hide (grownBy_trans HG0.out hg)
  have NR := hide hr
  have NBR := hide (box_grown HBR.out hg (by simp; omega))
  have NBT := hide (box_grown HBT.out hg (by simp; omega))
  clear hr hg HG0 HR4 HBR HBT
  have k4 : w4.cell? ⟨w.heap.size + 1, 4, none⟩ = some (.int .i64 0) := blk_cell NBT.out 4
  have kf := blk_free NBT.out
  have HG0 := hide (grown_ab NG.out (show w.heap.size ≤ w.heap.size + 1 by omega) 4 (.int .i64 x4))
  have HR5 := hide (NR.out.kept (grownBy_set w4 (w.heap.size + 1) 4 (.int .i64 x4)) (by simp; omega))
  have HBR := hide (box_grown NBR.out (grownBy_set w4 (w.heap.size + 1) 4 (.int .i64 x4)) (by simp))
  have HBT := hide (blk_set (j := 4) (u := .int .i64 x4) NBT.out (cs' := #[.int .i64 x0, .int .i64 x1, .int .i64 x2, .int .i64 x3, .int .i64 x4, .int .i64 0]) rfl)
  clear NG NR NBR NBT
  go_upto_region 7 with fail
  clear k4 kf
  generalize w4.setCell ⟨w.heap.size + 1, 4, none⟩ (.int .i64 x4) = v5 at *
  go_wp2_with (first | fail)
  refine (C5.out _ HR5.out).mono ?_; rintro e w5 ⟨rfl, hr, hg⟩
  have NG := hide (grownBy_trans HG0.out hg)
  have NR := hide hr
  have NBR := hide (box_grown HBR.out hg (by simp; omega))
  have NBT := hide (box_grown HBT.out hg (by simp; omega))
  clear hr hg HG0 HR5 HBR HBT
  have k5 : w5.cell? ⟨w.heap.size + 1, 5, none⟩ = some (.int .i64 0) := blk_cell NBT.out 5
  have kf := blk_free NBT.out
  have HG0 := hide (grown_ab NG.out (show w.heap.size ≤ w.heap.size + 1 by omega) 5 (.int .i64 x5))
  have HR6 := hide (NR.out.kept (grownBy_set w5 (w.heap.size + 1) 5 (.int .i64 x5)) (by simp; omega))
  have HBR := hide (box_grown NBR.out (grownBy_set w5 (w.heap.size + 1) 5 (.int .i64 x5)) (by simp))
  have HBT := hide (blk_set (j := 5) (u := .int .i64 x5) NBT.out (cs' := #[.int .i64 x0, .int .i64 x1, .int .i64 x2, .int .i64 x3, .int .i64 x4, .int .i64 x5]) rfl)
  clear NG NR NBR NBT
  go_upto_region 8 with fail
  clear k5 kf
  generalize w5.setCell ⟨w.heap.size + 1, 5, none⟩ (.int .i64 x5) = v6 at *
  have t0 : v6.cell? ⟨w.heap.size + 1, 0, none⟩ = some (.int .i64 x0) := blk_cell HBT.out 0
  have t1 : v6.cell? ⟨w.heap.size + 1, 1, none⟩ = some (.int .i64 x1) := blk_cell HBT.out 1
  have t2 : v6.cell? ⟨w.heap.size + 1, 2, none⟩ = some (.int .i64 x2) := blk_cell HBT.out 2
  have t3 : v6.cell? ⟨w.heap.size + 1, 3, none⟩ = some (.int .i64 x3) := blk_cell HBT.out 3
  have t4 : v6.cell? ⟨w.heap.size + 1, 4, none⟩ = some (.int .i64 x4) := blk_cell HBT.out 4
  have t5 : v6.cell? ⟨w.heap.size + 1, 5, none⟩ = some (.int .i64 x5) := blk_cell HBT.out 5
  have u0 : v6.cell? ⟨w.heap.size, 0, none⟩ = some (.int .i64 0) := blk_cell HBR.out 0
  have u1 : v6.cell? ⟨w.heap.size, 1, none⟩ = some (.int .i64 0) := blk_cell HBR.out 1
  have u2 : v6.cell? ⟨w.heap.size, 2, none⟩ = some (.int .i64 0) := blk_cell HBR.out 2
  have u3 : v6.cell? ⟨w.heap.size, 3, none⟩ = some (.int .i64 0) := blk_cell HBR.out 3
  have u4 : v6.cell? ⟨w.heap.size, 4, none⟩ = some (.int .i64 0) := blk_cell HBR.out 4
  have u5 : v6.cell? ⟨w.heap.size, 5, none⟩ = some (.int .i64 0) := blk_cell HBR.out 5
  have uf := blk_free HBR.out
  go_wp2
  (try simp only [Exit.inBlock, Exit.then])
  refine bodyPost_ret (results_cell_row rfl _ _ w.heap.size 52 #[.int .i64 x0, .int .i64 x1, .int .i64 x2, .int .i64 x3, .int .i64 x4, .int .i64 x5] (0, 0) _ rfl (set6_box HBR.out) Tryd.underlying52 rfl size73) rfl ?_
  refine ⟨rfl, ?_, ?_⟩
  · repeat refine RN.kept (r := some w.heap.size) ?_ (grownBy_set _ _ _ _) (by simp; omega)
    exact HR6.out
  · repeat refine grown_ab ?_ (Nat.le_refl _) _ _
    exact HG0.out
#print axioms task_ref
end Go.Proofs.YtgaegggiehhcpaaDoor.R5
